/- Octal digits: internal/strconv.ParseUint, strconv.ParseUint, mode.octal. -/
import Derived.Test.YtalafhfpmkacgaaDoorByt
import Derived.Test.YtalafhfpmkacgaaDoorShelf
import Derived.Lib.AtoiAllMem
import Derived.Lib.AtoiErrMem
import Derived.Laws.Strings3
import Derived.Laws.Closers25
import Derived.BigCall
import Derived.BigGuard
namespace Go.Proofs.YtalafhfpmkacgaaDoor
open Go.RowKit Go.Joins
set_option linter.unusedVariables false
set_option linter.unusedSimpArgs false
set_option maxRecDepth 100000

/-- The number of octal digits, as far as it is less than 2^64. -/
def p8 : Nat → List UInt8 → Option Nat
  | a, [] => some a
  | a, c :: l => if 2305843009213693952 ≤ a then none else p8 (ovS a c) l
theorem p8_nil (a : Nat) : p8 a [] = some a := rfl
theorem p8_cons (a : Nat) (c : UInt8) (l : List UInt8) : p8 a (c :: l) = if 2305843009213693952 ≤ a then none else p8 (ovS a c) l := rfl
theorem p8_some (l : List UInt8) : ∀ a v, p8 a l = some v → octV a l = v := by
  induction l with
  | nil => intro a v h; rw [p8_nil] at h; injection h
  | cons c l ih =>
    intro a v h
    rw [p8_cons] at h
    split at h
    · cases h
    · rw [octV_cons]; exact ih _ v h
theorem p8_none (l : List UInt8) : ∀ a, p8 a l = none → 2305843009213693952 ≤ octV a l := by
  induction l with
  | nil => intro a h; rw [p8_nil] at h; cases h
  | cons c l ih =>
    intro a h
    rw [p8_cons] at h
    split at h
    · next hh => exact Nat.le_trans hh (octV_le _ _)
    · rw [octV_cons]; exact ih _ h
def uintT : Option Nat → Value
  | some a => .tuple #[.int .u64 (a : Int), .nilIface]
  | none => .tuple #[.int .u64 18446744073709551615, .iface 136 (.int .i64 1)]
theorem uintT_some (a : Nat) : uintT (some a) = .tuple #[.int .u64 (a : Int), .nilIface] := rfl
theorem uintT_none : uintT none = .tuple #[.int .u64 18446744073709551615, .iface 136 (.int .i64 1)] := rfl

set_option maxHeartbeats 8000000 in
theorem parse8_any (l : List UInt8) (h0 : l ≠ []) (ho : ∀ c ∈ l, 48 ≤ c.toNat ∧ c.toNat ≤ 55) (hl : l.length ≤ 1000000) (w : World) :
    Calls Tryd.prog 69 #[.string (mkS l), .int .i64 8, .int .i64 64] w fun e w' => e = .returned (uintT (p8 0 l)) ∧ w' = Lib.bytesWorld w 5 (mkS l) := by
  have hemp := mkS_emp l h0
  have hz := mkS_size l
  have hcv := Lib.run_convert_string_bytes (P := Tryd.prog) w 9 59 5 (mkS l) Tryd.underlying9 Tryd.underlying59 Tryd.underlying5
  have hB : ∀ (j : Nat) c, l[j]? = some c → (Lib.bytesWorld w 5 (mkS l)).cell? ⟨w.heap.size, j, none⟩ = some (.int .u8 (c.toNat : Int)) := fun j c hj => by
    have hlt := (List.getElem?_eq_some_iff.1 hj).1
    have := Lib.bytesWorld_cell w 5 (mkS l) j (by rw [mkS_size]; exact hlt)
    rw [mkS_list, List.getD_eq_getElem?_getD, hj] at this
    exact this
  obtain ⟨W1, hW1⟩ : ∃ W1, W1 = Lib.bytesWorld w 5 (mkS l) := ⟨_, rfl⟩
  rw [← hW1] at hcv hB ⊢
  clear hW1
  have HB := Lib.hid hB
  have HO := Lib.hid ho
  obtain ⟨n, hn⟩ : ∃ n, l.length = n := ⟨_, rfl⟩
  rw [hn] at hz hl
  rw [hz] at hcv
  have HL := Lib.hid hn
  obtain ⟨PF, hPF⟩ : ∃ x, uintT (p8 0 l) = x := ⟨_, rfl⟩
  rw [hPF]
  have HPF := Lib.hid hPF
  clear hB ho hn h0 hPF
  have hmv : IntKind.u64.wrap (IntKind.u64.wrap 18446744073709551616 - 1) = 18446744073709551615 := by
    rw [IntKind.wrap_u64, IntKind.wrap_u64]
    decide
  go_enter Tryd.func69, Tryd.ntmps69
  go_wp2
  go_loop [12, 13, 101] (fun vu vn vi => ∃ (k acc : Nat) (a : Int), vu = .bool false ∧ vn = .int .u64 a ∧ vi = .int .i64 k ∧ k ≤ n ∧ Hid (a = (acc : Int) ∧ acc < 18446744073709551616 ∧ p8 0 l = p8 acc (l.drop k)))
    (fun _ _ vi => n - (intOf vi).toNat)
  case atStart => exact ⟨0, 0, 0, rfl, rfl, rfl, by omega, rfl, by omega, rfl⟩
  case round =>
    obtain ⟨k, acc, a, rfl, rfl, rfl, hk, hh⟩ := hrel
    obtain ⟨ha, hacc, hdec⟩ := hh.out
    clear hh
    have a0 : 0 ≤ a := by omega
    have a1 : a < 18446744073709551616 := by omega
    by_cases hkn : k < n
    · obtain ⟨c, hck⟩ : ∃ c, l[k]? = some c := ⟨_, List.getElem?_eq_getElem (by rw [HL.out]; exact hkn)⟩
      have hc := HB.out k c hck
      obtain ⟨hd0, hd1⟩ := HO.out c (List.mem_of_getElem? hck)
      have hdrop : l.drop k = c :: l.drop (k + 1) := by
        rw [List.drop_eq_getElem_cons (by rw [HL.out]; exact hkn)]
        congr 1
        exact (List.getElem?_eq_some_iff.1 hck).2
      rw [hdrop, p8_cons] at hdec
      by_cases hcut : 2305843009213693952 ≤ acc
      · rw [if_pos hcut] at hdec
        have icut : 2305843009213693952 ≤ a := by omega
        have HF := Lib.hid (show PF = uintT none from by rw [← HPF.out, hdec])
        clear hcut hacc ha hdec hck hdrop
        go_wp2
        go_ret2
        exact ⟨by rw [HF.out]; rfl, rfl⟩
      · rw [if_neg hcut] at hdec
        have hd : c.toNat - 48 ≤ 7 := by omega
        have HN : Hid (a * 8 + ((c.toNat : Int) - 48) = (ovS acc c : Nat) ∧ ovS acc c < 18446744073709551616 ∧ p8 0 l = p8 (ovS acc c) (l.drop (k + 1))) := Lib.hid ⟨by unfold ovS; omega, by unfold ovS; omega, hdec⟩
        have icut : a < 2305843009213693952 := by omega
        have iov : a * 8 + ((c.toNat : Int) - 48) < 18446744073709551616 := by omega
        clear hcut hacc hdec ha hck hdrop hd
        go_wp2
        refine ⟨⟨k + 1, ovS acc c, a * 8 + ((c.toNat : Int) - 48), rfl, (by first | rfl | (congr 1; omega)), (by first | rfl | (congr 1; omega)), by omega, HN⟩, by simp [intOf]; omega⟩
    · obtain rfl : k = n := by omega
      have HF := Lib.hid (show PF = uintT (some acc) from by rw [← HPF.out, hdec, List.drop_eq_nil_of_le (by rw [HL.out]; exact Nat.le_refl _), p8_nil])
      subst ha
      clear hacc hdec a0 a1
      go_wp2
      go_ret2
      exact ⟨by rw [HF.out]; rfl, rfl⟩
end Go.Proofs.YtalafhfpmkacgaaDoor
