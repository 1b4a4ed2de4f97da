/- Digits of texts: isDigits, value, nanoseconds, strings.Cut at a point: what each returns. -/
import Derived.Test.YtncdmineepagpaaDoorTxt
namespace Go.Proofs.YtncdmineepagpaaDoor
open Go.RowKit Go.Joins

theorem mkS_emp (l : List UInt8) (h : l ≠ []) : (mkS l).toList.isEmpty = false := by
  rw [ByteArray.toList_eq, mkS_list]
  cases l with
  | nil => exact absurd rfl h
  | cons c r => rfl
theorem mkS_emp_nil : (mkS []).toList.isEmpty = true := by rw [ByteArray.toList_eq, mkS_list]; rfl
theorem mkS_emp_any (l : List UInt8) : (mkS l).toList.isEmpty = decide (l = []) := by
  rw [ByteArray.toList_eq, mkS_list]
  cases l <;> simp

/-- Whether a byte is a digit. -/
def dig (c : UInt8) : Bool := decide (48 ≤ c.toNat) && decide (c.toNat ≤ 57)
def isDig (l : List UInt8) : Bool := l.all dig && !decide (l = [])
theorem dig_iff (c : UInt8) : dig c = true ↔ 48 ≤ c.toNat ∧ c.toNat ≤ 57 := by simp [dig]
theorem take_all (l : List UInt8) (k : Nat) (c : UInt8) (h : l[k]? = some c) : (l.take (k + 1)).all dig = ((l.take k).all dig && dig c) := by
  rw [List.take_add_one, h, List.all_append]
  simp
theorem all_false (l : List UInt8) (k : Nat) (c : UInt8) (h : l[k]? = some c) (hc : dig c = false) : isDig l = false := by
  have : l.all dig = false := by
    rw [Bool.eq_false_iff]
    intro ha
    rw [List.all_eq_true] at ha
    have := ha c (List.mem_of_getElem? h)
    rw [hc] at this; cases this
  rw [isDig, this, Bool.false_and]

set_option maxHeartbeats 1000000 in
theorem isDigits_any (l : List UInt8) (w : World) (hl : l.length ≤ 1000) :
    Calls Tryd.prog 37 #[.string (mkS l)] w fun e w' => e = .returned (.bool (isDig l)) ∧ w' = w := by
  have hsz := mkS_size l
  go_enter Tryd.func37, Tryd.ntmps37
  go_wp2
  go_loop [6] (fun i => ∃ k : Nat, k ≤ l.length ∧ i = .int .i64 k ∧ (l.take k).all dig = true) (fun i => l.length - (intOf i).toNat)
  case atStart => exact ⟨0, Nat.zero_le _, rfl, rfl⟩
  case round =>
    obtain ⟨k, hk, rfl, hall⟩ := hrel
    by_cases hlt : k < l.length
    · have hlt' : (k : Int) < (l.length : Int) := by omega
      obtain ⟨c, hc⟩ : ∃ c, l[k]? = some c := ⟨_, List.getElem?_eq_getElem hlt⟩
      have hix := fun w => mkS_index l (k : Int) c (by omega) (by rw [Int.toNat_natCast]; exact hc) w
      have Hc := Lib.hid hc
      have Hall := Lib.hid hall
      clear hc hall
      by_cases h48 : (c.toNat : Int) < 48
      · have hfin : isDig l = false := all_false l k c Hc.out (by rw [Bool.eq_false_iff, ne_eq, dig_iff]; omega)
        have Hf := Lib.hid hfin
        clear hfin
        go_wp2
        go_ret
        exact ⟨by rw [Hf.out]; rfl, rfl⟩
      · have h48' : decide ((c.toNat : Int) < 48) = false := by simpa using h48
        by_cases h57 : 57 < (c.toNat : Int)
        · have hfin : isDig l = false := all_false l k c Hc.out (by rw [Bool.eq_false_iff, ne_eq, dig_iff]; omega)
          have Hf := Lib.hid hfin
          clear hfin
          go_wp2
          go_ret
          exact ⟨by rw [Hf.out]; rfl, rfl⟩
        · have h57' : decide (57 < (c.toNat : Int)) = false := by simpa using h57
          have hd : dig c = true := (dig_iff c).2 (by omega)
          have Hd := Lib.hid hd
          clear hd
          go_wp2
          go_round
          case rel => exact ⟨k + 1, by omega, by go_num, by rw [take_all l k c Hc.out, Hall.out, Hd.out]; rfl⟩
          case measure => simp [intOf]; omega
    · obtain rfl : k = l.length := by omega
      have hlt' : decide ((l.length : Int) < (l.length : Int)) = false := by simp
      rw [List.take_length] at hall
      have he := mkS_emp_any l
      have Hall := Lib.hid hall
      clear hall
      go_wp2
      go_ret
      exact ⟨by rw [isDig, Hall.out]; rfl, rfl⟩

/-- The number of digits. -/
def valD (l : List UInt8) : Int := l.foldl (fun n c => 10 * n + ((c.toNat : Int) - 48)) 0
theorem valD_snoc (l : List UInt8) (c : UInt8) : valD (l ++ [c]) = 10 * valD l + ((c.toNat : Int) - 48) := by simp [valD]
theorem valD_take (l : List UInt8) (k : Nat) (c : UInt8) (h : l[k]? = some c) : valD (l.take (k + 1)) = 10 * valD (l.take k) + ((c.toNat : Int) - 48) := by
  rw [List.take_add_one, h, Option.toList_some, valD_snoc]
theorem valD_lt : ∀ (k : Nat) (l : List UInt8), l.length = k → l.all dig = true → 0 ≤ valD l ∧ valD l < ((10 ^ k : Nat) : Int)
  | 0, l, h, _ => by obtain rfl := List.eq_nil_of_length_eq_zero h; decide
  | k + 1, l, h, ha => by
    rcases List.eq_nil_or_concat l with rfl | ⟨y, c, rfl⟩
    · cases h
    · rw [List.concat_eq_append] at *
      rw [List.all_append, Bool.and_eq_true] at ha
      have hc := (dig_iff c).1 (by simpa using ha.2)
      obtain ⟨i1, i2⟩ := valD_lt k y (by simpa using h) ha.1
      rw [valD_snoc, Nat.pow_succ]
      omega
theorem pow10_le {k m : Nat} (h : k ≤ m) : 10 ^ k ≤ 10 ^ m := Nat.pow_le_pow_right (by decide) h

set_option maxHeartbeats 1000000 in
theorem value_any (l : List UInt8) (w : World) (hl : l.length ≤ 17) (ha : l.all dig = true) :
    Calls Tryd.prog 39 #[.string (mkS l)] w fun e w' => e = .returned (.int .i64 (valD l)) ∧ w' = w := by
  have hsz := mkS_size l
  have hmem : ∀ (k : Nat) c, l[k]? = some c → 48 ≤ c.toNat ∧ c.toNat ≤ 57 := fun k c h => (dig_iff c).1 ((List.all_eq_true.1 ha) c (List.mem_of_getElem? h))
  have hb : ∀ k, k ≤ l.length → 0 ≤ valD (l.take k) ∧ valD (l.take k) < 100000000000000000 := fun k hk => by
    have h1 : (l.take k).length = k := by rw [List.length_take]; omega
    have h2 : (l.take k).all dig = true := List.all_eq_true.2 fun c hc => (List.all_eq_true.1 ha) c (List.mem_of_mem_take hc)
    have h3 := valD_lt k (l.take k) h1 h2
    have h4 := pow10_le (show k ≤ 17 by omega)
    have h5 : (10 : Nat) ^ 17 = 100000000000000000 := by decide
    omega
  have Hb := Lib.hid hb
  have Hm := Lib.hid hmem
  clear hb hmem
  go_enter Tryd.func39, Tryd.ntmps39
  go_wp2
  go_loop [3, 7] (fun n i => ∃ k : Nat, k ≤ l.length ∧ i = .int .i64 k ∧ n = .int .i64 (valD (l.take k))) (fun _ i => l.length - (intOf i).toNat)
  case atStart => exact ⟨0, Nat.zero_le _, rfl, rfl⟩
  case round =>
    obtain ⟨k, hk, rfl, rfl⟩ := hrel
    by_cases hlt : k < l.length
    · have hlt' : (k : Int) < (l.length : Int) := by omega
      obtain ⟨c, hc⟩ : ∃ c, l[k]? = some c := ⟨_, List.getElem?_eq_getElem hlt⟩
      have hix := fun w => mkS_index l (k : Int) c (by omega) (by rw [Int.toNat_natCast]; exact hc) w
      have hc1 := Hm.out k c hc
      have hc2 : 48 ≤ (c.toNat : Int) ∧ (c.toNat : Int) ≤ 57 := by omega
      have hv := Hb.out k hk
      have hs := valD_take l k c hc
      have Hs := Lib.hid hs
      clear hs hc hc1
      generalize valD (l.take k) = v at hv Hs
      go_wp2
      go_round
      case rel => exact ⟨k + 1, by omega, by go_num, by rw [Hs.out]⟩
      case measure => simp [intOf]; omega
    · obtain rfl : k = l.length := by omega
      have hlt' : decide ((l.length : Int) < (l.length : Int)) = false := by simp
      rw [List.take_length]
      go_wp2
      go_ret
      exact ⟨rfl, rfl⟩
end Go.Proofs.YtncdmineepagpaaDoor
