/- strconv.ParseUint at octal digits; mode.octal. -/
import Derived.Test.YtalafhfpmkacgaaDoorOcp
import Derived.Lib.IfaceEq
namespace Go.Proofs.YtalafhfpmkacgaaDoor
open Go.RowKit Go.Joins
set_option linter.unusedVariables false
set_option linter.unusedSimpArgs false
set_option maxRecDepth 100000

/-- strconv's two errors lie in their variables. -/
def AtoiLaid (w : World) : Prop := (∃ te pe, w.cell? ⟨5, 0, none⟩ = some (.iface te pe)) ∧ (∃ te pe, w.cell? ⟨6, 0, none⟩ = some (.iface te pe))
theorem lt_of_cell {w : World} {b o : Nat} {v : Value} (h : w.cell? ⟨b, o, none⟩ = some v) : b < w.heap.size := by
  rcases Nat.lt_or_ge b w.heap.size with h0 | h0
  · exact h0
  · simp [World.cell?, Array.getElem?_eq_none h0] at h
theorem AtoiLaid.below {w w' : World} (h : AtoiLaid w) (hb : Below w.heap.size w w') : AtoiLaid w' := by
  obtain ⟨⟨t1, p1, h1⟩, t2, p2, h2⟩ := h
  exact ⟨⟨t1, p1, (hb.cell (p := ⟨5, 0, none⟩) (lt_of_cell h1)).trans h1⟩, t2, p2, (hb.cell (p := ⟨6, 0, none⟩) (lt_of_cell h2)).trans h2⟩

set_option maxHeartbeats 2000000 in
theorem puint_any (l : List UInt8) (h0 : l ≠ []) (ho : ∀ c ∈ l, 48 ≤ c.toNat ∧ c.toNat ≤ 55) (hl : l.length ≤ 1000000) (w : World) (hA : AtoiLaid w) :
    Calls Tryd.prog 46 #[.string (mkS l), .int .i64 8, .int .i64 64] w fun e w' =>
      ((∃ v, p8 0 l = some v ∧ e = .returned (.tuple #[.int .u64 (v : Int), .nilIface])) ∨ (p8 0 l = none ∧ ∃ N, e = .returned (.tuple #[.int .u64 18446744073709551615, .iface 138 (.pointer (some ⟨N, 0, none⟩))]))) ∧ Below w.heap.size w w' := by
  have P := Lib.hid (fun w => parse8_any l h0 ho hl w)
  have hb0 := below_bytesWorld w 5 (mkS l)
  obtain ⟨_, te, pe, hE⟩ := hA.below hb0
  have hz := mkS_size l
  clear hA ho h0
  cases hp : p8 0 l with
  | some v =>
    rw [hp, uintT_some] at P
    go_enter Tryd.func46, Tryd.ntmps46
    go_wp2_with (go_at_call 69; with_reducible refine (P.out _).mono ?_; rintro e w' ⟨rfl, hw⟩; subst hw)
    go_ret2
    refine ⟨?_, hb0⟩
    left
    exact ⟨v, by first | rfl | trivial, rfl⟩
  | none =>
    rw [hp, uintT_none] at P
    have T := Lib.hid (Tryd.strconv_toError_range ⟨#[80, 97, 114, 115, 101, 85, 105, 110, 116]⟩ (mkS l) 8 64 (.iface te pe) (Lib.bytesWorld w 5 (mkS l)) (by rw [hz]; omega) hE (.inr ⟨te, pe, rfl⟩))
    go_enter Tryd.func46, Tryd.ntmps46
    go_wp2_with (first
      | (go_at_call 69; with_reducible refine (P.out _).mono ?_; rintro e w' ⟨rfl, hw⟩; subst hw)
      | (go_at_call 70; with_reducible refine T.out.mono ?_; rintro e w' ⟨N, rfl, _, _, hb⟩))
    go_ret2
    refine ⟨?_, hb0.trans (hb.mono hb0.size)⟩
    right
    exact ⟨by first | rfl | trivial, N, rfl⟩

/-- What octal digits answer. -/
def octOut (v : Nat) : Value := if v ≤ 4095 then .tuple #[.int .i64 (v : Int), .nilIface] else .tuple #[.int .i64 0, .iface 22 (.int .i64 2)]
theorem octOut_le {v : Nat} (h : v ≤ 4095) : octOut v = .tuple #[.int .i64 (v : Int), .nilIface] := if_pos h
theorem octOut_gt {v : Nat} (h : ¬ v ≤ 4095) : octOut v = .tuple #[.int .i64 0, .iface 22 (.int .i64 2)] := if_neg h

set_option maxHeartbeats 2000000 in
theorem octal_any (l : List UInt8) (h : octB l = true) (hl : l.length ≤ 1000000) (w : World) (hA : AtoiLaid w) :
    Calls Tryd.prog 28 #[.string (mkS l)] w fun e w' =>
      e = .returned (octOut (octV 0 l)) ∧ Below w.heap.size w w' := by
  unfold octB at h
  rw [Bool.and_eq_true, Bool.not_eq_true', decide_eq_false_iff_not, decide_eq_true_eq, restS_nil] at h
  obtain ⟨h0, h1⟩ := h
  have P := Lib.hid (puint_any l h0 (fun c hc => (oct_mem c).1 (h1 c hc)) hl w hA)
  clear hA h1
  go_enter Tryd.func28, Tryd.ntmps28
  cases hp : p8 0 l with
  | some v =>
    have hv := p8_some l 0 v hp
    have HV := Lib.hid hv
    have P2 : Hid (Calls Tryd.prog 46 #[.string (mkS l), .int .i64 8, .int .i64 64] w fun e w' => e = .returned (.tuple #[.int .u64 (v : Int), .nilIface]) ∧ Below w.heap.size w w') := Lib.hid (P.out.mono fun e w' ⟨he, hb⟩ => ⟨(by
      rcases he with ⟨u, hu, he⟩ | ⟨hu, _⟩
      · rw [hp] at hu; injection hu with hu; rw [he, hu]
      · rw [hp] at hu; cases hu), hb⟩)
    clear P hp hv
    by_cases h4 : v ≤ 4095
    · have h4' : ¬ (4095 : Int) < (v : Int) := by omega
      go_wp2_with (go_at_call 46; with_reducible refine P2.out.mono ?_; rintro e w' ⟨rfl, hb⟩)
      go_ret2
      exact ⟨by rw [HV.out, octOut_le h4]; rfl, hb⟩
    · have h4' : (4095 : Int) < (v : Int) := by omega
      go_wp2_with (go_at_call 46; with_reducible refine P2.out.mono ?_; rintro e w' ⟨rfl, hb⟩)
      go_ret2
      exact ⟨by rw [HV.out, octOut_gt h4]; rfl, hb⟩
  | none =>
    have hv := p8_none l 0 hp
    have h4 : ¬ octV 0 l ≤ 4095 := by omega
    have P2 : Hid (Calls Tryd.prog 46 #[.string (mkS l), .int .i64 8, .int .i64 64] w fun e w' => (∃ N, e = .returned (.tuple #[.int .u64 18446744073709551615, .iface 138 (.pointer (some ⟨N, 0, none⟩))])) ∧ Below w.heap.size w w') := Lib.hid (P.out.mono fun e w' ⟨he, hb⟩ => ⟨(by
      rcases he with ⟨u, hu, he⟩ | ⟨_, he⟩
      · rw [hp] at hu; cases hu
      · exact he), hb⟩)
    clear P hp hv
    go_wp2_with (go_at_call 46; with_reducible refine P2.out.mono ?_; rintro e w' ⟨⟨N, rfl⟩, hb⟩)
    go_ret2
    exact ⟨by rw [octOut_gt h4]; rfl, hb⟩
end Go.Proofs.YtalafhfpmkacgaaDoor
