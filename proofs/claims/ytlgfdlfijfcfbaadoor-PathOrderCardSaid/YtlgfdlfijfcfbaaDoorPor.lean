/- The keeps' law PathOrder: its walk. -/
import Derived.Test.YtlgfdlfijfcfbaaDoorWay
import Derived.Test.YtlgfdlfijfcfbaaDoorCmp
import Derived.Test.YtlgfdlfijfcfbaaDoorEqs
import Derived.SizedLaws
namespace Go.Proofs.YtlgfdlfijfcfbaaDoor
open Go.RowKit Go.Joins
set_option linter.unusedVariables false

/-- A directory stands ahead of what lies in it. -/
theorem ahead (a b : List UInt8) (ha : rightB a = true) (hb : rightB b = true) (h : inB b a = true) (hne : a ≠ b) : cmpL (partsL a) (partsL b) = -1 := by
  obtain ⟨t, ht⟩ := (in_parts b a hb ha).1 h
  rw [← ht]
  refine cmpL_head _ t fun e => hne ?_
  rw [e, List.append_nil] at ht
  rw [← (right_facts a ha).2.2.2.2.2.1, ← (right_facts b hb).2.2.2.2.2.1, ht]
theorem together (a b c : List UInt8) (ha : rightB a = true) (hb : rightB b = true) (hc : rightB c = true) (h : inB c a = true) (h1 : cmpL (partsL a) (partsL b) < 0) (h2 : cmpL (partsL b) (partsL c) < 0) : inB b a = true :=
  (in_parts b a hb ha).2 (cmpL_between _ _ _ ((in_parts c a hc ha).1 h) h1 h2)

/-- What is asked of the numbers and the answers. -/
def PorOk (t s u : Int) (r1 r2 r3 i1 i2 q qe : Bool) : Prop :=
  (qe = true ↔ t = 0) ∧ (t < 0 → s < 0 → u < 0) ∧ (r1 = true → r2 = true → i1 = true → q = false → t = -1) ∧ (r1 = true → r2 = true → r3 = true → i2 = true → t < 0 → s < 0 → i1 = true)

set_option maxRecDepth 100000 in
set_option maxHeartbeats 40000000 in
theorem por_some (x y z : List UInt8) (X Y : List (List UInt8)) (hX : X.length ≤ 1000) (hY : Y.length ≤ 1000) (t s u t' : Int) (r1 r2 r3 i1 i2 q qe : Bool) (hx : x.length ≤ 200) (hy : y.length ≤ 200) (hz : z.length ≤ 200)
    (hk : (t = -1 ∧ t' = 1 ∧ s = -1 ∧ u = -1) ∨ (t = -1 ∧ t' = 1 ∧ s = 0) ∨ (t = -1 ∧ t' = 1 ∧ s = 1) ∨ (t = 0 ∧ t' = 0) ∨ (t = 1 ∧ t' = -1))
    (hr : (r1 = false) ∨ (r1 = true ∧ r2 = false) ∨ (r1 = true ∧ r2 = true ∧ r3 = false))
    (hO : PorOk t s u r1 r2 r3 i1 i2 q qe)
    (sq : ((mkS x).toList == (mkS y).toList) = q)
    (C1 : Hid (∀ w, Calls Tryd.prog 21 #[.string (mkS x), .string (mkS y)] w fun e w' => e = .returned (.int .i64 t) ∧ Below w.heap.size w w'))
    (C2 : Hid (∀ w, Calls Tryd.prog 21 #[.string (mkS y), .string (mkS x)] w fun e w' => e = .returned (.int .i64 t') ∧ Below w.heap.size w w'))
    (C3 : Hid (∀ w, Calls Tryd.prog 21 #[.string (mkS y), .string (mkS z)] w fun e w' => e = .returned (.int .i64 s) ∧ Below w.heap.size w w'))
    (C4 : Hid (∀ w, Calls Tryd.prog 21 #[.string (mkS x), .string (mkS z)] w fun e w' => e = .returned (.int .i64 u) ∧ Below w.heap.size w w'))
    (P1 : Hid (∀ w, Calls Tryd.prog 13 #[.string (mkS x)] w fun e w' => (∃ v, e = .returned v ∧ SlIs w' v X) ∧ Below w.heap.size w w'))
    (P2 : Hid (∀ w, Calls Tryd.prog 13 #[.string (mkS y)] w fun e w' => (∃ v, e = .returned v ∧ SlIs w' v Y) ∧ Below w.heap.size w w'))
    (hqe : Hid (decide (X = Y) = qe))
    (R1 : Hid (∀ w, Calls Tryd.prog 17 #[.string (mkS x)] w fun e w' => e = .returned (.bool r1) ∧ Below w.heap.size w w'))
    (R2 : Hid (∀ w, Calls Tryd.prog 17 #[.string (mkS y)] w fun e w' => e = .returned (.bool r2) ∧ Below w.heap.size w w'))
    (R3 : Hid (∀ w, Calls Tryd.prog 17 #[.string (mkS z)] w fun e w' => e = .returned (.bool r3) ∧ Below w.heap.size w w'))
    (I1 : Hid (∀ w, Calls Tryd.prog 29 #[.string (mkS y), .string (mkS x)] w fun e w' => e = .returned (.bool i1) ∧ w = w'))
    (I2 : Hid (∀ w, Calls Tryd.prog 29 #[.string (mkS z), .string (mkS x)] w fun e w' => e = .returned (.bool i2) ∧ w = w'))
    (w : World) :
    Calls Tryd.prog 11 #[.string (mkS x), .string (mkS y), .string (mkS z)] w fun e w' => e = .returned (.bool true) ∧ Below w.heap.size w w' := by
  have s1 := mkS_size x
  have s2 := mkS_size y
  have s3 := mkS_size z
  have W := Lib.hid (fun w => wayed_any w)
  have hx' : decide ((200 : Int) < (x.length : Int)) = false := decide_eq_false (by omega)
  have hy' : decide ((200 : Int) < (y.length : Int)) = false := decide_eq_false (by omega)
  have hz' : decide ((200 : Int) < (z.length : Int)) = false := decide_eq_false (by omega)
  have sq' : ((mkS x).toList != (mkS y).toList) = !q := by rw [bne, sq]
  have hB : Below w.heap.size w w := Below.refl _ _
  obtain ⟨o1, o2, o3, o4⟩ := hO
  rcases hk with ⟨rfl, rfl, rfl, rfl⟩ | ⟨rfl, rfl, rfl⟩ | ⟨rfl, rfl, rfl⟩ | ⟨rfl, rfl⟩ | ⟨rfl, rfl⟩ <;>
  rcases hr with rfl | ⟨rfl, rfl⟩ | ⟨rfl, rfl, rfl⟩
  all_goals
    cases qe
    all_goals first
      | exact absurd (o1.1 rfl) (by decide)
      | exact absurd (o1.2 rfl) (by decide)
      | skip
  all_goals
    clear o1 o2 o3 o4
    clear sq sq'
    go_enter Tryd.func11, Tryd.ntmps11
    go_wp2_with (first
      | (go_at_call 26; with_reducible refine (W.out _).mono ?_; rintro e wn ⟨rfl, hn⟩; replace hB := hB.trans (hn.mono hB.size); clear hn)
      | (go_at_call 21; (first | with_reducible refine (C1.out _).mono ?_ | with_reducible refine (C2.out _).mono ?_ | with_reducible refine (C3.out _).mono ?_ | with_reducible refine (C4.out _).mono ?_); rintro e wn ⟨rfl, hn⟩; replace hB := hB.trans (hn.mono hB.size); clear hn)
      | (go_at_call 13; with_reducible refine (P1.out _).mono ?_; rintro e wn ⟨⟨v1, rfl, t1⟩, hn⟩; replace hB := hB.trans (hn.mono hB.size); clear hn; have T1 := Lib.hid t1; clear t1)
      | (go_at_call 13; with_reducible refine (P2.out _).mono ?_; rintro e wn ⟨⟨v2, rfl, t2⟩, hn⟩; have E := Lib.hid (equal_sl v1 v2 X Y (by omega) (by omega) wn (T1.out.below hn) t2); replace hB := hB.trans (hn.mono hB.size); clear hn t2; rw [hqe.out] at E)
      | (go_at_call 28; with_reducible refine E.out.mono ?_; rintro e wn ⟨rfl, hn⟩; replace hB := hB.trans (hn.mono hB.size); clear hn)
      | (go_at_call 17; (first | with_reducible refine (R1.out _).mono ?_ | with_reducible refine (R2.out _).mono ?_ | with_reducible refine (R3.out _).mono ?_); rintro e wn ⟨rfl, hn⟩; replace hB := hB.trans (hn.mono hB.size); clear hn)
      | (go_at_call 29; (first | with_reducible refine (I1.out _).mono ?_ | with_reducible refine (I2.out _).mono ?_); rintro e w' ⟨rfl, rfl⟩))
    go_ret
    exact ⟨by simp, hB⟩
set_option maxRecDepth 100000 in
set_option maxHeartbeats 40000000 in
theorem por_all (x y z : List UInt8) (X Y : List (List UInt8)) (hX : X.length ≤ 1000) (hY : Y.length ≤ 1000) (t s u t' : Int) (r1 r2 r3 i1 i2 q qe : Bool) (hx : x.length ≤ 200) (hy : y.length ≤ 200) (hz : z.length ≤ 200)
    (hk : (t = -1 ∧ t' = 1 ∧ s = -1 ∧ u = -1) ∨ (t = -1 ∧ t' = 1 ∧ s = 0) ∨ (t = -1 ∧ t' = 1 ∧ s = 1) ∨ (t = 0 ∧ t' = 0) ∨ (t = 1 ∧ t' = -1))
    (hr : r1 = true ∧ r2 = true ∧ r3 = true)
    (hO : PorOk t s u r1 r2 r3 i1 i2 q qe)
    (sq : ((mkS x).toList == (mkS y).toList) = q)
    (C1 : Hid (∀ w, Calls Tryd.prog 21 #[.string (mkS x), .string (mkS y)] w fun e w' => e = .returned (.int .i64 t) ∧ Below w.heap.size w w'))
    (C2 : Hid (∀ w, Calls Tryd.prog 21 #[.string (mkS y), .string (mkS x)] w fun e w' => e = .returned (.int .i64 t') ∧ Below w.heap.size w w'))
    (C3 : Hid (∀ w, Calls Tryd.prog 21 #[.string (mkS y), .string (mkS z)] w fun e w' => e = .returned (.int .i64 s) ∧ Below w.heap.size w w'))
    (C4 : Hid (∀ w, Calls Tryd.prog 21 #[.string (mkS x), .string (mkS z)] w fun e w' => e = .returned (.int .i64 u) ∧ Below w.heap.size w w'))
    (P1 : Hid (∀ w, Calls Tryd.prog 13 #[.string (mkS x)] w fun e w' => (∃ v, e = .returned v ∧ SlIs w' v X) ∧ Below w.heap.size w w'))
    (P2 : Hid (∀ w, Calls Tryd.prog 13 #[.string (mkS y)] w fun e w' => (∃ v, e = .returned v ∧ SlIs w' v Y) ∧ Below w.heap.size w w'))
    (hqe : Hid (decide (X = Y) = qe))
    (R1 : Hid (∀ w, Calls Tryd.prog 17 #[.string (mkS x)] w fun e w' => e = .returned (.bool r1) ∧ Below w.heap.size w w'))
    (R2 : Hid (∀ w, Calls Tryd.prog 17 #[.string (mkS y)] w fun e w' => e = .returned (.bool r2) ∧ Below w.heap.size w w'))
    (R3 : Hid (∀ w, Calls Tryd.prog 17 #[.string (mkS z)] w fun e w' => e = .returned (.bool r3) ∧ Below w.heap.size w w'))
    (I1 : Hid (∀ w, Calls Tryd.prog 29 #[.string (mkS y), .string (mkS x)] w fun e w' => e = .returned (.bool i1) ∧ w = w'))
    (I2 : Hid (∀ w, Calls Tryd.prog 29 #[.string (mkS z), .string (mkS x)] w fun e w' => e = .returned (.bool i2) ∧ w = w'))
    (w : World) :
    Calls Tryd.prog 11 #[.string (mkS x), .string (mkS y), .string (mkS z)] w fun e w' => e = .returned (.bool true) ∧ Below w.heap.size w w' := by
  have s1 := mkS_size x
  have s2 := mkS_size y
  have s3 := mkS_size z
  have W := Lib.hid (fun w => wayed_any w)
  have hx' : decide ((200 : Int) < (x.length : Int)) = false := decide_eq_false (by omega)
  have hy' : decide ((200 : Int) < (y.length : Int)) = false := decide_eq_false (by omega)
  have hz' : decide ((200 : Int) < (z.length : Int)) = false := decide_eq_false (by omega)
  have sq' : ((mkS x).toList != (mkS y).toList) = !q := by rw [bne, sq]
  have hB : Below w.heap.size w w := Below.refl _ _
  obtain ⟨o1, o2, o3, o4⟩ := hO
  rcases hk with ⟨rfl, rfl, rfl, rfl⟩ | ⟨rfl, rfl, rfl⟩ | ⟨rfl, rfl, rfl⟩ | ⟨rfl, rfl⟩ | ⟨rfl, rfl⟩ <;>
  obtain ⟨rfl, rfl, rfl⟩ := hr
  all_goals
    cases qe
    all_goals first
      | exact absurd (o1.1 rfl) (by decide)
      | exact absurd (o1.2 rfl) (by decide)
      | skip
  all_goals
    cases i1 <;> cases i2 <;> cases q
    all_goals first
      | exact absurd (o3 rfl rfl rfl rfl) (by decide)
      | exact absurd (o4 rfl rfl rfl rfl (by decide) (by decide)) (by decide)
      | skip
  all_goals
    clear o1 o2 o3 o4
    simp only [Bool.not_true, Bool.not_false] at sq'
    go_enter Tryd.func11, Tryd.ntmps11
    go_wp2_with (first
      | (go_at_call 26; with_reducible refine (W.out _).mono ?_; rintro e wn ⟨rfl, hn⟩; replace hB := hB.trans (hn.mono hB.size); clear hn)
      | (go_at_call 21; (first | with_reducible refine (C1.out _).mono ?_ | with_reducible refine (C2.out _).mono ?_ | with_reducible refine (C3.out _).mono ?_ | with_reducible refine (C4.out _).mono ?_); rintro e wn ⟨rfl, hn⟩; replace hB := hB.trans (hn.mono hB.size); clear hn)
      | (go_at_call 13; with_reducible refine (P1.out _).mono ?_; rintro e wn ⟨⟨v1, rfl, t1⟩, hn⟩; replace hB := hB.trans (hn.mono hB.size); clear hn; have T1 := Lib.hid t1; clear t1)
      | (go_at_call 13; with_reducible refine (P2.out _).mono ?_; rintro e wn ⟨⟨v2, rfl, t2⟩, hn⟩; have E := Lib.hid (equal_sl v1 v2 X Y (by omega) (by omega) wn (T1.out.below hn) t2); replace hB := hB.trans (hn.mono hB.size); clear hn t2; rw [hqe.out] at E)
      | (go_at_call 28; with_reducible refine E.out.mono ?_; rintro e wn ⟨rfl, hn⟩; replace hB := hB.trans (hn.mono hB.size); clear hn)
      | (go_at_call 17; (first | with_reducible refine (R1.out _).mono ?_ | with_reducible refine (R2.out _).mono ?_ | with_reducible refine (R3.out _).mono ?_); rintro e wn ⟨rfl, hn⟩; replace hB := hB.trans (hn.mono hB.size); clear hn)
      | (go_at_call 29; (first | with_reducible refine (I1.out _).mono ?_ | with_reducible refine (I2.out _).mono ?_); rintro e w' ⟨rfl, rfl⟩))
    go_ret
    exact ⟨by simp, hB⟩
end Go.Proofs.YtlgfdlfijfcfbaaDoor
