/- stamp.Parse: the time that any text is. -/
import Derived.Test.YtncdmineepagpaaDoorNan
namespace Go.Proofs.YtncdmineepagpaaDoor
open Go.RowKit Go.Joins

/-- An error, by its number. -/
def errV (c : Int) : Value := if c = 0 then .nilIface else .iface 24 (.int .i64 c)
def negS (sec N : Int) : Int := if N = 0 then -sec else -sec - 1
def negN (N : Int) : Int := if N = 0 then 0 else 1000000000 - N
/-- A time out of its parts. -/
def timeF (neg : Bool) (sec nano : Int) (more : Bool) : Int × Int × Int :=
  let N := if neg && more then nano + 1 else nano
  let s := if neg then negS sec N else sec
  let n := if neg then negN N else N
  if rightB s n then (0, s, n) else (2, 0, 0)
/-- What Parse answers: the error's number, the time. -/
def parseF (l : List UInt8) : Int × Int × Int :=
  let u := Lib.trimPrefix l [45]
  if isDig (wholeOf u) && (!pointOf u || isDig (fracOf u)) then
    if 15 < (Lib.trimLeftB (wholeOf u) 48).length then (2, 0, 0)
    else timeF (Lib.hasPrefix l [45]) (valD (Lib.trimLeftB (wholeOf u) 48)) (nanoD (fracOf u)) (moreD (fracOf u))
  else (3, 0, 0)

theorem negate_any (sec N : Int) (w : World) (h1 : -1099511627776000 ≤ sec) (h2 : sec ≤ 1099511627776000) (h3 : 0 ≤ N) (h4 : N ≤ 1000000000) :
    Calls Tryd.prog 41 #[.int .i64 sec, .int .i64 N] w fun e w' => e = .returned (.tuple #[.int .i64 (negS sec N), .int .i64 (negN N)]) ∧ w' = w := by
  by_cases h : N = 0
  · subst h
    have e1 : negS sec 0 = -sec := rfl
    rw [e1]
    go_enter Tryd.func41, Tryd.ntmps41
    go_wp2
    go_ret2
    exact ⟨rfl, rfl⟩
  · have e1 : negS sec N = -sec - 1 := by unfold negS; rw [if_neg h]
    have e2 : negN N = 1000000000 - N := by unfold negN; rw [if_neg h]
    rw [e1, e2]
    exact negate_n sec N w h1 h2 (by omega) (by omega) h

section
variable {l u a b : List UInt8} {neg pt : Bool} (w : World)
  (HCP : Hid (∀ w, Calls Tryd.prog 36 #[.string (mkS l), .string { data := #[45] }] w fun e w' => e = .returned (.tuple #[.string (mkS u), .bool neg]) ∧ w' = w))
  (HC : Hid (∀ w, Calls Tryd.prog 25 #[.string (mkS u), .string { data := #[46] }] w fun e w' => e = .returned (.tuple #[.string (mkS a), .string (mkS b), .bool pt]) ∧ ∃ n, w' = w.drewN n))
include HCP HC

theorem parse_form1 (HD1 : Hid (∀ w, Calls Tryd.prog 37 #[.string (mkS a)] w fun e w' => e = .returned (.bool false) ∧ w' = w)) :
    Calls Tryd.prog 12 #[.string (mkS l)] w fun e w' => e = .returned (.tuple #[tmV 0 0, errV 3]) ∧ Below w.heap.size w w' := by
  go_enter Tryd.func12, Tryd.ntmps12
  go_wp2_with (first
    | (go_at_call 36; refine (HCP.out _).mono ?_; rintro e w' ⟨rfl, hw⟩; replace hw := hw.symm; subst hw)
    | (go_at_call 25; refine (HC.out _).mono ?_; rintro e w' ⟨rfl, nn, rfl⟩)
    | (go_at_call 37; with_reducible refine (HD1.out _).mono ?_; rintro e w' ⟨rfl, hw⟩; replace hw := hw.symm; subst hw))
  exact bodyPost_ret (v := .tuple #[tmV 0 0, errV 3]) (by simp [results, Tryd.results12, go_sem, errV]) rfl ⟨rfl, (((below_alloc1 w _).trans (below_draws _ _ nn)).setCell (by simp) _).setCell (by simp) _⟩

theorem parse_form2 (hpt : pt = true) (HD1 : Hid (∀ w, Calls Tryd.prog 37 #[.string (mkS a)] w fun e w' => e = .returned (.bool true) ∧ w' = w)) (HD2 : Hid (∀ w, Calls Tryd.prog 37 #[.string (mkS b)] w fun e w' => e = .returned (.bool false) ∧ w' = w)) :
    Calls Tryd.prog 12 #[.string (mkS l)] w fun e w' => e = .returned (.tuple #[tmV 0 0, errV 3]) ∧ Below w.heap.size w w' := by
  subst hpt
  go_enter Tryd.func12, Tryd.ntmps12
  go_wp2_with (first
    | (go_at_call 36; refine (HCP.out _).mono ?_; rintro e w' ⟨rfl, hw⟩; replace hw := hw.symm; subst hw)
    | (go_at_call 25; refine (HC.out _).mono ?_; rintro e w' ⟨rfl, nn, rfl⟩)
    | (go_at_call 37; with_reducible refine (HD1.out _).mono ?_; rintro e w' ⟨rfl, hw⟩; replace hw := hw.symm; subst hw)
    | (go_at_call 37; with_reducible refine (HD2.out _).mono ?_; rintro e w' ⟨rfl, hw⟩; replace hw := hw.symm; subst hw))
  exact bodyPost_ret (v := .tuple #[tmV 0 0, errV 3]) (by simp [results, Tryd.results12, go_sem, errV]) rfl ⟨rfl, (((below_alloc1 w _).trans (below_draws _ _ nn)).setCell (by simp) _).setCell (by simp) _⟩

variable {t : List UInt8}
  (HD1 : Hid (∀ w, Calls Tryd.prog 37 #[.string (mkS a)] w fun e w' => e = .returned (.bool true) ∧ w' = w))
  (HT : Hid (∀ w, Calls Tryd.prog 38 #[.string (mkS a), .string { data := #[48] }] w fun e w' => e = .returned (.string (mkS t)) ∧ w' = w))
include HD1 HT

theorem parse_range_false (hpt : pt = false) (ht : 15 < (t.length : Int)) :
    Calls Tryd.prog 12 #[.string (mkS l)] w fun e w' => e = .returned (.tuple #[tmV 0 0, errV 2]) ∧ Below w.heap.size w w' := by
  subst hpt
  have hsz := mkS_size t
  go_enter Tryd.func12, Tryd.ntmps12
  go_wp2_with (first
    | (go_at_call 36; refine (HCP.out _).mono ?_; rintro e w' ⟨rfl, hw⟩; replace hw := hw.symm; subst hw)
    | (go_at_call 25; refine (HC.out _).mono ?_; rintro e w' ⟨rfl, nn, rfl⟩)
    | (go_at_call 37; with_reducible refine (HD1.out _).mono ?_; rintro e w' ⟨rfl, hw⟩; replace hw := hw.symm; subst hw)
    | (go_at_call 38; with_reducible refine (HT.out _).mono ?_; rintro e w' ⟨rfl, hw⟩; replace hw := hw.symm; subst hw))
  exact bodyPost_ret (v := .tuple #[tmV 0 0, errV 2]) (by simp [results, Tryd.results12, go_sem, errV]) rfl ⟨rfl, (((below_alloc1 w _).trans (below_draws _ _ nn)).setCell (by simp) _).setCell (by simp) _⟩

theorem parse_range_true (hpt : pt = true) (HD2 : Hid (∀ w, Calls Tryd.prog 37 #[.string (mkS b)] w fun e w' => e = .returned (.bool true) ∧ w' = w)) (ht : 15 < (t.length : Int)) :
    Calls Tryd.prog 12 #[.string (mkS l)] w fun e w' => e = .returned (.tuple #[tmV 0 0, errV 2]) ∧ Below w.heap.size w w' := by
  subst hpt
  have hsz := mkS_size t
  go_enter Tryd.func12, Tryd.ntmps12
  go_wp2_with (first
    | (go_at_call 36; refine (HCP.out _).mono ?_; rintro e w' ⟨rfl, hw⟩; replace hw := hw.symm; subst hw)
    | (go_at_call 25; refine (HC.out _).mono ?_; rintro e w' ⟨rfl, nn, rfl⟩)
    | (go_at_call 37; with_reducible refine (HD1.out _).mono ?_; rintro e w' ⟨rfl, hw⟩; replace hw := hw.symm; subst hw)
    | (go_at_call 37; with_reducible refine (HD2.out _).mono ?_; rintro e w' ⟨rfl, hw⟩; replace hw := hw.symm; subst hw)
    | (go_at_call 38; with_reducible refine (HT.out _).mono ?_; rintro e w' ⟨rfl, hw⟩; replace hw := hw.symm; subst hw))
  exact bodyPost_ret (v := .tuple #[tmV 0 0, errV 2]) (by simp [results, Tryd.results12, go_sem, errV]) rfl ⟨rfl, (((below_alloc1 w _).trans (below_draws _ _ nn)).setCell (by simp) _).setCell (by simp) _⟩

variable {sec nano : Int} (ht : (t.length : Int) ≤ 15)
  (HV : Hid (∀ w, Calls Tryd.prog 39 #[.string (mkS t)] w fun e w' => e = .returned (.int .i64 sec) ∧ w' = w))
include ht HV

theorem parse_false_false_any_true {mo : Bool} (hpt : pt = false) (hneg : neg = false) (HN : Hid (∀ w, Calls Tryd.prog 40 #[.string (mkS b)] w fun e w' => e = .returned (.tuple #[.int .i64 nano, .bool mo]) ∧ w' = w)) (HR : Hid (∀ w, Calls Tryd.prog 42 #[tmV sec nano] w fun e w' => e = .returned (.bool true) ∧ w' = w.alloc (.cells #[.int .i64 sec, .int .i64 nano] 23))) :
    Calls Tryd.prog 12 #[.string (mkS l)] w fun e w' => e = .returned (.tuple #[tmV sec nano, errV 0]) ∧ Below w.heap.size w w' := by
  subst hpt hneg
  have hsz := mkS_size t
  go_enter Tryd.func12, Tryd.ntmps12
  go_wp2_with (first
    | (go_at_call 36; refine (HCP.out _).mono ?_; rintro e w' ⟨rfl, hw⟩; replace hw := hw.symm; subst hw)
    | (go_at_call 25; refine (HC.out _).mono ?_; rintro e w' ⟨rfl, nn, rfl⟩)
    | (go_at_call 37; with_reducible refine (HD1.out _).mono ?_; rintro e w' ⟨rfl, hw⟩; replace hw := hw.symm; subst hw)
    | (go_at_call 38; with_reducible refine (HT.out _).mono ?_; rintro e w' ⟨rfl, hw⟩; replace hw := hw.symm; subst hw)
    | (go_at_call 39; with_reducible refine (HV.out _).mono ?_; rintro e w' ⟨rfl, hw⟩; replace hw := hw.symm; subst hw)
    | (go_at_call 40; with_reducible refine (HN.out _).mono ?_; rintro e w' ⟨rfl, hw⟩; replace hw := hw.symm; subst hw)
    | (go_at_call 42; with_reducible refine (HR.out _).mono ?_; rintro e w' ⟨rfl, hw⟩; replace hw := hw.symm; subst hw))
  exact bodyPost_ret (v := .tuple #[tmV sec nano, errV 0]) (by simp [results, Tryd.results12, go_sem, errV]) rfl ⟨rfl, ((((((below_alloc1 w _).trans (below_draws _ _ nn)).setCell (by simp) _).setCell (by simp) _).alloc (by simp) _).alloc (by simp; omega) _)⟩

theorem parse_false_false_any_false {mo : Bool} (hpt : pt = false) (hneg : neg = false) (HN : Hid (∀ w, Calls Tryd.prog 40 #[.string (mkS b)] w fun e w' => e = .returned (.tuple #[.int .i64 nano, .bool mo]) ∧ w' = w)) (HR : Hid (∀ w, Calls Tryd.prog 42 #[tmV sec nano] w fun e w' => e = .returned (.bool false) ∧ w' = w.alloc (.cells #[.int .i64 sec, .int .i64 nano] 23))) :
    Calls Tryd.prog 12 #[.string (mkS l)] w fun e w' => e = .returned (.tuple #[tmV 0 0, errV 2]) ∧ Below w.heap.size w w' := by
  subst hpt hneg
  have hsz := mkS_size t
  go_enter Tryd.func12, Tryd.ntmps12
  go_wp2_with (first
    | (go_at_call 36; refine (HCP.out _).mono ?_; rintro e w' ⟨rfl, hw⟩; replace hw := hw.symm; subst hw)
    | (go_at_call 25; refine (HC.out _).mono ?_; rintro e w' ⟨rfl, nn, rfl⟩)
    | (go_at_call 37; with_reducible refine (HD1.out _).mono ?_; rintro e w' ⟨rfl, hw⟩; replace hw := hw.symm; subst hw)
    | (go_at_call 38; with_reducible refine (HT.out _).mono ?_; rintro e w' ⟨rfl, hw⟩; replace hw := hw.symm; subst hw)
    | (go_at_call 39; with_reducible refine (HV.out _).mono ?_; rintro e w' ⟨rfl, hw⟩; replace hw := hw.symm; subst hw)
    | (go_at_call 40; with_reducible refine (HN.out _).mono ?_; rintro e w' ⟨rfl, hw⟩; replace hw := hw.symm; subst hw)
    | (go_at_call 42; with_reducible refine (HR.out _).mono ?_; rintro e w' ⟨rfl, hw⟩; replace hw := hw.symm; subst hw))
  exact bodyPost_ret (v := .tuple #[tmV 0 0, errV 2]) (by simp [results, Tryd.results12, go_sem, errV]) rfl ⟨rfl, ((((((below_alloc1 w _).trans (below_draws _ _ nn)).setCell (by simp) _).setCell (by simp) _).alloc (by simp) _).alloc (by simp; omega) _)⟩

theorem parse_false_true_false_true {s' n' : Int} (hpt : pt = false) (hneg : neg = true) (HN : Hid (∀ w, Calls Tryd.prog 40 #[.string (mkS b)] w fun e w' => e = .returned (.tuple #[.int .i64 nano, .bool false]) ∧ w' = w)) (HG : Hid (∀ w, Calls Tryd.prog 41 #[.int .i64 sec, .int .i64 nano] w fun e w' => e = .returned (.tuple #[.int .i64 s', .int .i64 n']) ∧ w' = w)) (HR : Hid (∀ w, Calls Tryd.prog 42 #[tmV s' n'] w fun e w' => e = .returned (.bool true) ∧ w' = w.alloc (.cells #[.int .i64 s', .int .i64 n'] 23))) :
    Calls Tryd.prog 12 #[.string (mkS l)] w fun e w' => e = .returned (.tuple #[tmV s' n', errV 0]) ∧ Below w.heap.size w w' := by
  subst hpt hneg
  have hsz := mkS_size t
  go_enter Tryd.func12, Tryd.ntmps12
  go_wp2_with (first
    | (go_at_call 36; refine (HCP.out _).mono ?_; rintro e w' ⟨rfl, hw⟩; replace hw := hw.symm; subst hw)
    | (go_at_call 25; refine (HC.out _).mono ?_; rintro e w' ⟨rfl, nn, rfl⟩)
    | (go_at_call 37; with_reducible refine (HD1.out _).mono ?_; rintro e w' ⟨rfl, hw⟩; replace hw := hw.symm; subst hw)
    | (go_at_call 38; with_reducible refine (HT.out _).mono ?_; rintro e w' ⟨rfl, hw⟩; replace hw := hw.symm; subst hw)
    | (go_at_call 39; with_reducible refine (HV.out _).mono ?_; rintro e w' ⟨rfl, hw⟩; replace hw := hw.symm; subst hw)
    | (go_at_call 40; with_reducible refine (HN.out _).mono ?_; rintro e w' ⟨rfl, hw⟩; replace hw := hw.symm; subst hw)
    | (go_at_call 41; with_reducible refine (HG.out _).mono ?_; rintro e w' ⟨rfl, hw⟩; replace hw := hw.symm; subst hw)
    | (go_at_call 42; with_reducible refine (HR.out _).mono ?_; rintro e w' ⟨rfl, hw⟩; replace hw := hw.symm; subst hw))
  exact bodyPost_ret (v := .tuple #[tmV s' n', errV 0]) (by simp [results, Tryd.results12, go_sem, errV]) rfl ⟨rfl, ((((((below_alloc1 w _).trans (below_draws _ _ nn)).setCell (by simp) _).setCell (by simp) _).alloc (by simp) _).alloc (by simp; omega) _)⟩

theorem parse_false_true_false_false {s' n' : Int} (hpt : pt = false) (hneg : neg = true) (HN : Hid (∀ w, Calls Tryd.prog 40 #[.string (mkS b)] w fun e w' => e = .returned (.tuple #[.int .i64 nano, .bool false]) ∧ w' = w)) (HG : Hid (∀ w, Calls Tryd.prog 41 #[.int .i64 sec, .int .i64 nano] w fun e w' => e = .returned (.tuple #[.int .i64 s', .int .i64 n']) ∧ w' = w)) (HR : Hid (∀ w, Calls Tryd.prog 42 #[tmV s' n'] w fun e w' => e = .returned (.bool false) ∧ w' = w.alloc (.cells #[.int .i64 s', .int .i64 n'] 23))) :
    Calls Tryd.prog 12 #[.string (mkS l)] w fun e w' => e = .returned (.tuple #[tmV 0 0, errV 2]) ∧ Below w.heap.size w w' := by
  subst hpt hneg
  have hsz := mkS_size t
  go_enter Tryd.func12, Tryd.ntmps12
  go_wp2_with (first
    | (go_at_call 36; refine (HCP.out _).mono ?_; rintro e w' ⟨rfl, hw⟩; replace hw := hw.symm; subst hw)
    | (go_at_call 25; refine (HC.out _).mono ?_; rintro e w' ⟨rfl, nn, rfl⟩)
    | (go_at_call 37; with_reducible refine (HD1.out _).mono ?_; rintro e w' ⟨rfl, hw⟩; replace hw := hw.symm; subst hw)
    | (go_at_call 38; with_reducible refine (HT.out _).mono ?_; rintro e w' ⟨rfl, hw⟩; replace hw := hw.symm; subst hw)
    | (go_at_call 39; with_reducible refine (HV.out _).mono ?_; rintro e w' ⟨rfl, hw⟩; replace hw := hw.symm; subst hw)
    | (go_at_call 40; with_reducible refine (HN.out _).mono ?_; rintro e w' ⟨rfl, hw⟩; replace hw := hw.symm; subst hw)
    | (go_at_call 41; with_reducible refine (HG.out _).mono ?_; rintro e w' ⟨rfl, hw⟩; replace hw := hw.symm; subst hw)
    | (go_at_call 42; with_reducible refine (HR.out _).mono ?_; rintro e w' ⟨rfl, hw⟩; replace hw := hw.symm; subst hw))
  exact bodyPost_ret (v := .tuple #[tmV 0 0, errV 2]) (by simp [results, Tryd.results12, go_sem, errV]) rfl ⟨rfl, ((((((below_alloc1 w _).trans (below_draws _ _ nn)).setCell (by simp) _).setCell (by simp) _).alloc (by simp) _).alloc (by simp; omega) _)⟩

theorem parse_false_true_true_true {s' n' : Int} (hpt : pt = false) (hneg : neg = true) (hnano : 0 ≤ nano ∧ nano < 1000000000) (HN : Hid (∀ w, Calls Tryd.prog 40 #[.string (mkS b)] w fun e w' => e = .returned (.tuple #[.int .i64 nano, .bool true]) ∧ w' = w)) (HG : Hid (∀ w, Calls Tryd.prog 41 #[.int .i64 sec, .int .i64 (nano + 1)] w fun e w' => e = .returned (.tuple #[.int .i64 s', .int .i64 n']) ∧ w' = w)) (HR : Hid (∀ w, Calls Tryd.prog 42 #[tmV s' n'] w fun e w' => e = .returned (.bool true) ∧ w' = w.alloc (.cells #[.int .i64 s', .int .i64 n'] 23))) :
    Calls Tryd.prog 12 #[.string (mkS l)] w fun e w' => e = .returned (.tuple #[tmV s' n', errV 0]) ∧ Below w.heap.size w w' := by
  subst hpt hneg
  have hsz := mkS_size t
  go_enter Tryd.func12, Tryd.ntmps12
  go_wp2_with (first
    | (go_at_call 36; refine (HCP.out _).mono ?_; rintro e w' ⟨rfl, hw⟩; replace hw := hw.symm; subst hw)
    | (go_at_call 25; refine (HC.out _).mono ?_; rintro e w' ⟨rfl, nn, rfl⟩)
    | (go_at_call 37; with_reducible refine (HD1.out _).mono ?_; rintro e w' ⟨rfl, hw⟩; replace hw := hw.symm; subst hw)
    | (go_at_call 38; with_reducible refine (HT.out _).mono ?_; rintro e w' ⟨rfl, hw⟩; replace hw := hw.symm; subst hw)
    | (go_at_call 39; with_reducible refine (HV.out _).mono ?_; rintro e w' ⟨rfl, hw⟩; replace hw := hw.symm; subst hw)
    | (go_at_call 40; with_reducible refine (HN.out _).mono ?_; rintro e w' ⟨rfl, hw⟩; replace hw := hw.symm; subst hw)
    | (go_at_call 41; with_reducible refine (HG.out _).mono ?_; rintro e w' ⟨rfl, hw⟩; replace hw := hw.symm; subst hw)
    | (go_at_call 42; with_reducible refine (HR.out _).mono ?_; rintro e w' ⟨rfl, hw⟩; replace hw := hw.symm; subst hw))
  exact bodyPost_ret (v := .tuple #[tmV s' n', errV 0]) (by simp [results, Tryd.results12, go_sem, errV]) rfl ⟨rfl, ((((((below_alloc1 w _).trans (below_draws _ _ nn)).setCell (by simp) _).setCell (by simp) _).alloc (by simp) _).alloc (by simp; omega) _)⟩

theorem parse_false_true_true_false {s' n' : Int} (hpt : pt = false) (hneg : neg = true) (hnano : 0 ≤ nano ∧ nano < 1000000000) (HN : Hid (∀ w, Calls Tryd.prog 40 #[.string (mkS b)] w fun e w' => e = .returned (.tuple #[.int .i64 nano, .bool true]) ∧ w' = w)) (HG : Hid (∀ w, Calls Tryd.prog 41 #[.int .i64 sec, .int .i64 (nano + 1)] w fun e w' => e = .returned (.tuple #[.int .i64 s', .int .i64 n']) ∧ w' = w)) (HR : Hid (∀ w, Calls Tryd.prog 42 #[tmV s' n'] w fun e w' => e = .returned (.bool false) ∧ w' = w.alloc (.cells #[.int .i64 s', .int .i64 n'] 23))) :
    Calls Tryd.prog 12 #[.string (mkS l)] w fun e w' => e = .returned (.tuple #[tmV 0 0, errV 2]) ∧ Below w.heap.size w w' := by
  subst hpt hneg
  have hsz := mkS_size t
  go_enter Tryd.func12, Tryd.ntmps12
  go_wp2_with (first
    | (go_at_call 36; refine (HCP.out _).mono ?_; rintro e w' ⟨rfl, hw⟩; replace hw := hw.symm; subst hw)
    | (go_at_call 25; refine (HC.out _).mono ?_; rintro e w' ⟨rfl, nn, rfl⟩)
    | (go_at_call 37; with_reducible refine (HD1.out _).mono ?_; rintro e w' ⟨rfl, hw⟩; replace hw := hw.symm; subst hw)
    | (go_at_call 38; with_reducible refine (HT.out _).mono ?_; rintro e w' ⟨rfl, hw⟩; replace hw := hw.symm; subst hw)
    | (go_at_call 39; with_reducible refine (HV.out _).mono ?_; rintro e w' ⟨rfl, hw⟩; replace hw := hw.symm; subst hw)
    | (go_at_call 40; with_reducible refine (HN.out _).mono ?_; rintro e w' ⟨rfl, hw⟩; replace hw := hw.symm; subst hw)
    | (go_at_call 41; with_reducible refine (HG.out _).mono ?_; rintro e w' ⟨rfl, hw⟩; replace hw := hw.symm; subst hw)
    | (go_at_call 42; with_reducible refine (HR.out _).mono ?_; rintro e w' ⟨rfl, hw⟩; replace hw := hw.symm; subst hw))
  exact bodyPost_ret (v := .tuple #[tmV 0 0, errV 2]) (by simp [results, Tryd.results12, go_sem, errV]) rfl ⟨rfl, ((((((below_alloc1 w _).trans (below_draws _ _ nn)).setCell (by simp) _).setCell (by simp) _).alloc (by simp) _).alloc (by simp; omega) _)⟩

theorem parse_true_false_any_true {mo : Bool} (hpt : pt = true) (hneg : neg = false) (HD2 : Hid (∀ w, Calls Tryd.prog 37 #[.string (mkS b)] w fun e w' => e = .returned (.bool true) ∧ w' = w)) (HN : Hid (∀ w, Calls Tryd.prog 40 #[.string (mkS b)] w fun e w' => e = .returned (.tuple #[.int .i64 nano, .bool mo]) ∧ w' = w)) (HR : Hid (∀ w, Calls Tryd.prog 42 #[tmV sec nano] w fun e w' => e = .returned (.bool true) ∧ w' = w.alloc (.cells #[.int .i64 sec, .int .i64 nano] 23))) :
    Calls Tryd.prog 12 #[.string (mkS l)] w fun e w' => e = .returned (.tuple #[tmV sec nano, errV 0]) ∧ Below w.heap.size w w' := by
  subst hpt hneg
  have hsz := mkS_size t
  go_enter Tryd.func12, Tryd.ntmps12
  go_wp2_with (first
    | (go_at_call 36; refine (HCP.out _).mono ?_; rintro e w' ⟨rfl, hw⟩; replace hw := hw.symm; subst hw)
    | (go_at_call 25; refine (HC.out _).mono ?_; rintro e w' ⟨rfl, nn, rfl⟩)
    | (go_at_call 37; with_reducible refine (HD1.out _).mono ?_; rintro e w' ⟨rfl, hw⟩; replace hw := hw.symm; subst hw)
    | (go_at_call 37; with_reducible refine (HD2.out _).mono ?_; rintro e w' ⟨rfl, hw⟩; replace hw := hw.symm; subst hw)
    | (go_at_call 38; with_reducible refine (HT.out _).mono ?_; rintro e w' ⟨rfl, hw⟩; replace hw := hw.symm; subst hw)
    | (go_at_call 39; with_reducible refine (HV.out _).mono ?_; rintro e w' ⟨rfl, hw⟩; replace hw := hw.symm; subst hw)
    | (go_at_call 40; with_reducible refine (HN.out _).mono ?_; rintro e w' ⟨rfl, hw⟩; replace hw := hw.symm; subst hw)
    | (go_at_call 42; with_reducible refine (HR.out _).mono ?_; rintro e w' ⟨rfl, hw⟩; replace hw := hw.symm; subst hw))
  exact bodyPost_ret (v := .tuple #[tmV sec nano, errV 0]) (by simp [results, Tryd.results12, go_sem, errV]) rfl ⟨rfl, ((((((below_alloc1 w _).trans (below_draws _ _ nn)).setCell (by simp) _).setCell (by simp) _).alloc (by simp) _).alloc (by simp; omega) _)⟩

theorem parse_true_false_any_false {mo : Bool} (hpt : pt = true) (hneg : neg = false) (HD2 : Hid (∀ w, Calls Tryd.prog 37 #[.string (mkS b)] w fun e w' => e = .returned (.bool true) ∧ w' = w)) (HN : Hid (∀ w, Calls Tryd.prog 40 #[.string (mkS b)] w fun e w' => e = .returned (.tuple #[.int .i64 nano, .bool mo]) ∧ w' = w)) (HR : Hid (∀ w, Calls Tryd.prog 42 #[tmV sec nano] w fun e w' => e = .returned (.bool false) ∧ w' = w.alloc (.cells #[.int .i64 sec, .int .i64 nano] 23))) :
    Calls Tryd.prog 12 #[.string (mkS l)] w fun e w' => e = .returned (.tuple #[tmV 0 0, errV 2]) ∧ Below w.heap.size w w' := by
  subst hpt hneg
  have hsz := mkS_size t
  go_enter Tryd.func12, Tryd.ntmps12
  go_wp2_with (first
    | (go_at_call 36; refine (HCP.out _).mono ?_; rintro e w' ⟨rfl, hw⟩; replace hw := hw.symm; subst hw)
    | (go_at_call 25; refine (HC.out _).mono ?_; rintro e w' ⟨rfl, nn, rfl⟩)
    | (go_at_call 37; with_reducible refine (HD1.out _).mono ?_; rintro e w' ⟨rfl, hw⟩; replace hw := hw.symm; subst hw)
    | (go_at_call 37; with_reducible refine (HD2.out _).mono ?_; rintro e w' ⟨rfl, hw⟩; replace hw := hw.symm; subst hw)
    | (go_at_call 38; with_reducible refine (HT.out _).mono ?_; rintro e w' ⟨rfl, hw⟩; replace hw := hw.symm; subst hw)
    | (go_at_call 39; with_reducible refine (HV.out _).mono ?_; rintro e w' ⟨rfl, hw⟩; replace hw := hw.symm; subst hw)
    | (go_at_call 40; with_reducible refine (HN.out _).mono ?_; rintro e w' ⟨rfl, hw⟩; replace hw := hw.symm; subst hw)
    | (go_at_call 42; with_reducible refine (HR.out _).mono ?_; rintro e w' ⟨rfl, hw⟩; replace hw := hw.symm; subst hw))
  exact bodyPost_ret (v := .tuple #[tmV 0 0, errV 2]) (by simp [results, Tryd.results12, go_sem, errV]) rfl ⟨rfl, ((((((below_alloc1 w _).trans (below_draws _ _ nn)).setCell (by simp) _).setCell (by simp) _).alloc (by simp) _).alloc (by simp; omega) _)⟩

theorem parse_true_true_false_true {s' n' : Int} (hpt : pt = true) (hneg : neg = true) (HD2 : Hid (∀ w, Calls Tryd.prog 37 #[.string (mkS b)] w fun e w' => e = .returned (.bool true) ∧ w' = w)) (HN : Hid (∀ w, Calls Tryd.prog 40 #[.string (mkS b)] w fun e w' => e = .returned (.tuple #[.int .i64 nano, .bool false]) ∧ w' = w)) (HG : Hid (∀ w, Calls Tryd.prog 41 #[.int .i64 sec, .int .i64 nano] w fun e w' => e = .returned (.tuple #[.int .i64 s', .int .i64 n']) ∧ w' = w)) (HR : Hid (∀ w, Calls Tryd.prog 42 #[tmV s' n'] w fun e w' => e = .returned (.bool true) ∧ w' = w.alloc (.cells #[.int .i64 s', .int .i64 n'] 23))) :
    Calls Tryd.prog 12 #[.string (mkS l)] w fun e w' => e = .returned (.tuple #[tmV s' n', errV 0]) ∧ Below w.heap.size w w' := by
  subst hpt hneg
  have hsz := mkS_size t
  go_enter Tryd.func12, Tryd.ntmps12
  go_wp2_with (first
    | (go_at_call 36; refine (HCP.out _).mono ?_; rintro e w' ⟨rfl, hw⟩; replace hw := hw.symm; subst hw)
    | (go_at_call 25; refine (HC.out _).mono ?_; rintro e w' ⟨rfl, nn, rfl⟩)
    | (go_at_call 37; with_reducible refine (HD1.out _).mono ?_; rintro e w' ⟨rfl, hw⟩; replace hw := hw.symm; subst hw)
    | (go_at_call 37; with_reducible refine (HD2.out _).mono ?_; rintro e w' ⟨rfl, hw⟩; replace hw := hw.symm; subst hw)
    | (go_at_call 38; with_reducible refine (HT.out _).mono ?_; rintro e w' ⟨rfl, hw⟩; replace hw := hw.symm; subst hw)
    | (go_at_call 39; with_reducible refine (HV.out _).mono ?_; rintro e w' ⟨rfl, hw⟩; replace hw := hw.symm; subst hw)
    | (go_at_call 40; with_reducible refine (HN.out _).mono ?_; rintro e w' ⟨rfl, hw⟩; replace hw := hw.symm; subst hw)
    | (go_at_call 41; with_reducible refine (HG.out _).mono ?_; rintro e w' ⟨rfl, hw⟩; replace hw := hw.symm; subst hw)
    | (go_at_call 42; with_reducible refine (HR.out _).mono ?_; rintro e w' ⟨rfl, hw⟩; replace hw := hw.symm; subst hw))
  exact bodyPost_ret (v := .tuple #[tmV s' n', errV 0]) (by simp [results, Tryd.results12, go_sem, errV]) rfl ⟨rfl, ((((((below_alloc1 w _).trans (below_draws _ _ nn)).setCell (by simp) _).setCell (by simp) _).alloc (by simp) _).alloc (by simp; omega) _)⟩

theorem parse_true_true_false_false {s' n' : Int} (hpt : pt = true) (hneg : neg = true) (HD2 : Hid (∀ w, Calls Tryd.prog 37 #[.string (mkS b)] w fun e w' => e = .returned (.bool true) ∧ w' = w)) (HN : Hid (∀ w, Calls Tryd.prog 40 #[.string (mkS b)] w fun e w' => e = .returned (.tuple #[.int .i64 nano, .bool false]) ∧ w' = w)) (HG : Hid (∀ w, Calls Tryd.prog 41 #[.int .i64 sec, .int .i64 nano] w fun e w' => e = .returned (.tuple #[.int .i64 s', .int .i64 n']) ∧ w' = w)) (HR : Hid (∀ w, Calls Tryd.prog 42 #[tmV s' n'] w fun e w' => e = .returned (.bool false) ∧ w' = w.alloc (.cells #[.int .i64 s', .int .i64 n'] 23))) :
    Calls Tryd.prog 12 #[.string (mkS l)] w fun e w' => e = .returned (.tuple #[tmV 0 0, errV 2]) ∧ Below w.heap.size w w' := by
  subst hpt hneg
  have hsz := mkS_size t
  go_enter Tryd.func12, Tryd.ntmps12
  go_wp2_with (first
    | (go_at_call 36; refine (HCP.out _).mono ?_; rintro e w' ⟨rfl, hw⟩; replace hw := hw.symm; subst hw)
    | (go_at_call 25; refine (HC.out _).mono ?_; rintro e w' ⟨rfl, nn, rfl⟩)
    | (go_at_call 37; with_reducible refine (HD1.out _).mono ?_; rintro e w' ⟨rfl, hw⟩; replace hw := hw.symm; subst hw)
    | (go_at_call 37; with_reducible refine (HD2.out _).mono ?_; rintro e w' ⟨rfl, hw⟩; replace hw := hw.symm; subst hw)
    | (go_at_call 38; with_reducible refine (HT.out _).mono ?_; rintro e w' ⟨rfl, hw⟩; replace hw := hw.symm; subst hw)
    | (go_at_call 39; with_reducible refine (HV.out _).mono ?_; rintro e w' ⟨rfl, hw⟩; replace hw := hw.symm; subst hw)
    | (go_at_call 40; with_reducible refine (HN.out _).mono ?_; rintro e w' ⟨rfl, hw⟩; replace hw := hw.symm; subst hw)
    | (go_at_call 41; with_reducible refine (HG.out _).mono ?_; rintro e w' ⟨rfl, hw⟩; replace hw := hw.symm; subst hw)
    | (go_at_call 42; with_reducible refine (HR.out _).mono ?_; rintro e w' ⟨rfl, hw⟩; replace hw := hw.symm; subst hw))
  exact bodyPost_ret (v := .tuple #[tmV 0 0, errV 2]) (by simp [results, Tryd.results12, go_sem, errV]) rfl ⟨rfl, ((((((below_alloc1 w _).trans (below_draws _ _ nn)).setCell (by simp) _).setCell (by simp) _).alloc (by simp) _).alloc (by simp; omega) _)⟩

theorem parse_true_true_true_true {s' n' : Int} (hpt : pt = true) (hneg : neg = true) (hnano : 0 ≤ nano ∧ nano < 1000000000) (HD2 : Hid (∀ w, Calls Tryd.prog 37 #[.string (mkS b)] w fun e w' => e = .returned (.bool true) ∧ w' = w)) (HN : Hid (∀ w, Calls Tryd.prog 40 #[.string (mkS b)] w fun e w' => e = .returned (.tuple #[.int .i64 nano, .bool true]) ∧ w' = w)) (HG : Hid (∀ w, Calls Tryd.prog 41 #[.int .i64 sec, .int .i64 (nano + 1)] w fun e w' => e = .returned (.tuple #[.int .i64 s', .int .i64 n']) ∧ w' = w)) (HR : Hid (∀ w, Calls Tryd.prog 42 #[tmV s' n'] w fun e w' => e = .returned (.bool true) ∧ w' = w.alloc (.cells #[.int .i64 s', .int .i64 n'] 23))) :
    Calls Tryd.prog 12 #[.string (mkS l)] w fun e w' => e = .returned (.tuple #[tmV s' n', errV 0]) ∧ Below w.heap.size w w' := by
  subst hpt hneg
  have hsz := mkS_size t
  go_enter Tryd.func12, Tryd.ntmps12
  go_wp2_with (first
    | (go_at_call 36; refine (HCP.out _).mono ?_; rintro e w' ⟨rfl, hw⟩; replace hw := hw.symm; subst hw)
    | (go_at_call 25; refine (HC.out _).mono ?_; rintro e w' ⟨rfl, nn, rfl⟩)
    | (go_at_call 37; with_reducible refine (HD1.out _).mono ?_; rintro e w' ⟨rfl, hw⟩; replace hw := hw.symm; subst hw)
    | (go_at_call 37; with_reducible refine (HD2.out _).mono ?_; rintro e w' ⟨rfl, hw⟩; replace hw := hw.symm; subst hw)
    | (go_at_call 38; with_reducible refine (HT.out _).mono ?_; rintro e w' ⟨rfl, hw⟩; replace hw := hw.symm; subst hw)
    | (go_at_call 39; with_reducible refine (HV.out _).mono ?_; rintro e w' ⟨rfl, hw⟩; replace hw := hw.symm; subst hw)
    | (go_at_call 40; with_reducible refine (HN.out _).mono ?_; rintro e w' ⟨rfl, hw⟩; replace hw := hw.symm; subst hw)
    | (go_at_call 41; with_reducible refine (HG.out _).mono ?_; rintro e w' ⟨rfl, hw⟩; replace hw := hw.symm; subst hw)
    | (go_at_call 42; with_reducible refine (HR.out _).mono ?_; rintro e w' ⟨rfl, hw⟩; replace hw := hw.symm; subst hw))
  exact bodyPost_ret (v := .tuple #[tmV s' n', errV 0]) (by simp [results, Tryd.results12, go_sem, errV]) rfl ⟨rfl, ((((((below_alloc1 w _).trans (below_draws _ _ nn)).setCell (by simp) _).setCell (by simp) _).alloc (by simp) _).alloc (by simp; omega) _)⟩

theorem parse_true_true_true_false {s' n' : Int} (hpt : pt = true) (hneg : neg = true) (hnano : 0 ≤ nano ∧ nano < 1000000000) (HD2 : Hid (∀ w, Calls Tryd.prog 37 #[.string (mkS b)] w fun e w' => e = .returned (.bool true) ∧ w' = w)) (HN : Hid (∀ w, Calls Tryd.prog 40 #[.string (mkS b)] w fun e w' => e = .returned (.tuple #[.int .i64 nano, .bool true]) ∧ w' = w)) (HG : Hid (∀ w, Calls Tryd.prog 41 #[.int .i64 sec, .int .i64 (nano + 1)] w fun e w' => e = .returned (.tuple #[.int .i64 s', .int .i64 n']) ∧ w' = w)) (HR : Hid (∀ w, Calls Tryd.prog 42 #[tmV s' n'] w fun e w' => e = .returned (.bool false) ∧ w' = w.alloc (.cells #[.int .i64 s', .int .i64 n'] 23))) :
    Calls Tryd.prog 12 #[.string (mkS l)] w fun e w' => e = .returned (.tuple #[tmV 0 0, errV 2]) ∧ Below w.heap.size w w' := by
  subst hpt hneg
  have hsz := mkS_size t
  go_enter Tryd.func12, Tryd.ntmps12
  go_wp2_with (first
    | (go_at_call 36; refine (HCP.out _).mono ?_; rintro e w' ⟨rfl, hw⟩; replace hw := hw.symm; subst hw)
    | (go_at_call 25; refine (HC.out _).mono ?_; rintro e w' ⟨rfl, nn, rfl⟩)
    | (go_at_call 37; with_reducible refine (HD1.out _).mono ?_; rintro e w' ⟨rfl, hw⟩; replace hw := hw.symm; subst hw)
    | (go_at_call 37; with_reducible refine (HD2.out _).mono ?_; rintro e w' ⟨rfl, hw⟩; replace hw := hw.symm; subst hw)
    | (go_at_call 38; with_reducible refine (HT.out _).mono ?_; rintro e w' ⟨rfl, hw⟩; replace hw := hw.symm; subst hw)
    | (go_at_call 39; with_reducible refine (HV.out _).mono ?_; rintro e w' ⟨rfl, hw⟩; replace hw := hw.symm; subst hw)
    | (go_at_call 40; with_reducible refine (HN.out _).mono ?_; rintro e w' ⟨rfl, hw⟩; replace hw := hw.symm; subst hw)
    | (go_at_call 41; with_reducible refine (HG.out _).mono ?_; rintro e w' ⟨rfl, hw⟩; replace hw := hw.symm; subst hw)
    | (go_at_call 42; with_reducible refine (HR.out _).mono ?_; rintro e w' ⟨rfl, hw⟩; replace hw := hw.symm; subst hw))
  exact bodyPost_ret (v := .tuple #[tmV 0 0, errV 2]) (by simp [results, Tryd.results12, go_sem, errV]) rfl ⟨rfl, ((((((below_alloc1 w _).trans (below_draws _ _ nn)).setCell (by simp) _).setCell (by simp) _).alloc (by simp) _).alloc (by simp; omega) _)⟩

end

theorem errV_0 : errV 0 = .nilIface := rfl

set_option maxHeartbeats 1000000 in
theorem parse_any (l : List UInt8) (w : World) (hl : l.length ≤ 1000) :
    Calls Tryd.prog 12 #[.string (mkS l)] w fun e w' => e = .returned (.tuple #[tmV (parseF l).2.1 (parseF l).2.2, errV (parseF l).1]) ∧ Below w.heap.size w w' := by
  have HCP := Lib.hid (fun w => cutPrefix_any l w)
  have hpar : parseF l = let u := Lib.trimPrefix l [45]
    if isDig (wholeOf u) && (!pointOf u || isDig (fracOf u)) then
      if 15 < (Lib.trimLeftB (wholeOf u) 48).length then (2, 0, 0)
      else timeF (Lib.hasPrefix l [45]) (valD (Lib.trimLeftB (wholeOf u) 48)) (nanoD (fracOf u)) (moreD (fracOf u))
    else (3, 0, 0) := rfl
  have hul : (Lib.trimPrefix l [45]).length ≤ 1000 := by
    unfold Lib.trimPrefix; split
    · rw [List.length_drop]; omega
    · exact hl
  simp only at hpar
  generalize Lib.trimPrefix l [45] = u at *
  generalize Lib.hasPrefix l [45] = neg at *
  have HC := Lib.hid (fun w => cutDot_any u w hul)
  have hal : (wholeOf u).length ≤ 1000 := Nat.le_trans (List.takeWhile_sublist _).length_le hul
  have hbl : (fracOf u).length ≤ 1000 := by
    unfold fracOf
    rw [List.length_drop]
    have := (List.dropWhile_sublist (l := u) (fun x => x != 46)).length_le
    omega
  have hbd : pointOf u = false → fracOf u = [] := fun h => (whole_no u h).2
  generalize wholeOf u = a at *
  generalize fracOf u = b at *
  generalize pointOf u = pt at *
  have HD1 := Lib.hid (fun w => isDigits_any a w hal)
  have HD2 := Lib.hid (fun w => isDigits_any b w hbl)
  cases hda : isDig a
  · rw [hda] at HD1 hpar
    simp only [Bool.false_and, Bool.false_eq_true, if_false] at hpar
    rw [hpar]
    exact parse_form1 w HCP HC HD1
  · rw [hda] at HD1 hpar
    have hgo : (pt = true ∧ isDig b = false) ∨ ((pt = false ∨ (pt = true ∧ isDig b = true)) ∧ (!pt || isDig b) = true ∧ b.all dig = true) := by
      cases pt
      · exact Or.inr ⟨Or.inl rfl, rfl, by rw [hbd rfl]; rfl⟩
      · cases hdb : isDig b
        · exact Or.inl ⟨rfl, rfl⟩
        · refine Or.inr ⟨Or.inr ⟨rfl, rfl⟩, rfl, ?_⟩
          unfold isDig at hdb
          exact (Bool.and_eq_true_iff.1 hdb).1
    rcases hgo with ⟨hpt, hdb⟩ | ⟨hpt, hok, hball⟩
    · rw [hdb] at HD2 hpar
      rw [hpt] at hpar
      rw [show (true && (!true || false)) = false from rfl] at hpar
      simp only [Bool.false_eq_true, if_false] at hpar
      rw [hpar]
      exact parse_form2 w HCP HC hpt HD1 HD2
    · rw [hok] at hpar
      simp only [Bool.true_and, if_true] at hpar
      have HT := Lib.hid (fun w => trimLeft0 a w)
      have htall : (Lib.trimLeftB a 48).all dig = true := by
        have ha := (Bool.and_eq_true_iff.1 (show (a.all dig && !decide (a = [])) = true from hda)).1
        rw [List.all_eq_true] at ha ⊢
        exact fun c hc => ha c ((List.dropWhile_sublist _).subset hc)
      generalize Lib.trimLeftB a 48 = t at *
      by_cases ht : 15 < t.length
      · rw [if_pos ht] at hpar
        rw [hpar]
        rcases hpt with hpt | ⟨hpt, hdb⟩
        · exact parse_range_false w HCP HC HD1 HT hpt (by omega)
        · rw [hdb] at HD2
          exact parse_range_true w HCP HC HD1 HT hpt HD2 (by omega)
      · rw [if_neg ht] at hpar
        have HV := Lib.hid (fun w => value_any t w (by omega) htall)
        have HN := Lib.hid (fun w => nanoseconds_any b w hbl hball)
        have hv := valD_lt t.length t rfl htall
        have hv2 := pow10_le (show t.length ≤ 15 by omega)
        have hv3 : (10 : Nat) ^ 15 = 1000000000000000 := by decide
        have hn := nanoD_range b hball
        generalize valD t = sec at *
        generalize nanoD b = nano at *
        generalize moreD b = more at *
        unfold timeF at hpar
        have ht' : (t.length : Int) ≤ 15 := by omega
        cases neg
        · simp only [Bool.false_and, Bool.false_eq_true, if_false] at hpar
          have HR := Lib.hid (fun w => right_ex sec nano w)
          cases hr : rightB sec nano
          · rw [hr] at HR hpar
            simp only [Bool.false_eq_true, if_false] at hpar
            rw [hpar]
            rcases hpt with hpt | ⟨hpt, hdb⟩
            · exact parse_false_false_any_false w HCP HC HD1 HT ht' HV hpt rfl HN HR
            · rw [hdb] at HD2
              exact parse_true_false_any_false w HCP HC HD1 HT ht' HV hpt rfl HD2 HN HR
          · rw [hr] at HR hpar
            simp only [if_true] at hpar
            rw [hpar]
            rcases hpt with hpt | ⟨hpt, hdb⟩
            · exact parse_false_false_any_true w HCP HC HD1 HT ht' HV hpt rfl HN HR
            · rw [hdb] at HD2
              exact parse_true_false_any_true w HCP HC HD1 HT ht' HV hpt rfl HD2 HN HR
        · cases more
          · simp only [Bool.true_and, Bool.false_eq_true, if_false, if_true] at hpar
            have HG := Lib.hid (fun w => negate_any sec nano w (by omega) (by omega) (by omega) (by omega))
            have HR := Lib.hid (fun w => right_ex (negS sec nano) (negN nano) w)
            cases hr : rightB (negS sec nano) (negN nano)
            · rw [hr] at HR hpar
              simp only [Bool.false_eq_true, if_false] at hpar
              rw [hpar]
              rcases hpt with hpt | ⟨hpt, hdb⟩
              · exact parse_false_true_false_false w HCP HC HD1 HT ht' HV hpt rfl HN HG HR
              · rw [hdb] at HD2
                exact parse_true_true_false_false w HCP HC HD1 HT ht' HV hpt rfl HD2 HN HG HR
            · rw [hr] at HR hpar
              simp only [if_true] at hpar
              rw [hpar]
              rcases hpt with hpt | ⟨hpt, hdb⟩
              · exact parse_false_true_false_true w HCP HC HD1 HT ht' HV hpt rfl HN HG HR
              · rw [hdb] at HD2
                exact parse_true_true_false_true w HCP HC HD1 HT ht' HV hpt rfl HD2 HN HG HR
          · simp only [Bool.true_and, if_true] at hpar
            have HG := Lib.hid (fun w => negate_any sec (nano + 1) w (by omega) (by omega) (by omega) (by omega))
            have HR := Lib.hid (fun w => right_ex (negS sec (nano + 1)) (negN (nano + 1)) w)
            cases hr : rightB (negS sec (nano + 1)) (negN (nano + 1))
            · rw [hr] at HR hpar
              simp only [Bool.false_eq_true, if_false] at hpar
              rw [hpar]
              rcases hpt with hpt | ⟨hpt, hdb⟩
              · exact parse_false_true_true_false w HCP HC HD1 HT ht' HV hpt rfl hn HN HG HR
              · rw [hdb] at HD2
                exact parse_true_true_true_false w HCP HC HD1 HT ht' HV hpt rfl hn HD2 HN HG HR
            · rw [hr] at HR hpar
              simp only [if_true] at hpar
              rw [hpar]
              rcases hpt with hpt | ⟨hpt, hdb⟩
              · exact parse_false_true_true_true w HCP HC HD1 HT ht' HV hpt rfl hn HN HG HR
              · rw [hdb] at HD2
                exact parse_true_true_true_true w HCP HC HD1 HT ht' HV hpt rfl hn HD2 HN HG HR
end Go.Proofs.YtncdmineepagpaaDoor
