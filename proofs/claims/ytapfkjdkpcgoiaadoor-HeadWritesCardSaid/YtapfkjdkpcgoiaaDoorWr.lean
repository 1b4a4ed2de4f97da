/- number.Write and the reference's NumberWrite: what each returns; the law NumberWrites' walk. -/
import Derived.Test.YtapfkjdkpcgoiaaDoorOctL
import Derived.Test.YtapfkjdkpcgoiaaDoorBinL
import Derived.Lib.IfaceEq
namespace Go.Proofs.YtapfkjdkpcgoiaaDoor
open Go.RowKit

/-- What both writers give: the error's number, and the text. -/
inductive Wr : Int → Int → Bool → Int → ByteArray → Prop
  | arg (n W : Int) (b : Bool) : (W < 2 ∨ 20 < W) → Wr n W b 1 ByteArray.empty
  | oct (n : Int) (W : Nat) (b : Bool) : 2 ≤ W → W ≤ 20 → 0 ≤ n → n ≤ mostF W → Wr n W b 0 (strOfNums (octNums n W))
  | no (n : Int) (W : Nat) (b : Bool) : 2 ≤ W → W ≤ 20 → (n < 0 ∨ mostF W < n) → (b = false ∨ W < 8) → Wr n W b 2 ByteArray.empty
  | range (n : Int) : (n < -36028797018963968 ∨ 36028797018963967 < n) → Wr n 8 true 2 ByteArray.empty
  | bin (n : Int) (W : Nat) : 8 ≤ W → W ≤ 20 → (n < 0 ∨ mostF W < n) → (W = 8 → -36028797018963968 ≤ n ∧ n ≤ 36028797018963967) → Wr n W true 0 (strOfNums (binNums n W))

theorem Wr.any (n W : Int) (b : Bool) : ∃ e s, Wr n W b e s := by
  by_cases h1 : W < 2 ∨ 20 < W
  · exact ⟨_, _, .arg n W b h1⟩
  · obtain ⟨V, rfl⟩ := Int.eq_ofNat_of_zero_le (show 0 ≤ W by omega)
    by_cases h2 : n < 0 ∨ mostF V < n
    · by_cases h3 : b = false ∨ V < 8
      · exact ⟨_, _, .no n V b (by omega) (by omega) h2 h3⟩
      · have hb : b = true := by cases b <;> simp_all
        subst hb
        by_cases h4 : V = 8 ∧ (n < -36028797018963968 ∨ 36028797018963967 < n)
        · obtain ⟨rfl, h4⟩ := h4
          exact ⟨_, _, .range n h4⟩
        · exact ⟨_, _, .bin n V (by simp at h3; omega) (by omega) h2 (fun h => by omega)⟩
    · exact ⟨_, _, .oct n V b (by omega) (by omega) (by omega) (by omega)⟩

/-- the error value of an error's number. -/
def errV (e : Int) : Value := if e = 0 then .nilIface else .iface 25 (.int .i64 e)
def WrGo (e : Int) (s : ByteArray) (w : World) (x : Ending) (w' : World) : Prop := x = .returned (.tuple #[.string s, errV e]) ∧ Below w.heap.size w w'
def WrRef (e : Int) (s : ByteArray) (w : World) (x : Ending) (w' : World) : Prop := x = .returned (.tuple #[.string s, .int .i64 e]) ∧ Below w.heap.size w w'

theorem most8 : mostF 8 = 2097151 := by unfold mostF ipw; decide +kernel

theorem Tryd.eqErr (a b : Int) (w : World) : (binOp .eql 29 (.iface 25 (.int .i64 a)) (.iface 25 (.int .i64 b))).run Tryd.prog w = .ok (.bool (a == b)) w :=
  Lib.run_eql_iface_int w a b Tryd.underlying29 (by kernel_rfl) Tryd.underlying25
theorem Tryd.eqNilErr (v : Value) (w : World) : (binOp .eql 29 .nilIface (.iface 25 v)).run Tryd.prog w = .ok (.bool false) w :=
  run_eql_iface_nil_left w 25 v Tryd.underlying29

set_option maxHeartbeats 1000000 in
theorem write_any (n W : Int) (b : Bool) (e : Int) (s : ByteArray) (h : Wr n W b e s) (hn1 : -9223372036854775808 ≤ n) (hn2 : n ≤ 9223372036854775807) (w : World) :
    Calls Tryd.prog 32 #[.int .i64 n, .int .i64 W, .bool b] w (WrGo e s w) := by
  have q1 := Tryd.eqErr
  have q2 := Tryd.eqNilErr
  cases h with
  | arg _ _ h =>
    have H := Lib.hid h
    clear h
    go_enter Tryd.func32, Tryd.ntmps32
    go_wp2_with (go_at_call 52; refine (octal_arg _ _ _ H.out).mono ?_; rintro e w' ⟨rfl, rfl⟩)
    go_ret2
    exact ⟨rfl, Below.refl _ _⟩
  | oct V _ h1 h2 h3 h4 =>
    go_enter Tryd.func32, Tryd.ntmps32
    go_wp2_with (go_at_call 52; refine (octal_ok _ V _ h1 h2 h3 h4).mono ?_; rintro e w' ⟨rfl, hb⟩)
    go_ret2
    exact ⟨rfl, hb⟩
  | no V _ h1 h2 h3 h4 =>
    have H := Lib.hid h3
    have hW1 : (2 : Int) ≤ (V : Int) := by omega
    have hW2 : (V : Int) ≤ 20 := by omega
    clear h3
    rcases h4 with rfl | h4
    · go_enter Tryd.func32, Tryd.ntmps32
      go_wp2_with (go_at_call 52; refine (octal_range _ _ _ hW1 hW2 H.out).mono ?_; rintro e w' ⟨rfl, rfl⟩)
      go_ret2
      exact ⟨rfl, Below.refl _ _⟩
    · have h5 : ¬ (8 : Int) ≤ (V : Int) := by omega
      cases b
      all_goals
        go_enter Tryd.func32, Tryd.ntmps32
        go_wp2_with (go_at_call 52; refine (octal_range _ _ _ hW1 hW2 H.out).mono ?_; rintro e w' ⟨rfl, rfl⟩)
        go_ret2
        exact ⟨rfl, Below.refl _ _⟩
  | range h =>
    have H := Lib.hid h
    have hm : n < 0 ∨ mostF 8 < n := by rw [most8]; omega
    have Hm := Lib.hid hm
    clear h hm
    go_enter Tryd.func32, Tryd.ntmps32
    go_wp2_with (first
      | (go_at_call 52; refine (octal_range _ _ _ (by omega) (by omega) Hm.out).mono ?_; rintro e w' ⟨rfl, rfl⟩)
      | (go_at_call 53; refine (binary_range _ _ H.out).mono ?_; rintro e w' ⟨rfl, rfl⟩))
    go_ret2
    exact ⟨rfl, Below.refl _ _⟩
  | bin V h1 h2 h3 h4 =>
    have H := Lib.hid h3
    have H4 := Lib.hid h4
    have hW1 : (2 : Int) ≤ (V : Int) := by omega
    have hW2 : (V : Int) ≤ 20 := by omega
    have hW3 : (8 : Int) ≤ (V : Int) := by omega
    clear h3 h4
    go_enter Tryd.func32, Tryd.ntmps32
    go_wp2_with (first
      | (go_at_call 52; refine (octal_range _ _ _ hW1 hW2 H.out).mono ?_; rintro e w' ⟨rfl, rfl⟩)
      | (go_at_call 53; refine (binary_ok _ V _ h1 h2 hn1 hn2 H4.out).mono ?_; rintro e w' ⟨rfl, hb⟩))
    go_ret2
    exact ⟨rfl, hb⟩

set_option maxHeartbeats 1000000 in
theorem refWrite_any (n W : Int) (b : Bool) (e : Int) (s : ByteArray) (h : Wr n W b e s) (hn1 : -9223372036854775808 ≤ n) (hn2 : n ≤ 9223372036854775807) (w : World) :
    Calls Tryd.prog 25 #[.int .i64 n, .int .i64 W, .bool b] w (WrRef e s w) := by
  cases h with
  | arg _ _ h =>
    have H := Lib.hid h
    clear h
    go_enter Tryd.func25, Tryd.ntmps25
    go_wp2_with (go_at_call 49; refine (refOctal_arg _ _ _ H.out).mono ?_; rintro e w' ⟨rfl, rfl⟩)
    go_ret2
    exact ⟨rfl, Below.refl _ _⟩
  | oct V _ h1 h2 h3 h4 =>
    go_enter Tryd.func25, Tryd.ntmps25
    go_wp2_with (go_at_call 49; refine (refOctal_ok _ V _ h1 h2 h3 hn2 h4).mono ?_; rintro e w' ⟨rfl, hb⟩)
    go_ret2
    exact ⟨rfl, hb⟩
  | no V _ h1 h2 h3 h4 =>
    have hW1 : (2 : Int) ≤ (V : Int) := by omega
    have hW2 : (V : Int) ≤ 20 := by omega
    have hc : ∀ w, Calls Tryd.prog 49 #[.int .i64 n, .int .i64 V] w fun e w' => e = .returned (.tuple #[.string ByteArray.empty, .int .i64 2]) ∧ w' = w := fun w => by
      rcases Int.lt_or_le n 0 with h | h
      · exact refOctal_neg n V w hW1 hW2 h
      · exact refOctal_range n V w h1 h2 h hn2 (by omega)
    have Hc := Lib.hid hc
    clear h3 hc
    rcases h4 with rfl | h4
    · go_enter Tryd.func25, Tryd.ntmps25
      go_wp2_with (go_at_call 49; refine (Hc.out _).mono ?_; rintro e w' ⟨rfl, rfl⟩)
      go_ret2
      exact ⟨rfl, Below.refl _ _⟩
    · have h5 : ¬ (8 : Int) ≤ (V : Int) := by omega
      cases b
      all_goals
        go_enter Tryd.func25, Tryd.ntmps25
        go_wp2_with (go_at_call 49; refine (Hc.out _).mono ?_; rintro e w' ⟨rfl, rfl⟩)
        go_ret2
        exact ⟨rfl, Below.refl _ _⟩
  | range h =>
    have hc : ∀ w, Calls Tryd.prog 49 #[.int .i64 n, .int .i64 (8 : Int)] w fun e w' => e = .returned (.tuple #[.string ByteArray.empty, .int .i64 2]) ∧ w' = w := fun w => by
      rcases Int.lt_or_le n 0 with h0 | h0
      · exact refOctal_neg n 8 w (by omega) (by omega) h0
      · exact refOctal_range n (8 : Nat) w (by omega) (by omega) h0 hn2 (by rw [show mostF ((8 : Nat) : Int) = 2097151 from most8]; omega)
    have Hc := Lib.hid hc
    have H := Lib.hid h
    clear h hc
    go_enter Tryd.func25, Tryd.ntmps25
    go_wp2_with (first
      | (go_at_call 49; refine (Hc.out _).mono ?_; rintro e w' ⟨rfl, rfl⟩)
      | (go_at_call 50; refine (refBinary_range _ _ H.out).mono ?_; rintro e w' ⟨rfl, rfl⟩))
    go_ret2
    exact ⟨rfl, Below.refl _ _⟩
  | bin V h1 h2 h3 h4 =>
    have hW1 : (2 : Int) ≤ (V : Int) := by omega
    have hW2 : (V : Int) ≤ 20 := by omega
    have hW3 : (8 : Int) ≤ (V : Int) := by omega
    have hc : ∀ w, Calls Tryd.prog 49 #[.int .i64 n, .int .i64 V] w fun e w' => e = .returned (.tuple #[.string ByteArray.empty, .int .i64 2]) ∧ w' = w := fun w => by
      rcases Int.lt_or_le n 0 with h | h
      · exact refOctal_neg n V w hW1 hW2 h
      · exact refOctal_range n V w (by omega) h2 h hn2 (by omega)
    have Hc := Lib.hid hc
    have H4 := Lib.hid h4
    clear h3 h4 hc
    go_enter Tryd.func25, Tryd.ntmps25
    go_wp2_with (first
      | (go_at_call 49; refine (Hc.out _).mono ?_; rintro e w' ⟨rfl, rfl⟩)
      | (go_at_call 50; refine (refBinary_ok _ V _ h1 h2 hn1 hn2 H4.out).mono ?_; rintro e w' ⟨rfl, hb⟩))
    go_ret2
    exact ⟨rfl, hb⟩

theorem write_nil (n W : Int) (b : Bool) (s : ByteArray) (h : Wr n W b 0 s) (hn1 : -9223372036854775808 ≤ n) (hn2 : n ≤ 9223372036854775807) (w : World) :
    Calls Tryd.prog 32 #[.int .i64 n, .int .i64 W, .bool b] w fun x w' => x = .returned (.tuple #[.string s, .nilIface]) ∧ Below w.heap.size w w' :=
  (write_any n W b 0 s h hn1 hn2 w).mono fun _ _ ⟨a, c⟩ => ⟨a, c⟩
theorem write_err (n W : Int) (b : Bool) (e : Int) (he : e ≠ 0) (s : ByteArray) (h : Wr n W b e s) (hn1 : -9223372036854775808 ≤ n) (hn2 : n ≤ 9223372036854775807) (w : World) :
    Calls Tryd.prog 32 #[.int .i64 n, .int .i64 W, .bool b] w fun x w' => x = .returned (.tuple #[.string s, .iface 25 (.int .i64 e)]) ∧ Below w.heap.size w w' :=
  (write_any n W b e s h hn1 hn2 w).mono fun _ _ ⟨a, c⟩ => ⟨by rw [a]; unfold errV; rw [if_neg he], c⟩

end Go.Proofs.YtapfkjdkpcgoiaaDoor
