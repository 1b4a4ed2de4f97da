/- number.Write and the reference's NumberWrite: what each returns; the law NumberWrites' walk. -/
import Derived.Test.YtapfkjdkpcgoiaaGreatDoorOctL
import Derived.Test.YtapfkjdkpcgoiaaGreatDoorBinL
import Derived.Lib.IfaceEq
namespace Go.Proofs.YtapfkjdkpcgoiaaGreatDoor
open Go.RowKit

/-- What both writers give: the error's number, and the text. -/
inductive Wr : Int → Int → Bool → Int → ByteArray → Prop
  | arg (n W : Int) (b : Bool) : (W < 2 ∨ 20 < W) → Wr n W b 1 ByteArray.empty
  | oct (n : Int) (W : Nat) (b : Bool) : 2 ≤ W → W ≤ 20 → 0 ≤ n → n ≤ mostF W → Wr n W b 0 (strOfNums (octNums n W))
  | no (n : Int) (W : Nat) (b : Bool) : 2 ≤ W → W ≤ 20 → (n < 0 ∨ mostF W < n) → (b = false ∨ W < 8) → Wr n W b 2 ByteArray.empty
  | range (n : Int) : (n < -36028797018963968 ∨ 36028797018963967 < n) → Wr n 8 true 2 ByteArray.empty
  | bin (n : Int) (W : Nat) : 8 ≤ W → W ≤ 20 → (n < 0 ∨ mostF W < n) → (W = 8 → -36028797018963968 ≤ n ∧ n ≤ 36028797018963967) → Wr n W true 0 (strOfNums (binNums n W))

theorem Wr.any (n W : Int) (b : Bool) : ∃ e s, Wr n W b e s := by
  by_cases h1 : W < 2 ∨ 20 < W
  · exact ⟨_, _, .arg n W b h1⟩
  · obtain ⟨V, rfl⟩ := Int.eq_ofNat_of_zero_le (show 0 ≤ W by omega)
    by_cases h2 : n < 0 ∨ mostF V < n
    · by_cases h3 : b = false ∨ V < 8
      · exact ⟨_, _, .no n V b (by omega) (by omega) h2 h3⟩
      · have hb : b = true := by cases b <;> simp_all
        subst hb
        by_cases h4 : V = 8 ∧ (n < -36028797018963968 ∨ 36028797018963967 < n)
        · obtain ⟨rfl, h4⟩ := h4
          exact ⟨_, _, .range n h4⟩
        · exact ⟨_, _, .bin n V (by simp at h3; omega) (by omega) h2 (fun h => by omega)⟩
    · exact ⟨_, _, .oct n V b (by omega) (by omega) (by omega) (by omega)⟩

/-- the error value of an error's number. -/
def errV (e : Int) : Value := if e = 0 then .nilIface else .iface 24 (.int .i64 e)
def WrGo (e : Int) (s : ByteArray) (w : World) (x : Ending) (w' : World) : Prop := x = .returned (.tuple #[.string s, errV e]) ∧ Below w.heap.size w w'
def WrRef (e : Int) (s : ByteArray) (w : World) (x : Ending) (w' : World) : Prop := x = .returned (.tuple #[.string s, .int .i64 e]) ∧ Below w.heap.size w w'

theorem most8 : mostF 8 = 2097151 := by unfold mostF ipw; decide +kernel

theorem Tryz.eqErr (a b : Int) (w : World) : (binOp .eql 29 (.iface 24 (.int .i64 a)) (.iface 24 (.int .i64 b))).run Tryz.prog w = .ok (.bool (a == b)) w :=
  Lib.run_eql_iface_int w a b Tryz.underlying29 (by kernel_rfl) Tryz.underlying24
theorem Tryz.eqNilErr (v : Value) (w : World) : (binOp .eql 29 .nilIface (.iface 24 v)).run Tryz.prog w = .ok (.bool false) w :=
  run_eql_iface_nil_left w 24 v Tryz.underlying29

end Go.Proofs.YtapfkjdkpcgoiaaGreatDoor
