/- What is written is read: the contracts. -/
import Derived.Test.YtapfkjdkpcgoiaaDoorWrt
import Derived.Test.YtapfkjdkpcgoiaaDoorRde
namespace Go.Proofs.YtapfkjdkpcgoiaaDoor
open Go.RowKit Go.Joins
set_option linter.unusedVariables false
set_option linter.unusedSimpArgs false

theorem tVal_sum {r : RawL} {n : Nat} (h : r.name.length + r.link.length + r.user.length + r.group.length + r.front.length ≤ n) : ∀ k, k < 5 → (tVal r k).length ≤ n :=
  tVal_le ⟨by omega, by omega, by omega, by omega, by omega⟩
theorem write_good (d : Nat) (r : RawL) (hg : goodL d r) (hi : intsL r) (w : World) :
    Calls Tryd.prog 10 #[.int .i64 (d : Int), rawV r] w fun e w' => e = .returned (.tuple #[.string (mkS (writeL d r)), .nilIface]) ∧ Below w.heap.size w w' := by
  have ht := txts_all.1 hg.2.2.2.2
  have hl : ∀ k, k < 5 → (tVal r k).length ≤ 1000000 := fun k hk => by
    have h1 := (txtOk_iff.1 (ht k hk)).1
    have h2 := tFit k hk
    omega
  refine (write_any' (d : Int) r hl hi w).mono fun e w' ⟨s, k, hI, he, hb⟩ => ?_
  cases hI with
  | arg h =>
    obtain ⟨h1, h2, _⟩ := hg
    rcases h with h | h | h
    · omega
    · omega
    · exact absurd h h2
  | range h1 h2 h3 => exact absurd hg h3
  | ok h1 h2 => exact ⟨he, hb⟩
theorem write_poor (d : Int) (r : RawL) (hl : r.name.length + r.link.length + r.user.length + r.group.length + r.front.length ≤ 1000000) (hg : ¬ (1 ≤ d ∧ goodL d.toNat r)) (hi : intsL r) (w : World) :
    Calls Tryd.prog 10 #[.int .i64 d, rawV r] w fun e w' => (∃ k, e = .returned (.tuple #[.string (mkS []), .iface 25 (.int .i64 k)])) ∧ Below w.heap.size w w' := by
  refine (write_any' d r (tVal_sum hl) hi w).mono fun e w' ⟨s, k, hI, he, hb⟩ => ?_
  cases hI with
  | arg h => exact ⟨⟨1, he⟩, hb⟩
  | range h1 h2 h3 => exact ⟨⟨2, he⟩, hb⟩
  | ok h1 h2 => exact absurd ⟨h1, h2⟩ hg
theorem read_good (d : Nat) (r : RawL) (hg : goodL d r) (hi : intsL r) (w : World) :
    Calls Tryd.prog 15 #[.string (mkS (writeL d r))] w fun e w' => e = .returned (.tuple #[rawV r, .int .i64 (asRead d : Int), .nilIface]) ∧ Below w.heap.size w w' := by
  have hL := write_length hg
  obtain ⟨h1, h2, h3⟩ := write_read hg hi
  refine (readRaw_any (writeL d r) (by omega) w).mono fun e w' ⟨q, dd, k, hI, he, hb⟩ => ?_
  cases hI with
  | form h => exact absurd hL h
  | spoilt h h' => exact absurd (write_right hg) h'
  | range h h' => exact absurd h1 h'
  | ok h h' =>
    rw [h3, h2] at he
    exact ⟨he, hb⟩
theorem read_bent (l : List UInt8) (hl : l.length = 512) (hr : ¬ rightL l) (w : World) :
    Calls Tryd.prog 15 #[.string (mkS l)] w fun e w' => e = .returned (.tuple #[rawV (rawZ 0), .int .i64 0, .iface 25 (.int .i64 15)]) ∧ Below w.heap.size w w' := by
  refine (readRaw_any l (by omega) w).mono fun e w' ⟨q, dd, k, hI, he, hb⟩ => ?_
  cases hI with
  | form h => exact absurd hl h
  | spoilt h h' => exact ⟨he, hb⟩
  | range h h' => exact absurd h hr
  | ok h h' => exact absurd h hr
/-- the header of the fact. -/
def rawA : RawL := ⟨[97], [], [], [], [], 48, 420, 0, 0, 3, 0, 0, 0⟩
theorem rawA_good : goodL 2 rawA := by
  refine ⟨by omega, by decide, ⟨fun h => by omega, fun h => by omega⟩, by decide +kernel, by decide +kernel⟩
theorem rawA_ints : intsL rawA := by
  unfold intsL i64 rawA
  simp
theorem rawA_size : sub (writeL 2 rawA) 124 12 = [48, 48, 48, 48, 48, 48, 48, 48, 48, 48, 51, 0] := by
  have w := goodL.wide rawA_good.2.2.2.1 rawA_good.2.2.2.2
  unfold writeL
  rw [sub_seal (bodyL_length w) (by omega), field4 w]
  decide +kernel
set_option maxRecDepth 100000 in
set_option maxHeartbeats 4000000 in
theorem headed_true (w : World) :
    Calls Tryd.prog 13 #[] w fun e w' => e = .returned (.bool true) ∧ Below w.heap.size w w' := by
  have C1 := Lib.hid (fun w => write_good 2 rawA rawA_good rawA_ints w)
  have C2 := Lib.hid (fun w => read_good 2 rawA rawA_good rawA_ints w)
  have hL := write_length rawA_good
  obtain ⟨L, hLe⟩ : ∃ L, writeL 2 rawA = L := ⟨_, rfl⟩
  have hS := rawA_size
  rw [hLe] at C1 C2 hL hS
  clear hLe
  have s1 := mkS_size L
  rw [hL] at s1
  have m1 : ∀ w, (Instr.slice 9 (.string (mkS L)) (some (.int .i64 124)) (some (.int .i64 136)) none).run Tryd.prog w = .ok (.string (mkS (sub L 124 12))) w := fun w => mid_sub L 124 136 (by omega) (by omega) w
  rw [hS] at m1
  have e1 : ((mkS [97]).toList == [97]) = true := (eq8 [97] [97]).trans (by decide)
  have e2 : ((mkS [48, 48, 48, 48, 48, 48, 48, 48, 48, 48, 51, 0]).toList == [48, 48, 48, 48, 48, 48, 48, 48, 48, 48, 51, 0]) = true := (eq8 _ _).trans (by decide)
  unfold rawV rawA at C1 C2
  dsimp only at C1 C2
  clear hS
  go_enter Tryd.func13, Tryd.ntmps13
  go_wp2_with (first
    | (go_at_call 10; refine (C1.out _).mono ?_; rintro e w1 ⟨rfl, h1⟩)
    | (go_at_call 15; (with_reducible refine (C2.out _).mono ?_); rintro e w2 ⟨rfl, h2⟩)
    | fail)
  go_ret
  exact ⟨by first | rfl | simp, (h1.trans (h2.mono h1.size)).alloc (h1.trans (h2.mono h1.size)).size _⟩
end Go.Proofs.YtapfkjdkpcgoiaaDoor
