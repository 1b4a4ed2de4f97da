/- StampReads: true, for every text. -/
import Derived.Test.YtncdmineepagpaaDoorRft
import Derived.Test.YtncdmineepagpaaDoorTell
namespace Go.Proofs.YtncdmineepagpaaDoor
open Go.RowKit Go.Joins

theorem parse_read (l : List UInt8) : parseF l = readF (Lib.hasPrefix l [45]) (Lib.trimPrefix l [45]) := rfl

theorem refParse_any (l : List UInt8) (w : World) (hl : l.length ≤ 100) :
    Calls Tryd.prog 11 #[.string (mkS l)] w fun e w' => e = .returned (.tuple #[tmV (parseF l).2.1 (parseF l).2.2, .int .i64 (parseF l).1]) ∧ Below w.heap.size w w' := by
  rw [parse_read]
  cases l with
  | nil => exact refParse_core [] [] false w hl (.inr (.inl ⟨rfl, rfl, rfl⟩))
  | cons c r =>
    by_cases hc : c = 45
    · subst hc
      have h1 : Lib.hasPrefix (45 :: r) [45] = true := by simp [Lib.hasPrefix]
      have h2 : Lib.trimPrefix (45 :: r) [45] = r := by simp [Lib.trimPrefix, h1]
      rw [h1, h2]
      exact refParse_core (45 :: r) r true w hl (.inl ⟨rfl, rfl⟩)
    · have h1 : Lib.hasPrefix (c :: r) [45] = false := by simp [Lib.hasPrefix, List.isPrefixOf, Ne.symm hc]
      have h2 : Lib.trimPrefix (c :: r) [45] = c :: r := by simp [Lib.trimPrefix, h1]
      rw [h1, h2]
      exact refParse_core (c :: r) (c :: r) false w hl (.inr (.inr ⟨rfl, rfl, c, r, rfl, hc⟩))

theorem stampReads_walk (a0 : ByteArray) (w0 : a0.size ≤ maxLen) (w : World) (hg : ErrLaid w) (_ : PowLaid w) :
    Calls Tryd.prog 3 #[.string a0] w fun e w' => e = .returned (.bool true) ∧ Below w.heap.size w w' := by
  have hmax : (a0.data.toList.length : Int) ≤ 9223372036854775807 := by rw [← Lib.size_eq]; unfold maxLen at w0; omega
  rw [← mkS_self a0]
  generalize a0.data.toList = l at hmax
  clear w0 a0
  have hsz := mkS_size l
  by_cases hl : (60 : Int) < (l.length : Int)
  · go_enter Tryd.func3, Tryd.ntmps3
    go_wp2
    go_ret
    exact ⟨rfl, Below.refl _ _⟩
  · have A1 := Lib.hid (fun w => refParse_any l w (by omega))
    have A2 := Lib.hid (fun w => parse_any l w (by omega))
    have HG := Lib.hid (fun w1 (h : Below w.heap.size w w1) => hg.below h)
    generalize parseF l = R at *
    obtain ⟨c, s, n⟩ := R
    simp only at A1 A2
    by_cases hc : c = 0
    · subst hc
      rw [show errV 0 = .nilIface from rfl] at A2
      go_enter Tryd.func3, Tryd.ntmps3
      go_wp2_with (first
        | (go_at_call 11; refine (A1.out _).mono ?_; rintro e w1 ⟨rfl, h1⟩)
        | (go_at_call 12; refine (A2.out _).mono ?_; rintro e w2 ⟨rfl, h2⟩; have k0 := (h2.cell (p := ⟨w1.heap.size, 0, none⟩) (by simp)).trans (show _ = some (Value.int .i64 s) by simp [go_sem]); have k1 := (h2.cell (p := ⟨w1.heap.size, 1, none⟩) (by simp)).trans (show _ = some (Value.int .i64 n) by simp [go_sem]); have z2 := h2.size; simp only [World.size_alloc] at z2; have z3 : w1.heap.size < w2.heap.size := by omega)
        | (go_at_call 13; refine (bare_nil _).mono ?_; rintro e w3 ⟨rfl, hw⟩; replace hw := hw.symm; subst hw))
      go_ret
      refine ⟨by simp, ?_⟩
      have z1 := h1.size
      exact ((h1.alloc h1.size _).trans (h2.mono (by simp; omega))).alloc (by omega) _
    · rw [show errV c = .iface 24 (.int .i64 c) from if_neg hc] at A2
      clear hc
      go_enter Tryd.func3, Tryd.ntmps3
      go_wp2_with (first
        | (go_at_call 11; refine (A1.out _).mono ?_; rintro e w1 ⟨rfl, h1⟩)
        | (go_at_call 12; refine (A2.out _).mono ?_; rintro e w2 ⟨rfl, h2⟩; have z1 := h1.size; have z2 := h2.size; simp only [World.size_alloc] at z2; have z3 : w1.heap.size < w2.heap.size := by omega)
        | (go_at_call 13; refine (bare_err _ _ (HG.out _ (((h1.alloc h1.size _).trans (h2.mono (by simp; omega))).alloc (by omega) _))).mono ?_; rintro e w3 ⟨rfl, h3⟩
           have k0 := (h3.cell (p := ⟨w1.heap.size, 0, none⟩) (by simp; omega)).trans (((Below.refl w2.heap.size w2).alloc (Nat.le_refl _) _ |>.cell (p := ⟨w1.heap.size, 0, none⟩) (by simp only []; omega)).trans ((h2.cell (p := ⟨w1.heap.size, 0, none⟩) (by simp)).trans (show _ = some (Value.int .i64 s) by simp [go_sem])))
           have k1 := (h3.cell (p := ⟨w1.heap.size, 1, none⟩) (by simp; omega)).trans (((Below.refl w2.heap.size w2).alloc (Nat.le_refl _) _ |>.cell (p := ⟨w1.heap.size, 1, none⟩) (by simp only []; omega)).trans ((h2.cell (p := ⟨w1.heap.size, 1, none⟩) (by simp)).trans (show _ = some (Value.int .i64 n) by simp [go_sem])))
           have k2 := (h3.cell (p := ⟨w2.heap.size, 0, none⟩) (by simp)).trans (show _ = some (Value.int .i64 s) by simp [go_sem])
           have k3 := (h3.cell (p := ⟨w2.heap.size, 1, none⟩) (by simp)).trans (show _ = some (Value.int .i64 n) by simp [go_sem])
           replace h3 := (((h1.alloc h1.size _).trans (h2.mono (by simp; omega))).alloc (by omega) _).trans (h3.mono (by simp; omega))))
      go_ret
      exact ⟨by simp, h3⟩
end Go.Proofs.YtncdmineepagpaaDoor
