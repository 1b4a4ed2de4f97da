/- The law BlockParts' walk from any mask; a list of bools that comes in. -/
import Derived.Test.YtananpcpkjohcaaDoorParts
import Derived.Deep.Grids
import Derived.Carry
import Derived.ChangeMaps5
namespace Go.Proofs.YtananpcpkjohcaaDoor
open Go.RowKit
set_option linter.unusedVariables false

theorem spot_of_cell {w : World} {a : Addr} {v : Value} (h : w.cell? a = some v) : a.spot = none := by
  unfold World.cell? at h
  split at h
  · cases hs : a.spot with
    | none => rfl
    | some x => rw [hs] at h; simp at h
  · cases h
theorem open_mask {H : Type} {enc : TypeId × Value → H} {P : Program} {t e : TypeId} {W : World} {r : Reach} {b0 : Nat} {v : Value} {d : DataW H} {ps : List MemPlace} (ht : P.underlying t = some (.slice e)) (he : P.underlying e = some .bool) (hc : P.cellsOf e = 1)
    (hval : Value.okWide P W r b0 t v) (hd : DataW.Trod enc P W 0 (fun _ => true) true t v d ps) :
    ∃ ad len cap M, v = .slice ad len cap ∧ len ≤ maxLen ∧ MaskAt W ad len M := by
  obtain ⟨a, n, c, rfl⟩ := Go.WideShapes.okWide_slice ht hval
  obtain ⟨fuel, hf⟩ := hd
  have hcells : (Value.slice a n c).cells = #[.slice a n c] := by simp [Value.cells]
  rw [hcells] at hf
  rcases Go.Deep.open_bools ht he hc hf with ⟨h0, _⟩ | ⟨a', len, cap, B, h1, _, h3, h4, _, h6⟩
  · have : Value.slice a n c = .slice none 0 0 := by simpa using h0
    injection this with e1 e2 e3
    exact ⟨a, n, c, fun _ => false, rfl, by omega, fun i hi => by omega⟩
  · have : Value.slice a n c = .slice (some a') len cap := by simpa using h1
    injection this with e1 e2 e3
    refine ⟨a, n, c, B, rfl, by omega, fun i hi => ?_⟩
    have h7 := h6 0 (by omega)
    have hz : a'.add 0 = a' := by unfold Addr.add; rw [if_pos rfl]
    rw [hz] at h7
    have hs := spot_of_cell h7
    obtain ⟨b, off, sp⟩ := a'
    subst hs
    have h8 := h6 i (by omega)
    have hadd : (⟨b, off, none⟩ : Addr).add i = ⟨b, off + i, none⟩ := Go.WideShapes.add_plain b off i
    rw [hadd] at h8
    exact ⟨b, off, e1, World.block_lt_of_cell? _ _ h8, h8⟩

set_option maxRecDepth 100000 in
set_option maxHeartbeats 1000000 in
theorem blockParts_walk (a0 : ByteArray) (w0 : a0.size ≤ maxLen) (ad : Option Addr) (len cap : Nat) (M : Nat → Bool) (hn : len ≤ maxLen) (w : World) (hM : MaskAt w ad len M) :
    Calls Tryd.prog 19 #[.string a0, .slice ad len cap] w fun e w' => e = .returned (.bool true) ∧ Below w.heap.size w w' := by
  have hm : a0.size ≤ 9223372036854775807 := by unfold maxLen at w0; omega
  have hm2 : len ≤ 9223372036854775807 := by unfold maxLen at hn; omega
  clear w0 hn
  by_cases hlen : (600 : Int) < (a0.size : Int)
  · clear hM
    go_enter Tryd.func19, Tryd.ntmps19
    go_wp2_with (go_at_call 44; refine (blocked_true _).mono ?_; rintro x w1 ⟨rfl, hb1⟩)
    go_ret
    exact ⟨rfl, hb1⟩
  · by_cases hlen2 : (600 : Int) < (len : Int)
    · have d1 : decide ((600 : Int) < (a0.size : Int)) = false := by simpa using hlen
      clear hM
      go_enter Tryd.func19, Tryd.ntmps19
      go_wp2_with (go_at_call 44; refine (blocked_true _).mono ?_; rintro x w1 ⟨rfl, hb1⟩)
      go_ret
      exact ⟨rfl, hb1⟩
    · obtain ⟨l, rfl⟩ : ∃ l, a0 = mkS l := ⟨a0.data.toList, (mkS_self a0).symm⟩
      have hsz := mkS_size l
      exact blockParts_at l (by omega) ad len cap M (by omega) w hM
end Go.Proofs.YtananpcpkjohcaaDoor
