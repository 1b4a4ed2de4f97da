/- path.Split: a name in two. -/
import Derived.Test.YtapfkjdkpcgoiaaDoorMk
import Derived.Test.YtapfkjdkpcgoiaaDoorPn
import Derived.Lib.MinMax
namespace Go.Proofs.YtapfkjdkpcgoiaaDoor
open Go.RowKit Go.Joins
set_option linter.unusedVariables false

def HalfPost (l : List UInt8) (w : World) (e : Ending) (w' : World) : Prop :=
  ∃ a b k, HalfIs l a b k ∧ e = .returned (.tuple #[.string (mkS a), .string (mkS b), .bool k]) ∧ (w' = w ∨ w' = w.drew)
theorem half_ret {l : List UInt8} {w w' : World} {x y : ByteArray} {k : Bool} (a b : List UInt8) (h : HalfIs l a b k) (hx : x = mkS a) (hy : y = mkS b) (hw : (w' = w ∨ w' = w.drew)) :
    HalfPost l w (.returned (.tuple #[.string x, .string y, .bool k])) w' := ⟨a, b, k, h, by rw [hx, hy], hw⟩
theorem ext_onward (l : List UInt8) (j : Nat) : (mkS l).extract j l.length = mkS (l.drop j) := by
  rw [← mkS_self ((mkS l).extract j l.length), Lib.extract_data, mkS_list]
  rw [List.take_of_length_le (by simp)]

set_option maxHeartbeats 2000000 in
theorem split_any (l : List UInt8) (hl : l.length ≤ 1000000) (w : World) :
    Calls Tryd.prog 41 #[.string (mkS l)] w (HalfPost l w) := by
  have s1 := mkS_size l
  by_cases h100 : l.length ≤ 100
  · have H := Lib.hid (show HalfIs l [] l true from .inl ⟨h100, rfl, rfl, rfl⟩)
    go_enter Tryd.func41, Tryd.ntmps41
    go_wp2
    go_ret3
    exact half_ret _ _ H.out rfl rfl (Or.inl rfl)
  · obtain ⟨F, hF⟩ : ∃ F : Nat, max (1 : Int) ((l.length : Int) - 1 - 100) = (F : Int) := ⟨(max (1 : Int) ((l.length : Int) - 1 - 100)).toNat, by omega⟩
    obtain ⟨T, hT⟩ : ∃ T : Nat, min (155 : Int) ((l.length : Int) - 2) = (T : Int) := ⟨(min (155 : Int) ((l.length : Int) - 2)).toNat, by omega⟩
    have hF1 : 1 ≤ F := by omega
    have hF2 : l.length ≤ F + 101 := by omega
    have hF3 : F ≤ 1 ∨ F + 101 ≤ l.length := by omega
    have hT1 : T ≤ 155 := by omega
    have hT2 : T + 2 ≤ l.length := by omega
    have hT3 : 155 ≤ T ∨ l.length ≤ T + 2 := by omega
    go_enter Tryd.func41, Tryd.ntmps41
    go_wp2
    clear hF hT
    go_loop [7] (fun s => ∃ k : Nat, F ≤ k ∧ k ≤ 1000001 ∧ s = .int .i64 (k : Int) ∧ ∀ j, j < k → ¬ halfAt l j) (fun s => T + 1 - (intOf s).toNat)
    case atStart => exact ⟨F, by omega, by omega, rfl, fun j hj h => by unfold halfAt at h; omega⟩
    case round =>
      obtain ⟨k, hk, hk2, rfl, hno⟩ := hrel
      by_cases hkT : k ≤ T
      · obtain ⟨c, hc⟩ : ∃ c, l[k]? = some c := ⟨_, List.getElem?_eq_getElem (by omega)⟩
        have hidx := fun w => mkS_index l (k : Int) c (by omega) (by simpa using hc) w
        have h1 := fun w => mkS_upto l k (by omega) w
        have h2 := fun w => mkS_onward l (k + 1) (by omega) w
        have HE := Lib.hid (ext_onward l (k + 1))
        by_cases h47 : c = 47
        · subst h47
          have H := Lib.hid (show HalfIs l (l.take k) (l.drop (k + 1)) true from .inr ⟨by omega, .inl ⟨k, ⟨by omega, by omega, hc, by omega, by omega⟩, hno, rfl, rfl, rfl⟩⟩)
          clear hno hc
          go_wp2
          go_region
          go_wp2
          go_ret3
          exact half_ret _ _ H.out rfl HE.out (Or.inr rfl)
        · have hne : ((c.toNat : Int) == 47) = false := by
            rw [beq_eq_false_iff_ne]
            intro e
            exact h47 (UInt8.toNat_inj.1 (by show c.toNat = 47; omega))
          have HF : Hid (∀ j, j < k + 1 → ¬ halfAt l j) := Lib.hid fun j hj h => by
            by_cases e : j = k
            · subst e
              have := h.2.2.1
              rw [hc] at this
              exact h47 (Option.some.inj this)
            · exact hno j (by omega) h
          clear hno hc
          go_wp2
          go_round
          case rel => exact ⟨k + 1, by omega, by omega, by go_num, HF.out⟩
          case measure => simp [intOf]; omega
      · have H := Lib.hid (show HalfIs l [] [] false from .inr ⟨by omega, .inr ⟨fun i h => by
          by_cases e : i < k
          · exact hno i e h
          · unfold halfAt at h; omega, rfl, rfl, rfl⟩⟩)
        clear hno
        go_wp2
        go_ret3
        exact half_ret _ _ H.out rfl rfl (Or.inl rfl)
end Go.Proofs.YtapfkjdkpcgoiaaDoor
