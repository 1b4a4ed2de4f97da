/- Sealing does not look at the field of the sum. -/
import Derived.Test.YtapfkjdkpcgoiaaDoorHdp
namespace Go.Proofs.YtapfkjdkpcgoiaaDoor
set_option linter.unusedVariables false

theorem sealL_congr {A F G D : List UInt8} (hA : A.length = 148) (hF : F.length = 8) (hG : G.length = 8) : sealL (A ++ (F ++ D)) = sealL (A ++ (G ++ D)) := by
  have hs : sumC false (A ++ (F ++ D)) 512 = sumC false (A ++ (G ++ D)) 512 := by
    refine sumC_congr false _ _ 512 fun k _ hn => ?_
    unfold bAt
    rw [List.getD_eq_getElem?_getD, List.getD_eq_getElem?_getD]
    by_cases hk : k < 148
    · rw [List.getElem?_append_left (by omega), List.getElem?_append_left (by omega)]
    · have hk2 : 156 ≤ k := by omega
      rw [List.getElem?_append_right (by omega), List.getElem?_append_right (by omega), List.getElem?_append_right (by omega), List.getElem?_append_right (by omega), hF, hG]
  unfold sealL
  rw [hs, List.take_left' hA, List.take_left' hA]
  have d1 : ∀ X : List UInt8, X.length = 8 → (A ++ (X ++ D)).drop 156 = D := fun X hX => by
    rw [← List.append_assoc, List.drop_left' (by rw [List.length_append]; omega)]
  rw [d1 F hF, d1 G hG]
theorem seal_body {d : Nat} {r : RawL} (w : Wide d r) : sealL (bodyP d r) = writeL d r := by
  unfold writeL bodyP
  rw [bodyL_row]
  have e : ∀ x0 x1 x2 x3 x4 x5 x6 x7 x8 x9 x10 x11 x12 x13 x14 x15 : List UInt8, rowF x0 x1 x2 x3 x4 x5 x6 x7 x8 x9 x10 x11 x12 x13 x14 x15 = (x0 ++ (x1 ++ (x2 ++ (x3 ++ (x4 ++ x5))))) ++ (x6 ++ (x7 ++ (x8 ++ (x9 ++ (x10 ++ (x11 ++ (x12 ++ (x13 ++ (x14 ++ x15))))))))) := by
    intros
    unfold rowF
    simp only [List.append_assoc]
  rw [e, e]
  exact sealL_congr (by simp only [List.length_append, w.h0, w.h1, w.h2, w.h3, w.h4, w.h5]) List.length_replicate List.length_replicate
end Go.Proofs.YtapfkjdkpcgoiaaDoor
