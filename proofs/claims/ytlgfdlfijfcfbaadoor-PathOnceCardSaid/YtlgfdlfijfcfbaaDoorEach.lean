/- path.each: what a function is handed of a name, one part after another. -/
import Derived.Test.YtlgfdlfijfcfbaaDoorSps
import Derived.Test.YtlgfdlfijfcfbaaDoorIn
namespace Go.Proofs.YtlgfdlfijfcfbaaDoor
open Go.RowKit Go.Shelf Go.Joins
set_option linter.unusedVariables false
attribute [local go_sem] Oper.semAt_some

/-- What a call of the function keeps: the loop's own variables (blocks B .. B + 3), and whatever from B on is no cells. -/
def KeptB (B : Nat) (W W' : World) : Prop := W.heap.size ≤ W'.heap.size ∧ ∀ (k : Nat) (o : Obj), B ≤ k → W.heap[k]? = some o → (k < B + 4 ∨ o.isCells = false) → W'.heap[k]? = some o
theorem KeptB.refl (B : Nat) (W : World) : KeptB B W W := ⟨Nat.le_refl _, fun _ _ _ h _ => h⟩
theorem KeptB.from {B : Nat} {W W' : World} (h : KeptB B W W') (D : Nat) (hD : B ≤ D) : KeepsFrom D W W' := ⟨h.1, fun k o h1 h2 h3 => h.2 k o (by omega) h2 (.inr h3)⟩
theorem KeptB.in {B : Nat} {W W' : World} (h : KeptB B W W') : KeepsIn (B + 1) (B + 1 + 3) W W' := ⟨h.1, fun k h1 h2 h3 => by
  obtain ⟨o, ho⟩ : ∃ o, W.heap[k]? = some o := ⟨_, Array.getElem?_eq_getElem h3⟩
  rw [ho]
  exact h.2 k o (by omega) ho (.inl (by omega))⟩

/-- Between two rounds. -/
def EachI (B fdo : Nat) (lb : Array Value) (Inv : List (List UInt8) → World → Prop) (pre : List (List UInt8)) (W : World) : Prop :=
  Inv (pre.filter okPart) W ∧ Boxed W B 37 (.func (.func fdo) #[] lb) ∧ B + 4 ≤ W.heap.size

theorem filter_snoc_ok (pre : List (List UInt8)) (x : List UInt8) (h : okPart x = true) : (pre ++ [x]).filter okPart = pre.filter okPart ++ [x] := by
  rw [List.filter_append]; simp [h]
theorem filter_snoc_no (pre : List (List UInt8)) (x : List UInt8) (h : okPart x = false) : (pre ++ [x]).filter okPart = pre.filter okPart := by
  rw [List.filter_append]; simp [h]

set_option maxRecDepth 100000 in
set_option maxHeartbeats 4000000 in
theorem each_in (n : Nat) (hn : 6 ≤ n) (l : List UInt8) (hl : l.length ≤ 1000000) (fdo : Nat) (lb : Array Value) (Inv : List (List UInt8) → World → Prop) (w : World)
    (he : ∀ args w, (callFunc fdo args).run Tryd.prog w = .ok (.enter fdo args) w)
    (hInv : ∀ s W W' row, Inv s W → W.grownBy W' row → (∀ r, row = some r → w.heap.size ≤ r ∧ (r < w.heap.size + 4 ∨ ∃ o : Obj, W.heap[r]? = some o ∧ o.isCells = false)) → Inv s W')
    (hdo : ∀ pre p W, Inv pre W → pre.length ≤ l.length → w.heap.size + 4 ≤ W.heap.size → okPart p = true → Calls Tryd.prog fdo (#[.string (mkS p)] ++ lb) W fun e W' => (∃ v, e = .returned v) ∧ Inv (pre ++ [p]) W' ∧ KeptB w.heap.size W W')
    (h0 : Inv [] w) :
    CallsIn Fence.wide n Tryd.prog 30 #[.string (mkS l), .func (.func fdo) #[] lb] w fun e W' => (∃ v, e = .returned v) ∧ Inv (partsL l) W' := by
  have h1 : 1 ≤ n := by omega
  refine callsIn_of_wp_marks Tryd.func30 rfl trivial ?_ rfl
  simp only [Tryd.ntmps30, List.size_toArray, List.length_cons, List.length_nil, Nat.reduceAdd, Nat.reduceSub, Array.replicate_succ, Array.replicate_zero, List.push_toArray, List.append_toArray, List.nil_append, List.cons_append]
  have hfn : Fence.wide.fn 43 := trivial
  have HV := Lib.hid hInv
  have HD := Lib.hid hdo
  have HE := Lib.hid he
  have Hz := Lib.hid h0
  clear hInv hdo he h0
  gi_wp2_with (gi_at_call 43; refine (splitSeqO_in (n - 1) (by omega) l _).mono ?_; rintro e w' ⟨rfl, rfl⟩)
  have d0 := (((Boxed.new w 37 (.func (.func fdo) #[] lb)).alloc (.cells #[.string (mkS l)] 9)).alloc (.cells #[.string (mkS [47])] 9)).alloc (.cells #[.int .i64 0] 3)
  have d1 := ((Boxed.new (w.alloc (.cells #[.func (.func fdo) #[] lb] 37)) 9 (.string (mkS l))).alloc (.cells #[.string (mkS [47])] 9)).alloc (.cells #[.int .i64 0] 3)
  have d2 := (Boxed.new ((w.alloc (.cells #[.func (.func fdo) #[] lb] 37)).alloc (.cells #[.string (mkS l)] 9)) 9 (.string (mkS [47]))).alloc (.cells #[.int .i64 0] 3)
  have d3 := Boxed.new (((w.alloc (.cells #[.func (.func fdo) #[] lb] 37)).alloc (.cells #[.string (mkS l)] 9)).alloc (.cells #[.string (mkS [47])] 9)) 3 (.int .i64 0)
  simp only [World.size_alloc] at d1 d2 d3
  have i1 := HV.out _ _ _ none Hz.out (World.grownBy_alloc w (.cells #[.func (.func fdo) #[] lb] 37) none) (fun r e => by cases e)
  have i2 := HV.out _ _ _ none i1 (World.grownBy_alloc _ (.cells #[.string (mkS l)] 9) none) (fun r e => by cases e)
  have i3 := HV.out _ _ _ none i2 (World.grownBy_alloc _ (.cells #[.string (mkS [47])] 9) none) (fun r e => by cases e)
  have i4 := HV.out _ _ _ none i3 (World.grownBy_alloc _ (.cells #[.int .i64 0] 3) none) (fun r e => by cases e)
  have hsz : ((((w.alloc (.cells #[.func (.func fdo) #[] lb] 37)).alloc (.cells #[.string (mkS l)] 9)).alloc (.cells #[.string (mkS [47])] 9)).alloc (.cells #[.int .i64 0] 3)).heap.size = w.heap.size + 4 := by simp
  clear i1 i2 i3
  obtain ⟨W0, hW0⟩ : ∃ W0, (((w.alloc (.cells #[.func (.func fdo) #[] lb] 37)).alloc (.cells #[.string (mkS l)] 9)).alloc (.cells #[.string (mkS [47])] 9)).alloc (.cells #[.int .i64 0] 3) = W0 := ⟨_, rfl⟩
  rw [hW0] at d0 d1 d2 d3 i4 hsz ⊢
  clear hW0
  refine wpIn_rangeFunc_box rfl h1 (gf := 66) (lb := #[.pointer (some ⟨w.heap.size + 1 + 1, 0, none⟩), .pointer (some ⟨w.heap.size + 1, 0, none⟩), .pointer (some ⟨w.heap.size + 1 + 1 + 1, 0, none⟩)]) rfl trivial (enters_of Tryd.func66 (by kernel_rfl) rfl)
    (splitSeq_gives (n - 1) (by omega) (w.heap.size + 1) l hl W0 d1 d2 d3) (by omega) KeepsIn.trans (fun W k o o' hk _ _ _ => KeepsIn.putObj W k o' (by omega)) (Below.refl _ _) (fun _ => rfl)
    (EachI w.heap.size fdo lb Inv)
    (fun s A B row hs hg hr => ⟨HV.out _ _ _ row hs.1 hg (fun r e => ⟨by have := (hr r e).1; omega, .inr (hr r e).2⟩), hs.2.1.kept hg (fun e => by have h2 := (hr _ e.symm).1; have h3 := hs.2.1.lt; omega), Nat.le_trans hs.2.2 hg.size⟩)
    (fun s W v hs => ⟨HV.out _ _ _ (some (w.heap.size + 1)) hs.1 (grownBy_setCell' W (w.heap.size + 1) v) (fun r e => by cases e; exact ⟨by omega, .inl (by omega)⟩), hs.2.1.other (by omega) v, by rw [show (W.setCell ⟨w.heap.size + 1, 0, none⟩ v).heap.size = W.heap.size from by simp [World.setCell]]; exact hs.2.2⟩)
    ⟨i4, d0, by omega⟩
    (fun x => { tmps := #[.string (mkS l), .func (.func fdo) #[] lb, undef, .pointer (some ⟨w.heap.size, 0, none⟩), .string (mkS x), .string (mkS l), .func (.func 66) #[] #[.pointer (some ⟨w.heap.size + 1 + 1, 0, none⟩), .pointer (some ⟨w.heap.size + 1, 0, none⟩), .pointer (some ⟨w.heap.size + 1 + 1 + 1, 0, none⟩)], .string (mkS x), undef, undef, undef, undef, undef, undef, undef, undef, undef], defers := [] })
    ?assign ?body ?done
  case assign =>
    intro lp x W K hK
    gi_wp2
    exact hK
  case body =>
    rintro lp pre x W ⟨hi, hb, hs⟩ hlt
    have hc := hb.cell
    have hplen : (pre.filter okPart).length ≤ l.length := by
      have g1 := List.length_filter_le okPart pre
      have g2 := pieces_length_le l
      omega
    have e1 := sEq x []
    have e2 := sEq x [46]
    have hlit0 : (⟨#[]⟩ : ByteArray) = mkS [] := rfl
    have hlit : (⟨#[46]⟩ : ByteArray) = mkS [46] := rfl
    have n1 : 1 ≤ n - 1 - 1 := by omega
    have hfn2 : Fence.wide.fn fdo := trivial
    clear d0 d1 d2 d3 i4
    by_cases hx0 : x = []
    · have HF := Lib.hid (show EachI w.heap.size fdo lb Inv (pre ++ [x]) W from ⟨by rw [filter_snoc_no _ _ (by rw [hx0]; rfl)]; exact hi, hb, hs⟩)
      rw [decide_eq_true hx0] at e1
      have e1' : ((mkS x).toList != (mkS []).toList) = false := by rw [bne, e1]; rfl
      clear hi hb hx0 e2
      gi_wp2
      exact ⟨KeepsFrom.refl _ _, (KeptB.refl _ _).in, HF.out⟩
    · rw [decide_eq_false hx0] at e1
      have e1' : ((mkS x).toList != (mkS []).toList) = true := by rw [bne, e1]; rfl
      by_cases hx1 : x = [46]
      · have HF := Lib.hid (show EachI w.heap.size fdo lb Inv (pre ++ [x]) W from ⟨by rw [filter_snoc_no _ _ (by rw [hx1]; rfl)]; exact hi, hb, hs⟩)
        rw [decide_eq_true hx1] at e2
        have e2' : ((mkS x).toList != (mkS [46]).toList) = false := by rw [bne, e2]; rfl
        clear hi hb hx0 hx1
        gi_wp2
        exact ⟨KeepsFrom.refl _ _, (KeptB.refl _ _).in, HF.out⟩
      · rw [decide_eq_false hx1] at e2
        have e2' : ((mkS x).toList != (mkS [46]).toList) = true := by rw [bne, e2]; rfl
        have hok : okPart x = true := (okPart_iff x).2 ⟨hx0, hx1⟩
        have C := Lib.hid (HD.out _ x W hi hplen hs hok)
        have HB := Lib.hid (And.intro hb hok)
        have hef := HE.out
        clear hi hb hx0 hx1 hok
        gi_wp2_with (gi_at_fn fdo; refine (CallsIn.inRound lp (callsIn_wide.2 C.out)).mono ?_; rintro e w2 ⟨⟨v, rfl⟩, hi2, hk2⟩)
        exact ⟨hk2.from _ (by omega), hk2.in, by rw [filter_snoc_ok _ _ HB.out.2]; exact hi2, hk2.2 _ _ (Nat.le_refl _) HB.out.1 (.inl (by omega)), Nat.le_trans hs hk2.1⟩
  case done =>
    rintro D xs W hD rfl ⟨hi, _, hs⟩ hK
    clear d0 d1 d2 d3 i4
    have HI := Lib.hid (show Inv (partsL l) (W.putObj D (.deferred none)) from HV.out _ _ _ (some D) hi (grownBy_putObj' W D (.deferred none)) (fun r e => by cases e; exact ⟨by omega, .inr ⟨_, hK, rfl⟩⟩))
    clear hi
    gi_wp2
    refine ⟨by simp, .inl ⟨_, _, rfl, run_takeDeferred hK, ?_⟩⟩
    exact ⟨_, results_none rfl _ _ _, ⟨_, rfl⟩, HI.out⟩

theorem each_any (l : List UInt8) (hl : l.length ≤ 1000000) (fdo : Nat) (lb : Array Value) (Inv : List (List UInt8) → World → Prop) (w : World)
    (he : ∀ args w, (callFunc fdo args).run Tryd.prog w = .ok (.enter fdo args) w)
    (hInv : ∀ s W W' row, Inv s W → W.grownBy W' row → (∀ r, row = some r → w.heap.size ≤ r ∧ (r < w.heap.size + 4 ∨ ∃ o : Obj, W.heap[r]? = some o ∧ o.isCells = false)) → Inv s W')
    (hdo : ∀ pre p W, Inv pre W → pre.length ≤ l.length → w.heap.size + 4 ≤ W.heap.size → okPart p = true → Calls Tryd.prog fdo (#[.string (mkS p)] ++ lb) W fun e W' => (∃ v, e = .returned v) ∧ Inv (pre ++ [p]) W' ∧ KeptB w.heap.size W W')
    (h0 : Inv [] w) :
    Calls Tryd.prog 30 #[.string (mkS l), .func (.func fdo) #[] lb] w fun e W' => (∃ v, e = .returned v) ∧ Inv (partsL l) W' :=
  (callsIn_wide (n := 6)).1 (each_in 6 (by omega) l hl fdo lb Inv w he hInv hdo h0)
end Go.Proofs.YtlgfdlfijfcfbaaDoor
