/- sort.Slice at pairs, as the reference's Merge calls it. -/
import Derived.Test.YtheiamidochooaaShelf
import Derived.Test.YtheiamidochooaaCat
import Derived.Shelf.SlSortFuncK.WholeK
import Derived.Shelf.GgSortFunc.Tiny
import Derived.RangeFuncBox
import Derived.Deep.QuietTactic
namespace Go.Proofs.Ytheiamidochooaa
open Go.RowKit Go.Shelf Go.Joins Go.Lib Go.Sort
set_option linter.unusedVariables false

abbrev encP (p : Pr) : List Value := [.string (mkS p.1), .string (mkS p.2)]
def ltP (p q : Pr) : Bool := decide (p.1 < q.1)
theorem swo_ltP : SWO ltP where
  irrefl x := by simp [ltP, List.lt_irrefl]
  trans x y z h1 h2 := by simp only [ltP, decide_eq_true_eq] at *; exact List.lt_trans h1 h2
  ntrans x y z h1 h2 := by
    simp only [ltP, decide_eq_false_iff_not, List.not_lt] at *
    exact List.le_trans h2 h1

noncomputable def pvT : TypeInfo := (Try.prog.info? 25).get (by kernel_rfl)
noncomputable def pvE : TypeInfo := (Try.prog.info? 23).get (by kernel_rfl)
theorem pvK (n : Nat) (h2 : 2 ≤ n) : Lib.swapperK n pvE 25 = 9 := by
  have a : pvE.hasPointers = true := by kernel_rfl
  have b : pvE.bytes = 32 := by kernel_rfl
  have c : (n == 0) = false := by simp; omega
  have d : (n == 1) = false := by simp; omega
  simp [Lib.swapperK, a, b, c, d]

set_option maxHeartbeats 2000000 in
theorem less_pairs (blk off c Bs size : Nat) (W : World) (G : Nat → List UInt8) (hs : W.cell? ⟨Bs, 0, none⟩ = some (.slice (some ⟨blk, off, none⟩) size c))
    (hc : ∀ t, t < size → W.cell? ⟨blk, off + t * 2, none⟩ = some (.string (mkS (G t)))) (i j : Nat) (hi : i < size) (hj : j < size) (_hsz : size ≤ 100000) :
    Calls Try.prog 19 #[.int .i64 i, .int .i64 j, .pointer (some ⟨Bs, 0, none⟩)] W fun e w' => e = .returned (.bool (decide (G i < G j))) ∧ ∃ q, w' = W.drewN q := by
  have ci := hc i hi
  have cj := hc j hj
  go_enter Try.func19, Try.ntmps19
  go_wp2
  go_quiet (fail)
  go_wp2
  go_ret
  refine ⟨?_, nq, rfl⟩
  have e : Op.bytesLess (mkS (G i)).toList (mkS (G j)).toList = decide (G i < G j) := by
    rw [ByteArray.toList_eq, ByteArray.toList_eq, mkS_list, mkS_list, bytesLess_eq]
  rw [← e]
  rfl

theorem holds_of_row {W : World} {base g cap : Nat} {e : TypeId} {K : List Pr} (h : W.ownsRow base e 2 (.slice (some ⟨g, 0, none⟩) K.length cap) K.length (pairCells K)) : HoldsK encP 2 W g 0 K.toArray ∧ base ≤ g ∧ g < W.heap.size := by
  rcases h.2 with ⟨h0, _⟩ | ⟨g', cap', cur, hv, hb, hg, h1, h2, h3, h4⟩
  · cases h0
  injection hv with e1 e2 e3
  injection e1 with e1
  injection e1 with e1 e4 e5
  subst e1
  refine ⟨fun j hj => ?_, hb, (Array.getElem?_eq_some_iff.1 hg).1⟩
  rw [size_flatK, List.size_toArray] at hj
  refine ⟨?_, by simp [World.frozen?, hg]⟩
  have hl : (pairCells K).length = K.length * 2 := pairCells_length K
  obtain ⟨p, hp⟩ : ∃ p, K[j / 2]? = some p := ⟨_, List.getElem?_eq_getElem (by omega)⟩
  have hK : K.toArray[j / 2]! = p := by
    rw [getElem!_pos K.toArray (j / 2) (by simp; omega)]
    simpa [List.getElem?_eq_some_iff] using (List.getElem?_eq_some_iff.1 hp).2
  obtain ⟨c1, c2⟩ := pairCells_at K (j / 2) p hp
  have hx : (pairCells K)[j]? = some (encP p)[j % 2]! := by
    rcases Nat.mod_two_eq_zero_or_one j with hm | hm
    · rw [hm]
      rw [show j / 2 * 2 = j by omega] at c1
      exact c1
    · rw [hm]
      rw [show j / 2 * 2 + 1 = j by omega] at c2
      exact c2
  rw [← h4, List.getElem?_take, if_pos hj, Array.getElem?_toList] at hx
  show W.cell? ⟨g, 0 + j, none⟩ = some (id (flatK encP 2 K.toArray)[j]!)
  rw [get_flatK _ _ _ _ (by simpa using hj), hK, Nat.zero_add]
  simp only [World.cell?, hg]
  simpa using hx

theorem grown_sorted {w : World} {g n : Nat} {os : Array Obj} (d : Array Pr) : w.grownBy (grow (putRowK encP 2 (Sort.ahead w n) g 0 d) os) (some g) := by
  refine ⟨rfl, rfl, rfl, by simp [putRowK], fun k hk hne => ?_⟩
  rw [heap_grow_old _ _ (by simpa [putRowK] using hk)]
  have : g ≠ k := fun e => hne (by rw [e])
  simp [putRowK, putRow, mapBlock, Sort.ahead, Array.getElem?_modify, this]

/-- What the sort leaves. -/
def SortedOut (w w' : World) (n0 Bo : Nat) (v : Value) (K : List Pr) : Prop := ∃ K' : List Pr, K'.Perm K ∧ (K'.Pairwise fun p q => ¬ q.1 < p.1) ∧ SliceIs w' v K' ∧ Boxed w' Bo 25 v ∧ Go.RowKit.Below n0 w w'

set_option maxHeartbeats 2000000 in
theorem sort_some (Bo g cap n0 : Nat) (K : List Pr) (h2 : 2 ≤ K.length) (hK : K.length ≤ 100000) (w : World) (hbox : Boxed w Bo 25 (.slice (some ⟨g, 0, none⟩) K.length cap))
    (hrow : w.ownsRow n0 23 2 (.slice (some ⟨g, 0, none⟩) K.length cap) K.length (pairCells K)) :
    Calls Try.prog 18 #[.iface 25 (.slice (some ⟨g, 0, none⟩) K.length cap), .func (.func 19) #[] #[.pointer (some ⟨Bo, 0, none⟩)]] w fun e w' =>
      e = .returned (.tuple #[]) ∧ SortedOut w w' n0 Bo (.slice (some ⟨g, 0, none⟩) K.length cap) K := by
  obtain ⟨hH, hg, hlt⟩ := holds_of_row hrow
  have hne0 := hbox.not_row (by decide) hrow
  have hne : Bo ≠ g := fun e => hne0 (by simp [Value.ownBlock, e])
  have hsz : K.toArray.size = K.length := by simp
  have hless : LessReadsK Try.prog 19 #[.pointer (some ⟨Bo, 0, none⟩)] encP 2 ltP g 0 K.toArray.size w := by
    intro m os dk hs i j hi hj
    have e : sortWorldK encP 2 w g 0 m dk os = putRowK encP 2 (grow (Sort.ahead w m) os) g 0 dk := by
      unfold sortWorldK; rw [putRowK_grow _ _ (Sort.ahead w m) _ g 0 _ hlt]
    have hHg : HoldsK encP 2 (grow (Sort.ahead w m) os) g 0 K.toArray := holdsK_grow _ _ _ _ g 0 _ hlt (holdsK_ahead _ _ _ _ _ _ _ hH)
    refine less_pairs g 0 cap Bo K.toArray.size _ (fun t => dk[t]!.1) ?_ (fun t ht => ?_) i j hi hj (by rw [hsz]; exact hK)
    · rw [e, cell?_putRowK_other _ _ _ g 0 dk _ (by exact hne), cell?_grow _ _ _ (by exact hbox.lt), hsz]; exact hbox.cell
    · rw [e]; exact ((holdsK_putRowK _ _ _ g 0 K.toArray dk hHg hs).cell (i := t) (c := 0) (by omega) (by omega)).1
  have hS := Any.sort_Slice_cells_sorted Try.laysGg6 25 23 pvT pvE (by kernel_rfl) (by kernel_rfl) (by kernel_rfl) (by kernel_rfl) 25 (fun _ => by kernel_rfl) encP 2 (fun _ => rfl) (by kernel_rfl) (fun _ => by kernel_rfl)
    (fun x v hv => by simp [encP] at hv; rcases hv with rfl | rfl <;> rfl) ltP swo_ltP 19 _
    (enters_of Try.func19 (by kernel_rfl) rfl) g 0 cap K.toArray (by simpa using h2) (by simp; omega) 47 (by rw [pvK _ (by simpa using h2)]; kernel_rfl) false
    (fun args W => run_callFunc_extern Try.func47 (by kernel_rfl) (by kernel_rfl) (by kernel_rfl) (e := Extern.ReflectliteSwapper.swap false) (by kernel_rfl) args W) w hless hH hlt
  rw [hsz] at hS
  change Calls Try.prog 18 _ _ _ at hS
  refine hS.mono fun e w' ⟨he, d', n, os, hp, hs, hw⟩ => ⟨he, d'.toList, ?_, ?_, ?_, ?_, ?_⟩
  · obtain ⟨p1, _, p3⟩ := hp
    rw [hsz] at p1
    have e1 : d'.extract 0 K.length = d' := by rw [← p1]; exact Array.extract_size
    have e2 : K.toArray.extract 0 K.length = K.toArray := by rw [← hsz]; exact Array.extract_size
    rw [e1, e2] at p3
    simpa using p3
  · have p1 : d'.size = K.length := hp.1.trans hsz
    refine List.pairwise_iff_getElem.2 fun i j hi hj hij => ?_
    have h := hs i j (Nat.zero_le _) hij (by simpa [p1] using hj)
    rw [getElem!_pos d' i (by simpa using hi), getElem!_pos d' j (by simpa using hj)] at h
    simpa [ltP] using h
  · have p1 : d'.size = K.length := hp.1.trans hsz
    have hHg : HoldsK encP 2 w' g 0 d' := by
      rw [hw]
      exact holdsK_grow _ _ _ _ g 0 _ (by simpa [putRowK] using hlt) (holdsK_putRowK _ _ _ g 0 K.toArray d' (holdsK_ahead _ _ _ _ _ _ _ hH) hp.1)
    have hsize : w.heap.size ≤ w'.heap.size := by rw [hw]; exact (grown_sorted (w := w) (g := g) (n := n) (os := os) d').size
    refine ⟨some ⟨g, 0, none⟩, cap, congrArg (fun n => Value.slice (some ⟨g, 0, none⟩) n cap) ((Array.length_toList (xs := d')).trans p1).symm, fun h => (by cases h), fun i p hi => ⟨g, 0, rfl, Nat.lt_of_lt_of_le hlt hsize, ?_, ?_⟩⟩
    · have hil : i < d'.size := by have := (List.getElem?_eq_some_iff.1 hi).1; simpa using this
      have h := (hHg.cell (i := i) (c := 0) hil (by omega)).1
      have hd : d'[i]! = p := by rw [getElem!_pos d' i hil]; simpa using (List.getElem?_eq_some_iff.1 hi).2
      rw [hd] at h
      exact h
    · have hil : i < d'.size := by have := (List.getElem?_eq_some_iff.1 hi).1; simpa using this
      have h := (hHg.cell (i := i) (c := 1) hil (by omega)).1
      have hd : d'[i]! = p := by rw [getElem!_pos d' i hil]; simpa using (List.getElem?_eq_some_iff.1 hi).2
      rw [hd] at h
      exact h
  · rw [hw]; exact hbox.kept (grown_sorted d') (fun e => hne (by cases e; rfl))
  · rw [hw]; exact (Below.refl n0 w).grown (grown_sorted d') (by omega) fun k ek => by cases ek; exact hg

set_option maxHeartbeats 2000000 in
theorem sort_tiny (Bo n0 cap : Nat) (ad : Option Addr) (K : List Pr) (h1 : K.length ≤ 1) (w : World) (hn : n0 ≤ w.heap.size) (hbox : Boxed w Bo 25 (.slice ad K.length cap)) (hnil : ad = none → cap = 0) (hP : PairsAt w ad K) :
    Calls Try.prog 18 #[.iface 25 (.slice ad K.length cap), .func (.func 19) #[] #[.pointer (some ⟨Bo, 0, none⟩)]] w fun e w' =>
      e = .returned (.tuple #[]) ∧ SortedOut w w' n0 Bo (.slice ad K.length cap) K := by
  have hK : Lib.swapperK K.length pvE 25 = K.length + 1 := by
    rcases Nat.eq_zero_or_pos K.length with h | h
    · rw [h]; simp [Lib.swapperK]
    · rw [show K.length = 1 by omega]; simp [Lib.swapperK]
  have hf : Try.prog.funcs.findIdx? (·.name == "internal/reflectlite" ++ ".Swapper$" ++ toString (Lib.swapperK K.length pvE 25)) = some (39 + K.length) := by
    rw [hK]
    generalize K.length = n at h1
    rcases Nat.eq_zero_or_pos n with h | h
    · subst h; kernel_rfl
    · obtain rfl : n = 1 := by omega
      kernel_rfl
  have hi : Try.prog.info? 25 = some pvT := by kernel_rfl
  have hd : pvT.desc = .slice 23 := by kernel_rfl
  have hpk : Try.prog.packed 25 = false := by kernel_rfl
  have hie : Try.prog.info? 23 = some pvE := by kernel_rfl
  have hke : ∀ w, (Extern.Rtype.kind 23).run Try.prog w = .ok 25 w := fun _ => by kernel_rfl
  have hS := Any.sort_Slice_tiny Try.laysGg6 25 23 pvT pvE hi hd hpk hie 25 hke ad K.length cap h1 (39 + K.length) hf (.func 19) #[] #[.pointer (some ⟨Bo, 0, none⟩)] w
  change Calls Try.prog 18 _ _ _ at hS
  refine hS.mono fun e w' ⟨he, os, hw⟩ => ?_
  have hg : w.grownBy w' none := by
    rw [hw]
    exact ⟨rfl, rfl, rfl, by simp, fun k hk _ => heap_grow_old _ _ hk⟩
  have hb : Go.RowKit.Below w.heap.size w w' := (Below.refl _ w).grown hg (Nat.le_refl _) fun k ek => by cases ek
  refine ⟨he, K, List.Perm.refl _, ?_, ⟨ad, cap, rfl, hnil, hP.below hb⟩, hbox.kept hg (by simp), hb.mono hn⟩
  match K, h1 with
  | [], _ => exact List.Pairwise.nil
  | [x], _ => exact List.pairwise_singleton _ _
  | x :: y :: r, h => exact absurd h (by simp)

theorem sort_pairs (Bo n0 : Nat) (v : Value) (K : List Pr) (hK : K.length ≤ 100000) (w : World) (hn : n0 ≤ w.heap.size) (hbox : Boxed w Bo 25 v) (hrow : w.ownsRow n0 23 2 v K.length (pairCells K)) :
    Calls Try.prog 18 #[.iface 25 v, .func (.func 19) #[] #[.pointer (some ⟨Bo, 0, none⟩)]] w fun e w' =>
      e = .returned (.tuple #[]) ∧ SortedOut w w' n0 Bo v K := by
  have hs := sliceIs_of_row hrow
  rcases Nat.lt_or_ge K.length 2 with h | h
  · obtain ⟨ad, cap, rfl, h1, h2⟩ := hs
    exact sort_tiny Bo n0 cap ad K (by omega) w hn hbox h1 h2
  · have h2 := hrow.2
    rcases h2 with ⟨_, h0⟩ | ⟨g, cap, cur, rfl, _⟩
    · omega
    · exact sort_some Bo g cap n0 K h hK w hbox hrow
end Go.Proofs.Ytheiamidochooaa
