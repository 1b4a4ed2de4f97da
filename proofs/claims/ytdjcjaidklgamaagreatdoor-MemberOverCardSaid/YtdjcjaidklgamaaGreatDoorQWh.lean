import Derived.Test.YtdjcjaidklgamaaGreatDoorQMf
import Derived.Test.YtdjcjaidklgamaaGreatDoorQHr
import Derived.Deep.DeepCutAuto
set_option linter.unusedSimpArgs false
set_option linter.unusedVariables false
section
namespace Go.Proofs.YtdjcjaidklgamaaGreatDoor
open Go.RowKit Go.Joins
set_option linter.unusedVariables false
set_option linter.unusedSimpArgs false
theorem halfF_le (n:List UInt8):(halfF n).1.length≤n.length∧(halfF n).2.1.length≤n.length:=by
 unfold halfF
 split
 ·exact ⟨by simp,Nat.le_refl _⟩
 ·split
  ·exact ⟨by simp;omega,by simp⟩
  ·simp
theorem namedF_kind (d:Nat) (r:RawL) (n:List UInt8):(namedF d r n).1.kind=r.kind∧(intsL (namedF d r n).1↔intsL r)∧(namedF d r n).1.user=r.user∧(namedF d r n).1.group=r.group∧(namedF d r n).1.name.length≤n.length∧(namedF d r n).1.front.length≤n.length:=by
 have h:=halfF_le n
 unfold namedF
 split
 ·exact ⟨rfl,Iff.rfl,rfl,rfl,h.2,h.1⟩
 ·exact ⟨rfl,Iff.rfl,rfl,rfl,Nat.le_refl _,by simp⟩
theorem namedF_any (d:Nat) (r:RawL) (n:List UInt8) (hn:n.length≤1000000) (w:World) :
  Calls Tryz.prog 113 #[rawV r,.int .i64 (d:Int),.string (mkS n)] w fun e w'=>e=.returned (.tuple #[rawV (namedF d r n).1,.bool (namedF d r n).2])∧Below w.heap.size w w':=by
 refine (named_any d r n hn w).mono fun e w' ⟨q,k,h,he,hb⟩=>⟨?_,hb⟩
 rw [he,h.eq]
def headWF (d:Nat) (r:RawL):List UInt8 × Int:=if goodL d r then (writeL d r,0) else ([],2)
theorem WriteIs.eq {d:Nat} {r:RawL} {s:List UInt8} {k:Int} (h:WriteIs (d:Int) r s k) (hd:1≤d∧d≤4) (hk:r.kind≠0):headWF d r=(s,k):=by
 unfold headWF
 cases h with
 | arg h=>exact absurd h (by rintro (h|h|h);omega;omega;exact hk h)
 | range _ _ h=>rw [if_neg (by simpa using h)]
 | ok _ h=>rw [if_pos (by simpa using h)];simp
theorem headWF_any (d:Nat) (hd:1≤d∧d≤4) (r:RawL) (hk:r.kind≠0) (hz:∀ k,k<5→(tVal r k).length≤1000000) (hi:intsL r) (w:World) :
  Calls Tryz.prog 114 #[.int .i64 (d:Int),rawV r] w fun e w'=>e=.returned (.tuple #[.string (mkS (headWF d r).1),errV (headWF d r).2])∧Below w.heap.size w w':=by
 refine (write_any' (d:Int) r hz hi w).mono fun e w' ⟨s,k,h,he,hb⟩=>⟨?_,hb⟩
 rw [he,h.eq hd hk]
theorem wholeF_head (d:Nat) (r:RawL) (n link data:List UInt8):wholeF d r n link data =
  if (namedF d r n).2=true then (if (headWF d { (namedF d r n).1 with link:=link }).2=0 then ((headWF d { (namedF d r n).1 with link:=link }).1++fillL data,0) else ([],2)) else ([],2):=by
 unfold wholeF headWF
 by_cases h1:(namedF d r n).2=true
 ·rw [if_pos h1]
  by_cases h2:goodL d { (namedF d r n).1 with link:=link }
  ·rw [if_pos h2,if_pos ⟨h1,h2⟩];rfl
  ·rw [if_neg h2,if_neg (fun h=>h2 h.2)];rfl
 ·rw [if_neg h1,if_neg (fun h=>h1 h.1)]
theorem headWF_two (d:Nat) (r:RawL):(headWF d r).2=0∨((headWF d r).2=2∧(headWF d r).1=[]):=by
 unfold headWF
 split
 ·exact .inl rfl
 ·exact .inr ⟨rfl,rfl⟩
theorem headWF_len (d:Nat) (r:RawL):(headWF d r).1.length≤512:=by
 unfold headWF
 split
 ·next h=>rw [write_length h];omega
 ·simp
theorem fillL_len (l:List UInt8):(fillL l).length≤l.length+511:=by
 have h:=padF_range (l.length:Int)
 unfold fillL
 rw [List.length_append,List.length_replicate]
 omega
abbrev rawC (q:RawL):Array Value:=#[.string (mkS q.name),.string (mkS q.link),.string (mkS q.user),.string (mkS q.group),.string (mkS q.front),.int .u8 (q.kind.toNat:Int),.int .i64 q.mode,.int .i64 q.uid,.int .i64 q.gid,.int .i64 q.size,.int .i64 q.time,.int .i64 q.major,.int .i64 q.minor]
theorem row_cell {w:World} {b:Nat} {cs:Array Value} {t:TypeId} {fr:Nat × Nat} (h:w.heap[b]?=some (.cells cs t fr)) (i:Nat) (v:Value) (hv:cs[i]?=some v):w.cell? ⟨b,i,none⟩=some v:=by simp only [World.cell?,h];exact hv
theorem row_free {w:World} {b:Nat} {cs:Array Value} {t:TypeId} (h:w.heap[b]?=some (.cells cs t (0,0))) (i:Nat):w.frozen? ⟨b,i,none⟩=false:=by simp [World.frozen?,h]
theorem rawC_one (q:RawL):(rawC q).all (fun x=>x.oneCell')=true:=by
 unfold rawC
 simp
 exact ⟨rfl,rfl,rfl,rfl,rfl,rfl,rfl,rfl,rfl,rfl,rfl,rfl,rfl⟩
theorem setCell_row {w:World} {b i:Nat} {cs:Array Value} {t:TypeId} {fr:Nat × Nat} {v:Value} (h:w.heap[b]?=some (.cells cs t fr)):(w.setCell ⟨b,i,none⟩ v).heap[b]?=some (.cells (cs.setIfInBounds i v) t fr)∧∀ B,B≤b→∀ a,Below B a w→Below B a (w.setCell ⟨b,i,none⟩ v):=by
 rw [setCell_eq_setRow w b i _ _ _ v h]
 exact ⟨setRow_heap w b _ _ t fr h,fun B hB a ha=>below_setRow ha hB _⟩
set_option maxRecDepth 100000 in
set_option maxHeartbeats 8000000 in
theorem written_any (d:Nat) (hd:1≤d∧d≤4) (r:RawL) (n link data:List UInt8) (hk:r.kind≠0) (hn:n.length≤1000000) (hl:link.length≤1000000) (hu:r.user.length≤1000000) (hg:r.group.length≤1000000) (hdt:data.length≤50000) (hi:intsL r) (w:World) :
  Calls Tryz.prog 71 #[.int .i64 (d:Int),rawV r,.string (mkS n),.string (mkS link),.string (mkS data)] w fun e w'=>e=.returned (.tuple #[.string (mkS (wholeF d r n link data).1),errV (wholeF d r n link data).2])∧Below w.heap.size w w':=by
 have CN:=Lib.hid (fun w=>namedF_any d r n hn w)
 obtain ⟨q1,q2,q3,q4,q5,q6⟩:=namedF_kind d r n
 have hW:=wholeF_head d r n link data
 generalize hq:(namedF d r n).1=q at *
 generalize hb:(namedF d r n).2=b at *
 have CW:=Lib.hid (fun w=>headWF_any d hd { q with link:=link } (by show q.kind≠0;rw [q1];exact hk) (fun k hk=>by
  obtain rfl|rfl|rfl|rfl|rfl:k=0∨k=1∨k=2∨k=3∨k=4:=by omega
  ·show q.name.length≤_;omega
  ·show link.length≤_;omega
  ·show q.user.length≤_;rw [q3];omega
  ·show q.group.length≤_;rw [q4];omega
  ·show q.front.length≤_;omega) (show intsL q from q2.2 hi) w)
 have CF:=Lib.hid (fun w=>fill_any data w (by omega))
 have hwl:=headWF_len d { q with link:=link }
 have hw2:=headWF_two d { q with link:=link }
 have hfl:=fillL_len data
 have hR:=Lib.hid (show (w.alloc (.cells (rawC r) 117)).heap[w.heap.size]?=some (.cells (rawC r) 117 (0,0)) from heap_alloc_new w _)
 have hB:=Lib.hid (below_alloc1 w (.cells (rawC r) 117))
 rw [hW]
 clear hW q1 q2 q3 q4 q5 q6 hq hb hi hk hd hu hg hn
 generalize headWF d { q with link:=link }=S at *
 generalize hF:fillL data=F at *
 obtain ⟨s,k⟩:=S
 have hcat:∀ w,(Op.stringOp .add (mkS s) (mkS F)).run Tryz.prog w=.ok (.string (mkS (s++F))) w:=fun w=>mkS_cat2 s F (by simp only at hwl;omega) w
 unfold rawC at hR hB
 unfold rawV at CN CW ⊢
 simp only at CW hw2
 cases b with
 | false =>
  rw [if_neg (by simp)]
  go_enter Tryz.func71,Tryz.ntmps71
  go_wp2_with (first
   |(go_at_call 113;(with_reducible refine (CN.out _).mono ?_);rintro e w2 ⟨rfl,h2⟩;have hB2:=Lib.hid (hB.out.trans (h2.mono hB.out.size));have hR2:=Lib.hid ((h2.block _ (Array.getElem?_eq_some_iff.1 hR.out).1).trans hR.out);clear h2)
   |(refine wpList_store_row rfl _ _ _ rfl w.heap.size (rawC q) rfl rfl _ _ hR2.out (by kernel_rfl) rfl (rawC_one q) ?_;have hB3:=Lib.hid (below_setRow hB2.out (Nat.le_refl _) (rawC q)))
   | fail)
  go_ret2
  exact ⟨rfl,hB3.out⟩
 | true =>
  rw [if_pos rfl]
  simp only
  rcases hw2 with rfl|⟨rfl,rfl⟩
  case' inl =>
   rw [if_pos rfl]
   simp only
   rw [show errV 0=.nilIface from rfl] at CW ⊢
  case' inr =>
   rw [if_neg (by decide)]
   simp only
   rw [show errV 2=.iface 68 (.int .i64 2) from rfl] at CW ⊢
  all_goals
   go_enter Tryz.func71,Tryz.ntmps71
   go_upto_region 5 with (first
    |(go_at_call 113;(with_reducible refine (CN.out _).mono ?_);rintro e w2 ⟨rfl,h2⟩;have hB2:=Lib.hid (hB.out.trans (h2.mono hB.out.size));have hR2:=Lib.hid ((h2.block _ (Array.getElem?_eq_some_iff.1 hR.out).1).trans hR.out);clear h2)
    |(refine wpList_store_row rfl _ _ _ rfl w.heap.size (rawC q) rfl rfl _ _ hR2.out (by kernel_rfl) rfl (rawC_one q) ?_;have hB3:=Lib.hid (below_setRow hB2.out (Nat.le_refl _) (rawC q));have hR3:=Lib.hid (setRow_heap w2 _ _ (rawC q) _ _ hR2.out);clear hR2 hB2;generalize w2.setRow w.heap.size (rawC q)=w3 at *;have k1:=row_cell hR3.out 1 _ rfl;have f1:=row_free hR3.out 1)
    | fail)
   have hS:=setCell_row (i:=1) (v:=.string (mkS link)) hR3.out
   have hB4:=Lib.hid (hS.2 _ (Nat.le_refl _) _ hB3.out)
   have hR4:=Lib.hid (show RawAt (w3.setCell ⟨w.heap.size,1,none⟩ (.string (mkS link))) w.heap.size { q with link:=link } from RawAt.of_row hS.1)
   clear hS k1 f1 hR3 hB3 hR hB
   generalize w3.setCell ⟨w.heap.size,1,none⟩ (.string (mkS link))=w4 at *
   obtain ⟨c0,c1,c2,c3,c4,c5,c6,c7,c8,c9,c10,c11,c12⟩:=id hR4.out
   go_wp2_with (first
    |(go_at_call 114;(with_reducible refine (CW.out _).mono ?_);rintro e w5 ⟨rfl,h5⟩;have hB5:=Lib.hid (hB4.out.trans (h5.mono hB4.out.size));clear h5)
    |(go_at_call 78;(with_reducible refine (CF.out _).mono ?_);rintro e w6 ⟨rfl,h6⟩;have hB6:=Lib.hid (hB5.out.trans (h6.mono hB5.out.size));clear h6)
    | fail)
   go_ret2
   exact ⟨rfl,by first|exact hB6.out|exact hB5.out⟩
theorem written_at (D:Int) (d:Nat) (hD:D=(d:Int)) (hd:1≤d∧d≤4) (r:RawL) (n link data:List UInt8) (hk:r.kind≠0) (hn:n.length≤1000000) (hl:link.length≤1000000) (hu:r.user.length≤1000000) (hg:r.group.length≤1000000) (hdt:data.length≤50000) (hi:intsL r) (w:World) :
  Calls Tryz.prog 71 #[.int .i64 D,rawV r,.string (mkS n),.string (mkS link),.string (mkS data)] w fun e w'=>e=.returned (.tuple #[.string (mkS (wholeF d r n link data).1),errV (wholeF d r n link data).2])∧Below w.heap.size w w':=by
 rw [hD]
 exact written_any d hd r n link data hk hn hl hu hg hdt hi w
end Go.Proofs.YtdjcjaidklgamaaGreatDoor
end
