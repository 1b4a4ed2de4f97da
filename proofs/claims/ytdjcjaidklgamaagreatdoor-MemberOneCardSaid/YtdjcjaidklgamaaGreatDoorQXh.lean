import Derived.Test.YtdjcjaidklgamaaGreatDoorQXg
set_option linter.unusedSimpArgs false
set_option linter.unusedVariables false
section
namespace Go.Proofs.YtdjcjaidklgamaaGreatDoor
open Go.RowKit Go.Shelf Go.Joins
theorem add_any (n0 lb:Nat) (t:List UInt8) (D:Int) (m:Nat) (hD:D=(m:Int)) (hm:m≤21) (ht:24 * m≤t.length) (htl:t.length≤100000) (l0:List Pc) (h20:l0.length≤20) (w:World) (hn0:n0≤lb) (hlb:lb<w.heap.size) (v:Value)
  (hv:Boxed w lb 24 v) (ho:w.ownsRow n0 77 2 v l0.length (pcCells l0)) :
  Calls Tryz.prog 191 #[.string (mkS t),.int .i64 D,.pointer (some ⟨lb,0,none⟩)] w (AddOut n0 lb (addF t m 0 l0) w):=by
 subst hD
 exact (callsIn_wide (n:=6)).1 (add_in 6 (by omega) n0 lb t m hm ht htl l0 h20 w hn0 hlb v hv ho)
theorem addF_len (t:List UInt8):∀ (k i:Nat) (l:List Pc),l.length≤20→(addF t k i l).2.length≤20
 | 0,i,l,h=>h
 | k+1,i,l,h=>by
  unfold addF
  split
  ·exact h
  ·split
   ·exact h
   ·split
    ·exact h
    ·exact addF_len t k (i+1) _ (by simp;omega)
theorem take512 (s:List UInt8) (a:Nat):takeF s a 512 512=if s.length<a+512 then (3,[],a) else (0,sub s a 512,a+512):=by
 unfold takeF
 rw [if_neg (by omega),show padF 512=0 from by decide]
 by_cases h:s.length<a+512
 ·rw [if_pos (.inr (by omega)),if_pos h]
 ·rw [if_neg (by rintro (h1|h1) <;> omega),if_neg h]
  rfl
theorem own_bar2 {W W':World} {b base size n:Nat} {e t:TypeId} {fr:Nat × Nat} {v:Value} {xs:List Value} {cs:Array Value} (h:W.ownsRow base e size v n xs) (hB:Bar W.heap.size [b] W W') (hb:W.heap[b]?=some (.cells cs t fr)) (ht:t≠e):W'.ownsRow base e size v n xs:=by
 refine ⟨h.1,?_⟩
 rcases h.2 with h0|⟨g,cap,cur,h1,h2,h3,h4⟩
 ·exact Or.inl h0
 ·refine Or.inr ⟨g,cap,cur,h1,h2,hB.row h3 (Array.getElem?_eq_some_iff.1 h3).1 fun hx=>?_,h4⟩
  obtain rfl:g=b:=by simpa using hx
  rw [hb] at h3
  simp at h3
  exact ht h3.2.1
structure PsS (w:World) (b:Nat) (s:List UInt8) (np lp:Option Addr) (gv ov:Value) (a:Nat) (l:List Pc) (v:Value) (W:World):Prop where
 lt:b<w.heap.size
 bar:Bar w.heap.size [b] w W
 row:W.heap[b]?=some (.cells (rdrC s a np lp gv ov) 82 (0,0))
 box:Boxed W w.heap.size 24 v
 own:W.ownsRow w.heap.size 77 2 v l.length (pcCells l)
section
variable {w:World} {b:Nat} {s:List UInt8} {st:RSt} {np lp:Option Addr} {gv ov:Value} {a:Nat} {l:List Pc} {v:Value} {W W':World}
theorem PsS.rdr (h:PsS w b s np lp gv ov a l v W) (hR:RdrAt w b s st np lp gv ov):RdrAt W b s { st with at_:=a } np lp gv ov:=hR.bar h.bar (fun x hx _=>by simpa using hx) h.row
theorem PsS.below (h:PsS w b s np lp gv ov a l v W) (hB:Below W.heap.size W W'):PsS w b s np lp gv ov a l v W' :=
 ⟨h.lt,h.bar.trans (.of_below (hB.mono h.bar.size)),(hB.block b (Nat.lt_of_lt_of_le h.lt h.bar.size)).trans h.row,(hB.block _ h.box.lt).trans h.box,own_bel h.own hB⟩
theorem PsS.took (h:PsS w b s np lp gv ov a l v W) {a':Nat} (hR:RdrAt W' b s { st with at_:=a' } np lp gv ov) (hB:Bar W.heap.size [b] W W'):PsS w b s np lp gv ov a' l v W' :=
 ⟨h.lt,h.bar.trans (hB.cut h.bar.size),hR.row,hB.row h.box h.box.lt (by have:=h.lt;simp;omega),own_bar2 h.own hB h.row (by decide)⟩
theorem PsS.added (h:PsS w b s np lp gv ov a l v W) {l':List Pc} {v':Value} (hb:Boxed W' w.heap.size 24 v') (ho:W'.ownsRow w.heap.size 77 2 v' l'.length (pcCells l')) (hB:Below w.heap.size W W'):PsS w b s np lp gv ov a l' v' W' :=
 ⟨h.lt,h.bar.trans (.of_below hB),(hB.block b h.lt).trans h.row,hb,ho⟩
end
def PsOut (b:Nat) (s:List UInt8) (st:RSt) (np lp:Option Addr) (gv ov:Value) (q:Int × List Pc × Int × Nat) (w:World) (e:Ending) (W:World):Prop :=
 ∃ v a z,e=.returned (.tuple #[v,.int .i64 z,errV q.1])∧PcNew w.heap.size W v q.2.1∧(q.1=0→z=q.2.2.1∧a=q.2.2.2)∧RdrAt W b s { st with at_:=a } np lp gv ov∧Bar w.heap.size [b] w W
theorem psOut_bad {b:Nat} {s:List UInt8} {st:RSt} {np lp:Option Addr} {gv ov:Value} {w W:World} {a c:Nat} {l:List Pc} {v:Value} {k z:Int} (hk:k≠0) (hR:RdrAt w b s st np lp gv ov) (h:PsS w b s np lp gv ov a l v W) :
  PsOut b s st np lp gv ov (k,[],z,c) w (.returned (.tuple #[.slice none 0 0,.int .i64 0,.iface 68 (.int .i64 k)])) W :=
 ⟨.slice none 0 0,a,0,by rw [show errV k=.iface 68 (.int .i64 k) from if_neg hk],pcNew_nil _ _,fun h0=>absurd h0 hk,h.rdr hR,h.bar⟩
set_option maxRecDepth 100000 in
set_option maxHeartbeats 8000000 in
theorem readPieces_any (b:Nat) (s:List UInt8) (st:RSt) (np lp:Option Addr) (gv ov:Value) (h:List UInt8) (hh:h.length=512) (hs:s.length≤100000) (hat:st.at_≤s.length) (w:World) (hR:RdrAt w b s st np lp gv ov) :
  Calls Tryz.prog 168 #[.pointer (some ⟨b,0,none⟩),.string (mkS h)] w (PsOut b s st np lp gv ov (holesR s h st.at_) w):=by
 have hlt:=hR.lt
 have HR:=Lib.hid hR
 have H0:=Lib.hid (show PsS w b s np lp gv ov st.at_ [] (.slice none 0 0) (w.alloc (.cells #[.slice none 0 0] 24)) from
  ⟨hlt,.of_below (below_alloc1 w _),((below_alloc1 w (.cells #[.slice none 0 0] 24)).block b hlt).trans hR.row,Boxed.new w _ _,World.ownsRow_nil _ _ _ _⟩)
 have CA:=Lib.hid (fun (t:List UInt8) (D:Int) (m:Nat) (hD:D=(m:Int)) (hm:m≤21) (ht:24 * m≤t.length) (htl:t.length≤100000) (a:Nat) (l:List Pc) (h20:l.length≤20) (v:Value) (W:World) (hP:PsS w b s np lp gv ov a l v W) =>
  add_any w.heap.size w.heap.size t D m hD hm ht htl l h20 W (Nat.le_refl _) hP.box.lt v hP.box hP.own)
 have hsl:=fun w=>mkS_onward h 386 (by omega) w
 have hsz:=fun w=>mkS_mid h 483 495 (by omega) (by omega) w
 simp only [show ((386:Nat):Int)=386 from rfl] at hsl
 simp only [show ((483:Nat):Int)=483 from rfl,show ((495:Nat):Int)=495 from rfl,show 495 - 483=12 from rfl] at hsz
 change ∀ w,_=Result.ok (Value.string (mkS (sub h 483 12))) w at hsz
 obtain ⟨c,hc⟩:∃ c,h[482]?=some c:=⟨_,List.getElem?_eq_getElem (by omega)⟩
 have hix:=fun w=>mkS_index h 482 c (by decide) hc w
 have CN:=Lib.hid (fun w=>number_any (sub h 483 12) (by unfold sub;rw [List.length_take];omega) w)
 have hd5:(h.drop 386).length=126:=by rw [List.length_drop];omega
 unfold holesR
 rw [hc]
 generalize sub h 483 12=N at *
 generalize h.drop 386=T at *
 have hl4:=addF_len T 4 0 [] (by simp)
 have CA1:=Lib.hid (CA.out T 4 4 rfl (by omega) (by omega) (by omega) st.at_ [] (by simp) (.slice none 0 0) _ H0.out)
 unfold AddOut at CA1
 generalize addF T 4 0 []=Q1 at *
 obtain ⟨e1,l1⟩:=Q1
 simp only at CA1 hl4 ⊢
 clear hR hc hh hd5
 by_cases h1:e1=0
 ·subst h1
  rw [if_neg (by simp)]
  rw [show errV 0=.nilIface from rfl] at CA1
  generalize readF N=Q2 at *
  obtain ⟨sz,e2⟩:=Q2
  simp only at CN ⊢
  by_cases h2:e2=0
  ·subst h2
   rw [if_neg (by simp)]
   rw [show errV 0=.nilIface from rfl] at CN
   have hdc:decide (some c≠some (0:UInt8))=decide (c≠0):=by simp
   rw [hdc]
   obtain ⟨MR,hMR⟩:∃ MR,moreR s st.at_ l1 (decide (c≠0))=MR:=⟨_,rfl⟩
   rw [hMR]
   have HMR:=Lib.hid hMR
   have hl4':=Lib.hid hl4
   have HL:=Lib.hid hat
   have HS:=Lib.hid hs
   clear hMR hdc hl4 hat hs hlt
   go_enter Tryz.func168,Tryz.ntmps168
   go_wp2_with (first
    |(go_at_call 191;(with_reducible refine CA1.out.mono ?_);rintro e w2 ⟨rfl,⟨v2,g1,g2⟩,g3⟩;have H1:=Lib.hid (H0.out.added g1 g2 g3);clear g1 g2 g3)
    |(go_at_call 129;(with_reducible refine (CN.out _).mono ?_);rintro e w3 ⟨rfl,g⟩;have H2:=Lib.hid (H1.out.below g);clear g)
    | fail)
   clear hsl hsz hix CA1 CN
   go_loopg [12,13,14,15] (s.length - st.at_) (fun g s12 _ _ _ wr=>∃ (a:Nat) (l:List Pc) (v:Value) (c:UInt8),s.length - a≤g∧s12=.int .u8 (c.toNat:Int)∧Aside (a≤s.length∧l.length≤20∧moreR s a l (decide (c≠0))=MR∧PsS w b s np lp gv ov a l v wr))
   case atStart=>exact ⟨st.at_,l1,_,c,Nat.le_refl _,rfl,HL.out,hl4'.out,HMR.out,H2.out⟩
   case round =>
    obtain ⟨a,l,v,c,hg,rfl,A⟩:=hrel
    have HA:=Lib.hid A.out
    clear A
    have gc:=u8_at c 0 (by omega)
    by_cases h0:c=0
    ·have hq:((c.toNat:Int)==0)=true:=gc.trans (by rw [h0];rfl)
     have hM:MR=(0,l,a):=by
      rw [← HA.out.2.2.1,h0]
      rw [show decide ((0:UInt8)≠0)=false from rfl,moreR,if_pos rfl]
     have HM:=Lib.hid hM
     have k7:=HA.out.2.2.2.box.cell
     clear hM gc h0
     go_wp2_with fail
     go_ret3
     refine ⟨v,a,sz,by rw [HM.out];rfl,?_,fun _=>by rw [HM.out];exact ⟨rfl,rfl⟩,HA.out.2.2.2.rdr HR.out,HA.out.2.2.2.bar⟩
     rw [HM.out]
     exact pcNew_of_row HA.out.2.2.2.own (Nat.le_refl _)
    ·have hq:((c.toNat:Int)==0)=false:=gc.trans (by simpa using h0)
     have CT:=Lib.hid (take_any s { st with at_:=a } b np lp gv ov 512 512 HS.out HA.out.1 (by omega) wr (HA.out.2.2.2.rdr HR.out))
     have hstep:=HA.out.2.2.1
     rw [show decide (c≠0)=true from by simpa using h0] at hstep
     rw [moreR,if_neg (by decide)] at hstep
     simp only [take512] at CT
     clear gc h0
     by_cases hlen:s.length<a+512
     ·rw [if_pos hlen] at CT hstep
      simp only at CT
      rw [show errV 3=.iface 68 (.int .i64 3) from rfl] at CT
      have HM:=Lib.hid hstep
      clear hstep hlen
      go_wp2_with (first
       |(go_at_call 84;(with_reducible refine CT.out.mono ?_);rintro e w4 ⟨rfl,g1,g2⟩;have H4:=Lib.hid (HA.out.2.2.2.took g1 g2);clear g1 g2)
       | fail)
      go_ret3
      rw [← HM.out]
      exact psOut_bad (k:=3) (by decide) HR.out H4.out
     ·rw [if_neg hlen] at CT hstep
      simp only at CT
      rw [show errV 0=.nilIface from rfl] at CT
      obtain ⟨t,ht⟩:∃ t,sub s a 512=t:=⟨_,rfl⟩
      have htl:t.length=512:=by rw [← ht];unfold sub;rw [List.length_take,List.length_drop];omega
      rw [ht] at CT hstep
      obtain ⟨c2,hc2⟩:∃ c2,t[504]?=some c2:=⟨_,List.getElem?_eq_getElem (by omega)⟩
      have hix:=fun w=>mkS_index t 504 c2 (by decide) hc2 w
      have CB:=Lib.hid (fun W (hP:PsS w b s np lp gv ov (a+512) l v W)=>CA.out t 21 21 rfl (by omega) (by omega) (by omega) (a+512) l HA.out.2.1 v W hP)
      have hlb:=addF_len t 21 0 l HA.out.2.1
      unfold AddOut at CB
      rw [hc2] at hstep
      generalize addF t 21 0 l=Q3 at *
      obtain ⟨e3,l3⟩:=Q3
      simp only at CB hlb hstep
      clear ht hc2
      by_cases h3:e3=0
      ·subst h3
       rw [if_neg (by simp)] at hstep
       rw [show errV 0=.nilIface from rfl] at CB
       rw [show decide (some c2≠some (0:UInt8))=decide (c2≠0) from by simp] at hstep
       have HM:=Lib.hid hstep
       have HB:=Lib.hid hlb
       have HN:=Lib.hid (show a+512≤s.length by omega)
       clear hstep hlb hlen htl
       go_wp2_with (first
        |(go_at_call 84;(with_reducible refine CT.out.mono ?_);rintro e w4 ⟨rfl,g1,g2⟩;have H4:=Lib.hid (HA.out.2.2.2.took g1 g2);clear g1 g2)
        |(go_at_call 191;(with_reducible refine (CB.out _ H4.out).mono ?_);rintro e w5 ⟨rfl,⟨v5,g1,g2⟩,g3⟩;have H5:=Lib.hid (H4.out.added g1 g2 g3);clear g1 g2 g3)
        | fail)
       go_roundg (s.length - (a+512))
       case measure=>have:=HN.out;omega
       case rel=>exact ⟨a+512,l3,_,c2,Nat.le_refl _,rfl,HN.out,HB.out,HM.out,H5.out⟩
      ·rw [if_pos h3] at hstep
       have hE:errV e3=.iface 68 (.int .i64 e3):=if_neg h3
       rw [hE] at CB
       have HM:=Lib.hid (And.intro hstep h3)
       clear hstep hlb hlen htl hE h3
       go_wp2_with (first
        |(go_at_call 84;(with_reducible refine CT.out.mono ?_);rintro e w4 ⟨rfl,g1,g2⟩;have H4:=Lib.hid (HA.out.2.2.2.took g1 g2);clear g1 g2)
        |(go_at_call 191;(with_reducible refine (CB.out _ H4.out).mono ?_);rintro e w5 ⟨rfl,⟨v5,g1,g2⟩,g3⟩;have H5:=Lib.hid (H4.out.added g1 g2 g3);clear g1 g2 g3)
        | fail)
       go_ret3
       rw [← HM.out.1]
       exact psOut_bad HM.out.2 HR.out H5.out
  ·rw [if_pos h2]
   have hE:errV e2=.iface 68 (.int .i64 e2):=if_neg h2
   rw [hE] at CN
   clear hE h2
   go_enter Tryz.func168,Tryz.ntmps168
   go_wp2_with (first
    |(go_at_call 191;(with_reducible refine CA1.out.mono ?_);rintro e w2 ⟨rfl,⟨v2,g1,g2⟩,g3⟩;have H1:=Lib.hid (H0.out.added g1 g2 g3);clear g1 g2 g3)
    |(go_at_call 129;(with_reducible refine (CN.out _).mono ?_);rintro e w3 ⟨rfl,g⟩;have H2:=Lib.hid (H1.out.below g);clear g)
    | fail)
   go_ret3
   exact psOut_bad (k:=2) (by decide) HR.out H2.out
 ·rw [if_pos h1]
  have hE:errV e1=.iface 68 (.int .i64 e1):=if_neg h1
  rw [hE] at CA1
  have HM:=Lib.hid h1
  clear hE h1
  go_enter Tryz.func168,Tryz.ntmps168
  go_wp2_with (first
   |(go_at_call 191;(with_reducible refine CA1.out.mono ?_);rintro e w2 ⟨rfl,⟨v2,g1,g2⟩,g3⟩;have H1:=Lib.hid (H0.out.added g1 g2 g3);clear g1 g2 g3)
   | fail)
  go_ret3
  exact psOut_bad HM.out HR.out H1.out
end Go.Proofs.YtdjcjaidklgamaaGreatDoor
end
