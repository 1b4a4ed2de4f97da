import Derived.Test.YtdjcjaidklgamaaGreatDoorQXg
set_option linter.unusedSimpArgs false
set_option linter.unusedVariables false
section
namespace Go.Proofs.YtdjcjaidklgamaaGreatDoor
open Go.RowKit Go.Joins
theorem LnS.next {w:World} {r:List UInt8} {l:List Pc} {v:Value} {W:World} (h:LnS w r l v W) (hr:r.length≤60000) (hA:Px.AtoiLaid w) :
  Calls Tryz.prog 194 #[.pointer (some ⟨w.heap.size,0,none⟩)] W fun e W'=>e=.returned (.tuple #[.int .i64 (lineR r).2.1,errV (lineR r).1])∧LnS w (lineR r).2.2 l v W' :=
 (lineNext_any w.heap.size r hr W h.box (h.laid hA)).mono fun e W' ⟨h1,h2,h3⟩=>⟨h1,h.line h2 h3⟩
theorem LnS.app {w:World} {r:List UInt8} {l:List Pc} {v v':Value} {W W':World} {p:Pc} {tmp:Obj} (h:LnS w r l v W)
  (ho:W'.ownsRow (w.heap.size+1) 77 2 v' (l.length+1) (pcCells l++[.int .i64 p.1,.int .i64 p.2])) (hg:(W.alloc tmp).grownBy W' v.ownBlock):LnS w r (l++[p]) v' W':=by
 have hs:=h.box.lt
 have h1:=h.below.alloc h.below.size tmp
 refine ⟨below_grown h1 (h.own.alloc _) (by omega) hg,(h.box.alloc tmp).kept hg (h.box.not_row (by decide) h.own),?_⟩
 rw [List.length_append,pcCells_snoc]
 exact ho
theorem linesOut_bad {w W:World} {r:List UInt8} {l:List Pc} {v:Value} {k:Int} (hk:k≠0) (h:LnS w r l v W) :
  LinesOut (k,[],[]) w (.returned (.tuple #[.slice none 0 0,.string ⟨#[]⟩,.iface 68 (.int .i64 k)])) W :=
 ⟨⟨.slice none 0 0,by rw [show errV k=.iface 68 (.int .i64 k) from if_neg hk];rfl,pcNew_nil _ _⟩,h.below⟩
set_option maxRecDepth 100000 in
set_option maxHeartbeats 8000000 in
theorem readLines_any (d:List UInt8) (hd:d.length≤50000) (w:World) (hA:Px.AtoiLaid w) :
  Calls Tryz.prog 170 #[.string (mkS d)] w (LinesOut (newMapR d) w):=by
 have H0:=Lib.hid (show LnS w d [] (.slice none 0 0) (w.alloc (.cells #[.string (mkS d)] 9)) from
  ⟨below_alloc1 w _,Boxed.new w _ _,World.ownsRow_nil _ _ _ _⟩)
 have CL:=Lib.hid (fun (r:List UInt8) (l:List Pc) (v:Value) (W:World) (h:LnS w r l v W) (hr:r.length≤60000)=>h.next hr hA)
 have hz:=mkS_size d
 have C1:=Lib.hid (CL.out d [] _ _ H0.out (by omega))
 have hr0:=lineR_range d
 unfold newMapR
 obtain ⟨Q1,hQ1⟩:∃ q,lineR d=q:=⟨_,rfl⟩
 rw [hQ1] at C1 hr0 ⊢
 obtain ⟨e1,n1,r1⟩:=Q1
 simp only at C1 hr0 ⊢
 obtain ⟨a1,a2,a3⟩:=hr0
 clear hA hQ1
 by_cases h1:e1=0
 ·subst h1
  rw [if_neg (by simp),show errV 0=.nilIface from rfl] at *
  obtain ⟨N,rfl⟩:=Int.eq_ofNat_of_zero_le a1
  by_cases h2:(20:Int)<(N:Int)
  ·rw [if_pos h2]
   go_enter Tryz.func170,Tryz.ntmps170
   go_wp2_with (first
    |(go_at_call 194;(with_reducible refine C1.out.mono ?_);rintro e w2 ⟨rfl,g⟩;have H1:=Lib.hid g;clear g)
    | fail)
   go_ret3
   exact linesOut_bad (k:=4) (by decide) H1.out
  ·rw [if_neg h2]
   simp only [Int.toNat_natCast]
   obtain ⟨LR,hLR⟩:∃ q,linesR N r1 []=q:=⟨_,rfl⟩
   rw [hLR]
   have HLR:=Lib.hid hLR
   obtain ⟨Z,hZ⟩:∃ Z,(if LR.1≠0 then (LR.1,[],[]) else behindR d LR.2.2 LR.2.1)=Z:=⟨_,rfl⟩
   rw [hZ]
   have HZ:=Lib.hid hZ
   clear hZ
   have HA3:=Lib.hid a3
   have hq20:decide ((20:Int)<(N:Int))=false:=decide_eq_false h2
   have HN20:=Lib.hid (show N≤20 by omega)
   clear hLR a1 a2 a3 h2
   go_enter Tryz.func170,Tryz.ntmps170
   go_wp2_with (first
    |(go_at_call 194;(with_reducible refine C1.out.mono ?_);rintro e w2 ⟨rfl,g⟩;have H1:=Lib.hid g;clear g)
    | fail)
   clear C1
   go_loopg [28,9,10,11,12] N (fun g s28 s9 _ _ _ wr=>∃ (i:Nat) (r:List UInt8) (l:List Pc) (v:Value),i≤N∧N - i≤g∧s28=.int .i64 (i:Int)∧v=s9∧Aside (LnS w r l v wr∧r.length≤d.length∧l.length=i∧linesR (N - i) r l=LR))
   case atStart=>exact ⟨0,r1,[],_,by omega,by omega,rfl,rfl,H1.out,HA3.out,rfl,HLR.out⟩
   case round =>
    obtain ⟨i,r,l,v,hi,hg,rfl,rfl,A⟩:=hrel
    have HA:=Lib.hid A.out
    clear A
    by_cases hiN:i<N
    ·obtain ⟨u,hu⟩:∃ u,N - i=u+1:=⟨N - i - 1,by omega⟩
     have hu2:N - (i+1)=u:=by omega
     have hstep:=HA.out.2.2.2
     rw [hu,linesR] at hstep
     have C2:=Lib.hid (CL.out r l _ wr HA.out.1 (by have:=HA.out.2.1;omega))
     have hr2:=lineR_range r
     generalize lineR r=Q2 at *
     obtain ⟨e2,n2,r2⟩:=Q2
     simp only at C2 hr2 hstep
     by_cases h3:e2=0
     ·subst h3
      rw [if_neg (by simp)] at hstep
      rw [show errV 0=.nilIface from rfl] at C2
      have C3:=Lib.hid (fun (v:Value) W (h:LnS w r2 l v W)=>CL.out r2 l _ W h (by have:=HA.out.2.1;omega))
      have hr3:=lineR_range r2
      generalize lineR r2=Q3 at *
      obtain ⟨e3,n3,r3⟩:=Q3
      simp only at C3 hr3 hstep
      by_cases h4:e3=0
      ·subst h4
       rw [if_neg (by simp)] at hstep
       rw [show errV 0=.nilIface from rfl] at C3
       obtain ⟨ad,cap,rfl⟩:=own_shape HA.out.1.own
       have HM:=Lib.hid (And.intro hstep (show r3.length≤d.length by have:=HA.out.2.1;omega))
       obtain ⟨i0,hi0,hz0,hz1,hz2⟩:=info_parts Tryz.infoPiece
       have hlen:l.length≤20:=by have:=HA.out.2.2.1;have:=HN20.out;omega
       have hb20:N≤20:=HN20.out
       clear hstep hr2 hr3
       go_wp2_with (first
        |(go_at_call 194;(with_reducible refine C2.out.mono ?_);rintro e w3 ⟨rfl,g⟩;have H2:=Lib.hid g;clear g)
        |(go_at_call 194;(with_reducible refine (C3.out _ _ H2.out).mono ?_);rintro e w4 ⟨rfl,g⟩;have H3:=Lib.hid g;clear g)
        |(at_builtin;refine wpList_append_own _ rfl _ _ 24 rfl (w.heap.size+1) 77 i0 (.agg #[.int .i64 0,.int .i64 0]) 2 16 Tryz.underlying24 hi0 hz0 hz1 hz2 rfl (by decide) _ _ _ rfl (H3.out.own.alloc _) ⟨w4.heap.size,0,none⟩ 1 1 [.int .i64 n2,.int .i64 n3] rfl rfl (cell_two_new' _ _ _ _) (by simp [Value.oneCell']) (by unfold maxLen;omega) (by omega) (by simp;have:=H3.out.box.lt;omega) ?_;intro v' w5 hown' hgrow _;have H4:=Lib.hid (LnS.app (p:=(n2,n3)) H3.out hown' hgrow);clear hown' hgrow)
        | fail)
       go_roundg (N - (i+1))
       case measure=>omega
       case rel=>exact ⟨i+1,r3,l++[(n2,n3)],_,by omega,by omega,by first|rfl|simp,rfl,H4.out,HM.out.2,by simp;exact HA.out.2.2.1,by rw [hu2];exact HM.out.1⟩
      ·rw [if_pos h4] at hstep
       have hE:errV e3=.iface 68 (.int .i64 e3):=if_neg h4
       rw [hE] at C3
       have HM:=Lib.hid (And.intro hstep h4)
       clear hstep hr2 hr3 hE h4
       go_wp2_with (first
        |(go_at_call 194;(with_reducible refine C2.out.mono ?_);rintro e w3 ⟨rfl,g⟩;have H2:=Lib.hid g;clear g)
        |(go_at_call 194;(with_reducible refine (C3.out _ _ H2.out).mono ?_);rintro e w4 ⟨rfl,g⟩;have H3:=Lib.hid g;clear g)
        | fail)
       go_ret3
       rw [← HZ.out,← HM.out.1,if_pos HM.out.2]
       exact linesOut_bad HM.out.2 H3.out
     ·rw [if_pos h3] at hstep
      have hE:errV e2=.iface 68 (.int .i64 e2):=if_neg h3
      rw [hE] at C2
      have HM:=Lib.hid (And.intro hstep h3)
      clear hstep hr2 hE h3
      go_wp2_with (first
       |(go_at_call 194;(with_reducible refine C2.out.mono ?_);rintro e w3 ⟨rfl,g⟩;have H2:=Lib.hid g;clear g)
       | fail)
      go_ret3
      rw [← HZ.out,← HM.out.1,if_pos HM.out.2]
      exact linesOut_bad HM.out.2 H2.out
    ·obtain rfl:i=N:=by omega
     have hstep:=HA.out.2.2.2
     rw [Nat.sub_self,linesR] at hstep
     have HM:=Lib.hid hstep
     have hrl:=HA.out.2.1
     have c5:=HA.out.1.box.cell
     have zr:=mkS_size r
     have hp:=padF_range ((d.length:Int) - (r.length:Int))
     have CP:=Lib.hid (fun w=>pad_any ((d.length:Int) - (r.length:Int)) w (by omega))
     have wq:IntKind.i64.wrap ((d.length:Int) - (r.length:Int))=(d.length:Int) - (r.length:Int):=IntWalk.i64_in _ ⟨by omega,by omega⟩
     obtain ⟨P,hP⟩:∃ P,padF ((d.length:Int) - (r.length:Int))=P:=⟨_,rfl⟩
     rw [hP] at CP hp
     have HP:=Lib.hid hP
     obtain ⟨p0,p1⟩:=hp
     obtain ⟨p,rfl⟩:=Int.eq_ofNat_of_zero_le p0
     clear hstep hP
     by_cases h5:(r.length:Int)<(p:Int)
     ·go_wp2_with (first
       |(go_at_call 119;(with_reducible refine (CP.out _).mono ?_);rintro e w3 ⟨rfl,g⟩;replace g:=g.symm;subst g)
       | fail)
      go_ret3
      rw [← HZ.out,← HM.out,if_neg (by simp)]
      unfold behindR
      simp only
      rw [HP.out,if_pos (by omega)]
      exact linesOut_bad (k:=3) (by decide) HA.out.1
     ·have hsl:=fun w=>mkS_onward r p (by omega) w
      go_wp2_with (first
       |(go_at_call 119;(with_reducible refine (CP.out _).mono ?_);rintro e w3 ⟨rfl,g⟩;replace g:=g.symm;subst g)
       | fail)
      go_quiet (fail)
      go_wp2_with fail
      go_ret3
      rw [← HZ.out,← HM.out,if_neg (by simp)]
      unfold behindR
      simp only
      rw [HP.out,if_neg (by omega),Int.toNat_natCast]
      have hb:=below_draws wr.heap.size wr nq
      exact ⟨⟨_,rfl,pcNew_of_row (own_bel HA.out.1.own hb) (Nat.le_succ _)⟩,HA.out.1.below.trans (hb.mono HA.out.1.below.size)⟩
 ·rw [if_pos h1]
  have hE:errV e1=.iface 68 (.int .i64 e1):=if_neg h1
  rw [hE] at C1
  have HM:=Lib.hid h1
  clear hE h1
  go_enter Tryz.func170,Tryz.ntmps170
  go_wp2_with (first
   |(go_at_call 194;(with_reducible refine C1.out.mono ?_);rintro e w2 ⟨rfl,g⟩;have H1:=Lib.hid g;clear g)
   | fail)
  go_ret3
  exact linesOut_bad HM.out H1.out
end Go.Proofs.YtdjcjaidklgamaaGreatDoor
end
