import Derived.Test.YtdjcjaidklgamaaGreatDoorQXh
import Derived.Test.YtdjcjaidklgamaaGreatDoorQXi
import Derived.Test.YtdjcjaidklgamaaGreatDoorQXf
set_option linter.unusedSimpArgs false
set_option linter.unusedVariables false
section
namespace Go.Proofs.YtdjcjaidklgamaaGreatDoor
open Go.RowKit Go.Shelf Go.Joins
theorem sliceNew_bar {n:Nat} {X:List Nat} {W W':World} {v:Value} {l:List PrL} (h:Px.SliceNew n W v l) (hB:Bar W.heap.size X W W') (hX:∀ x∈X,x<n):Px.SliceNew n W' v l:=by
 obtain ⟨ad,cap,h1,h2,h3,h4⟩:=h
 refine ⟨ad,cap,h1,h2,fun i p hi=>?_,h4⟩
 obtain ⟨c,off,k1,k2,k3,k4⟩:=h3 i p hi
 have hc:c ∉ X:=fun hx=>by have:=h4 _ k1;have:=hX c hx;simp only at *;omega
 exact ⟨c,off,k1,Nat.lt_of_lt_of_le k2 hB.size,(hB.cell (p:=⟨c,off+i * 2,none⟩) k2 hc).trans k3,(hB.cell (p:=⟨c,off+i * 2+1,none⟩) k2 hc).trans k4⟩
theorem PcNew.mono {n m:Nat} {W:World} {v:Value} {l:List Pc} (h:PcNew n W v l) (hm:m≤n):PcNew m W v l:=by
 obtain ⟨ad,cap,h1,h2,h3,h4,h5⟩:=h
 exact ⟨ad,cap,h1,h2,h3,fun a ha=>Nat.le_trans hm (h4 a ha),h5⟩
theorem laid_bar {w W:World} {b:Nat} {s:List UInt8} {st:RSt} {np lp:Option Addr} {gv ov:Value} (hA:Px.AtoiLaid w) (hR:RdrAt w b s st np lp gv ov) (hB:Bar w.heap.size [b] w W):Px.AtoiLaid W:=by
 obtain ⟨⟨t1,p1,h1⟩,t2,p2,h2⟩:=hA
 have k0:=row_cell hR.row 0 (.string (mkS s)) rfl
 have ne:∀ g t p,w.cell? ⟨g,0,none⟩=some (.iface t p)→g ∉ [b]:=fun g t p h hx=>by
  obtain rfl:g=b:=by simpa using hx
  rw [k0] at h;cases h
 exact ⟨⟨t1,p1,(hB.cell (p:=⟨_,0,none⟩) (Px.lt_of_cell h1) (ne _ _ _ h1)).trans h1⟩,t2,p2,(hB.cell (p:=⟨_,0,none⟩) (Px.lt_of_cell h2) (ne _ _ _ h2)).trans h2⟩
theorem get_any (M:List PrL) (key:List UInt8) (hl:M.length≤1000000000) (n:Nat) (v:Value) (w:World) (h:Px.SliceNew n w v M) :
  Calls Tryz.prog 169 #[v,.string (mkS key)] w fun e W'=>e=.returned (.tuple #[.string (mkS (Px.getL M key)),.bool (!(Px.getL M key).isEmpty)])∧Below w.heap.size w W':=by
 obtain ⟨ad,cap,rfl,h2,h3,_⟩:=h
 exact (callsIn_wide (n:=6)).1 (Px.get_in Fence.wide 6 trivial trivial trivial rfl (by omega) ad cap M hl key w (by
  rcases h3.cases with h|⟨b,off,k1,k2,k3⟩
  ·exact .inl h
  ·exact .inr ⟨b,off,k1,k2,k3⟩))
theorem PcNew.shape {n:Nat} {W:World} {v:Value} {l:List Pc} (h:PcNew n W v l):∃ ad k cap,v=.slice ad k cap:=by
 obtain ⟨ad,cap,h1,_⟩:=h
 exact ⟨ad,_,cap,h1⟩
structure TwoAt (w0 w:World) (b c m0:Nat) (s:List UInt8) (np lp:Option Addr) (gv ov:Value) (a:Nat) (e:EntL) (v:Value) (W:World):Prop where
 base:Bar w0.heap.size [b] w0 W
 bar:Bar w.heap.size [b,c] w W
 rdr:W.heap[b]?=some (.cells (rdrC s a np lp gv ov) 82 (0,0))
 ent:W.heap[c]?=some (.cells (entC e v) 26 (0,0))
 map:PcNew m0 W v e.map
structure DCtx (w0 w:World) (b c m0:Nat) (s:List UInt8) (st:RSt) (np lp:Option Addr) (gv ov:Value) (rv:Value) (M:List PrL):Prop where
 rd:RdrAt w0 b s st np lp gv ov
 laid:Px.AtoiLaid w0
 c0:w0.heap.size≤c
 bm:b<m0
 cm:c<m0
 mw:m0≤w.heap.size
 bc:b≠c
 slen:s.length≤100000
 recs:Px.SliceNew m0 w rv M
 few:M.length≤100000
 short:(Px.getL M realK).length≤100000
section
variable {w0 w:World} {b c m0:Nat} {s:List UInt8} {st:RSt} {np lp:Option Addr} {gv ov rv v:Value} {M:List PrL} {a:Nat} {e:EntL} {W W':World}
theorem TwoAt.rdrAt (h:TwoAt w0 w b c m0 s np lp gv ov a e v W) (C:DCtx w0 w b c m0 s st np lp gv ov rv M):RdrAt W b s { st with at_:=a } np lp gv ov:=C.rd.bar h.base (fun x hx _=>by simpa using hx) h.rdr
theorem TwoAt.laid (h:TwoAt w0 w b c m0 s np lp gv ov a e v W) (C:DCtx w0 w b c m0 s st np lp gv ov rv M):Px.AtoiLaid W:=laid_bar C.laid C.rd h.base
theorem TwoAt.recs (h:TwoAt w0 w b c m0 s np lp gv ov a e v W) (C:DCtx w0 w b c m0 s st np lp gv ov rv M):Px.SliceNew m0 W rv M:=sliceNew_bar C.recs h.bar (fun x hx=>by
 have:=C.bm;have:=C.cm
 simp at hx
 rcases hx with rfl|rfl <;> assumption)
theorem TwoAt.next (h:TwoAt w0 w b c m0 s np lp gv ov a e v W) (C:DCtx w0 w b c m0 s st np lp gv ov rv M) (hB:Below W.heap.size W W'):TwoAt w0 w b c m0 s np lp gv ov a e v W' :=
 ⟨h.base.trans (.of_below (hB.mono h.base.size)),h.bar.trans (.of_below (hB.mono h.bar.size)),(hB.block b (Array.getElem?_eq_some_iff.1 h.rdr).1).trans h.rdr,(hB.block c (Array.getElem?_eq_some_iff.1 h.ent).1).trans h.ent,h.map.bar (X:=[]) (.of_below hB) (fun x hx=>by cases hx)⟩
theorem TwoAt.took (h:TwoAt w0 w b c m0 s np lp gv ov a e v W) (C:DCtx w0 w b c m0 s st np lp gv ov rv M) {a':Nat} (hR:RdrAt W' b s { st with at_:=a' } np lp gv ov) (hB:Bar W.heap.size [b] W W'):TwoAt w0 w b c m0 s np lp gv ov a' e v W' :=
 ⟨h.base.trans (hB.cut h.base.size),h.bar.trans (show Bar w.heap.size [b,c] _ _ from hB.mono h.bar.size (fun x hx _=>by simp at hx;simp [hx])),hR.row,hB.row h.ent (Array.getElem?_eq_some_iff.1 h.ent).1 (by have:=C.bc;simp;omega),h.map.bar hB (fun x hx=>by simp at hx;rw [hx];exact C.bm)⟩
theorem TwoAt.set (h:TwoAt w0 w b c m0 s np lp gv ov a e v W) (C:DCtx w0 w b c m0 s st np lp gv ov rv M) {i:Nat} {x:Value} {e':EntL} {v':Value} (hx:(entC e v).setIfInBounds i x=entC e' v') (hm:PcNew m0 W v' e'.map):TwoAt w0 w b c m0 s np lp gv ov a e' v' (W.setCell ⟨c,i,none⟩ x):=by
 obtain ⟨h1,h2⟩:=setCell_row (i:=i) (v:=x) h.ent
 have hB:=(Bar.refl W.heap.size [c] W).setCell (i:=i) (v:=x) h.ent (.inl (by simp))
 refine ⟨h.base.trans (show Bar w0.heap.size [b] _ _ from (hB.cut h.base.size).mono (Nat.le_refl _) (fun x hx hlt=>?_)),h.bar.trans (show Bar w.heap.size [b,c] _ _ from hB.mono h.bar.size (fun x hx _=>by simp at hx;simp [hx])),?_,by rw [h1,hx],hm.bar hB (fun x hx=>by simp at hx;rw [hx];exact C.cm)⟩
 ·have:=C.c0
  simp at hx
  omega
 ·exact hB.row h.rdr (Array.getElem?_eq_some_iff.1 h.rdr).1 (by have:=C.bc;simp;omega)
end
def DataOut (w0 w:World) (b c m0:Nat) (s:List UInt8) (np lp:Option Addr) (gv ov:Value) (q:Int × EntL × Nat) (r:Ending) (W:World):Prop :=
 r=.returned (errV q.1)∧Bar w0.heap.size [b] w0 W∧Bar w.heap.size [b,c] w W∧(q.1=0→∃ v,TwoAt w0 w b c m0 s np lp gv ov q.2.2 q.2.1 v W)
theorem dataOut_bad {w0 w:World} {b c m0:Nat} {s:List UInt8} {np lp:Option Addr} {gv ov v:Value} {a:Nat} {e:EntL} {q:Int × EntL × Nat} {W:World} (k:Int) (hk:k≠0) (hq:q.1=k) (h:TwoAt w0 w b c m0 s np lp gv ov a e v W) :
  DataOut w0 w b c m0 s np lp gv ov q (.returned (.iface 68 (.int .i64 k))) W :=
 ⟨by rw [hq,show errV k=.iface 68 (.int .i64 k) from if_neg hk],h.base,h.bar,fun h0=>absurd (hq.symm.trans h0) hk⟩
theorem text_ne (a b:List UInt8):((mkS a).toList != b)=decide (a≠b):=by
 rw [bne,text_is]
 by_cases h:a=b
 ·rw [decide_eq_true h,decide_eq_false (by simpa using h)];rfl
 ·rw [decide_eq_false h,decide_eq_true h];rfl
set_option maxRecDepth 100000 in
set_option maxHeartbeats 8000000 in
theorem data_plain_take {w0 w:World} {b c m0:Nat} {s:List UInt8} {st:RSt} {np lp:Option Addr} {gv ov rv:Value} {M:List PrL} (C:DCtx w0 w b c m0 s st np lp gv ov rv M) (a:Nat) (ha:a≤s.length) (e:EntL) (hm:e.map=[]) (n:Int) (h:List UInt8) (hh:h.length=512) (T0:TwoAt w0 w b c m0 s np lp gv ov a e (.slice none 0 0) w) (h55:e.kind≠55) (h83:e.kind≠83) (hq:(takeF s a n 14240).1≠0) :
  Calls Tryz.prog 135 #[.pointer (some ⟨b,0,none⟩),.pointer (some ⟨c,0,none⟩),.int .i64 n,.string (mkS h),rv] w (DataOut w0 w b c m0 s np lp gv ov (kindR s a e n h M)):=by
 have hK:kindR s a e n h M=dataR s a e n M:=by unfold kindR;rw [if_neg h83,if_neg h55]
 obtain ⟨TQ,hTQ⟩:∃ q,takeF s a n 14240=q:=⟨_,rfl⟩
 rw [hTQ] at hq
 have fk:=row_free T0.ent 1
 have ck:=row_cell T0.ent 1 (.int .u8 (e.kind.toNat:Int)) rfl
 have g55:((e.kind.toNat:Int)==55)=false:=(u8_at e.kind 55 (by omega)).trans (by simpa using h55)
 have g83:((e.kind.toNat:Int)==83)=false:=(u8_at e.kind 83 (by omega)).trans (by simpa using h83)
 have HC:=Lib.hid C
 have HT0:=Lib.hid T0
 have hdl:TQ.2.1.length≤50000:=by
  rw [← hTQ]
  unfold takeF
  split
  ·simp
  ·split
   ·simp
   ·unfold sub;rw [List.length_take];omega
 have CT:=Lib.hid (fun v W (hT:TwoAt w0 w b c m0 s np lp gv ov a e v W)=>take_any s { st with at_:=a } b np lp gv ov n 14240 C.slen (by assumption) (by omega) W (hT.rdrAt C))
 simp only [hTQ] at CT
 obtain ⟨tk,td,ta⟩:=TQ
 simp only at CT hq hdl
 have hD:dataR s a e n M=(if tk≠0 then (tk,e,a) else ((linedR e M td).1,(linedR e M td).2,ta)):=by unfold dataR;rw [hTQ]
 rw [hD] at hK
 rw [if_pos hq] at hK
 rw [show errV tk=.iface 68 (.int .i64 tk) from if_neg hq] at CT
 have HQ:=Lib.hid (And.intro hK hq)
 clear hK hD hTQ hdl C T0
 go_enter Tryz.func135,Tryz.ntmps135
 go_upto_region 10 with fail
 clear ck fk
 have HTa:=HT0
 have cd:=row_cell HTa.out.ent 13 (.string (mkS e.data)) rfl
 go_wp2_with (first
  |(go_at_call 84;(with_reducible refine (CT.out _ _ HTa.out).mono ?_);rintro r wb ⟨rfl,g1,g2⟩;have HTb:=Lib.hid (HTa.out.took HC.out g1 g2);clear g1 g2 cd;have cd:=row_cell HTb.out.ent 13 (.string (mkS e.data)) rfl;have fd:=row_free HTb.out.ent 13)
  | fail)
 first|go_ret2|go_ret
 exact dataOut_bad tk HQ.out.2 (by rw [HQ.out.1]) (HTb.out.set HC.out (i:=13) (x:=.string (mkS td)) (e':={ e with data:=td }) (v':=(.slice none 0 0)) rfl HTb.out.map)
set_option maxRecDepth 100000 in
set_option maxHeartbeats 8000000 in
theorem data_plain_major {w0 w:World} {b c m0:Nat} {s:List UInt8} {st:RSt} {np lp:Option Addr} {gv ov rv:Value} {M:List PrL} (C:DCtx w0 w b c m0 s st np lp gv ov rv M) (a:Nat) (ha:a≤s.length) (e:EntL) (hm:e.map=[]) (n:Int) (h:List UInt8) (hh:h.length=512) (T0:TwoAt w0 w b c m0 s np lp gv ov a e (.slice none 0 0) w) (h55:e.kind≠55) (h83:e.kind≠83) (hq:(takeF s a n 14240).1=0) (hj:Px.getL M majorK≠[49]) :
  Calls Tryz.prog 135 #[.pointer (some ⟨b,0,none⟩),.pointer (some ⟨c,0,none⟩),.int .i64 n,.string (mkS h),rv] w (DataOut w0 w b c m0 s np lp gv ov (kindR s a e n h M)):=by
 have hK:kindR s a e n h M=dataR s a e n M:=by unfold kindR;rw [if_neg h83,if_neg h55]
 obtain ⟨TQ,hTQ⟩:∃ q,takeF s a n 14240=q:=⟨_,rfl⟩
 rw [hTQ] at hq
 have fk:=row_free T0.ent 1
 have ck:=row_cell T0.ent 1 (.int .u8 (e.kind.toNat:Int)) rfl
 have g55:((e.kind.toNat:Int)==55)=false:=(u8_at e.kind 55 (by omega)).trans (by simpa using h55)
 have g83:((e.kind.toNat:Int)==83)=false:=(u8_at e.kind 83 (by omega)).trans (by simpa using h83)
 have HC:=Lib.hid C
 have HT0:=Lib.hid T0
 have hdl:TQ.2.1.length≤50000:=by
  rw [← hTQ]
  unfold takeF
  split
  ·simp
  ·split
   ·simp
   ·unfold sub;rw [List.length_take];omega
 have CT:=Lib.hid (fun v W (hT:TwoAt w0 w b c m0 s np lp gv ov a e v W)=>take_any s { st with at_:=a } b np lp gv ov n 14240 C.slen (by assumption) (by omega) W (hT.rdrAt C))
 simp only [hTQ] at CT
 obtain ⟨tk,td,ta⟩:=TQ
 simp only at CT hq hdl
 have hD:dataR s a e n M=(if tk≠0 then (tk,e,a) else ((linedR e M td).1,(linedR e M td).2,ta)):=by unfold dataR;rw [hTQ]
 rw [hD] at hK
 subst hq
 rw [if_neg (by simp)] at hK
 rw [show errV 0=.nilIface from rfl] at CT
 have CG:=Lib.hid (fun v W (hT:TwoAt w0 w b c m0 s np lp gv ov ta { e with data:=td } v W)=>show Calls Tryz.prog 169 #[rv,.string ⟨#[71,78,85,46,115,112,97,114,115,101,46,109,97,106,111,114]⟩] W fun e W'=>e=.returned (.tuple #[.string (mkS (Px.getL M majorK)),.bool (!(Px.getL M majorK).isEmpty)])∧Below W.heap.size W W' from get_any M majorK (by have:=C.few;omega) m0 rv W (hT.recs C))
 have CR:=Lib.hid (fun v W (hT:TwoAt w0 w b c m0 s np lp gv ov ta { e with data:=td } v W)=>show Calls Tryz.prog 169 #[rv,.string ⟨#[71,78,85,46,115,112,97,114,115,101,46,114,101,97,108,115,105,122,101]⟩] W fun e W'=>e=.returned (.tuple #[.string (mkS (Px.getL M realK)),.bool (!(Px.getL M realK).isEmpty)])∧Below W.heap.size W W' from get_any M realK (by have:=C.few;omega) m0 rv W (hT.recs C))
 have CD:=Lib.hid (fun v W (hT:TwoAt w0 w b c m0 s np lp gv ov ta { e with data:=td } v W)=>decimal_any (Px.getL M realK) C.short W (hT.laid C))
 have hL:linedR e M td=(0,{ e with data:=td }):=by unfold linedR;rw [if_pos (.inl hj)]
 rw [hL] at hK
 have gj:((mkS (Px.getL M majorK)).toList != ([49]:List UInt8))=true:=by rw [text_ne];exact decide_eq_true hj
 have gj2:((mkS (Px.getL M majorK)).toList==([49]:List UInt8))=false:=by rw [text_is];exact decide_eq_false hj
 have HQ:=Lib.hid hK
 generalize Px.getL M majorK=GJ at *
 generalize Px.getL M realK=GR at *
 clear hK hD hTQ hdl C T0
 go_enter Tryz.func135,Tryz.ntmps135
 go_upto_region 10 with fail
 clear ck fk
 have HTa:=HT0
 have cd:=row_cell HTa.out.ent 13 (.string (mkS e.data)) rfl
 go_upto_region 13 with (first
  |(go_at_call 84;(with_reducible refine (CT.out _ _ HTa.out).mono ?_);rintro r wb ⟨rfl,g1,g2⟩;have HTb:=Lib.hid (HTa.out.took HC.out g1 g2);clear g1 g2 cd;have cd:=row_cell HTb.out.ent 13 (.string (mkS e.data)) rfl;have fd:=row_free HTb.out.ent 13)
  | fail)
 have HTc:=Lib.hid (HTb.out.set HC.out (i:=13) (x:=.string (mkS td)) (e':={ e with data:=td }) (v':=(.slice none 0 0)) rfl HTb.out.map)
 clear cd fd
 generalize (World.setCell wb ⟨c,13,none⟩ (.string (mkS td)))=wc at *
 go_wp2_with (first
  |(go_at_call 169;(with_reducible refine (CG.out _ _ HTc.out).mono ?_);rintro r wd ⟨rfl,g⟩;have HTd:=Lib.hid (HTc.out.next HC.out g);clear g;have c1:=row_cell HTd.out.ent 1 (.int .u8 (e.kind.toNat:Int)) rfl;have c5:=row_cell HTd.out.ent 5 (.int .i64 e.size) rfl)
  | fail)
 first|go_ret2|go_ret
 exact ⟨by rw [HQ.out];rfl,HTd.out.base,HTd.out.bar,fun _=>⟨_,by rw [HQ.out];exact HTd.out⟩⟩
set_option maxRecDepth 100000 in
set_option maxHeartbeats 8000000 in
theorem data_plain_kind {w0 w:World} {b c m0:Nat} {s:List UInt8} {st:RSt} {np lp:Option Addr} {gv ov rv:Value} {M:List PrL} (C:DCtx w0 w b c m0 s st np lp gv ov rv M) (a:Nat) (ha:a≤s.length) (e:EntL) (hm:e.map=[]) (n:Int) (h:List UInt8) (hh:h.length=512) (T0:TwoAt w0 w b c m0 s np lp gv ov a e (.slice none 0 0) w) (h55:e.kind≠55) (h83:e.kind≠83) (hq:(takeF s a n 14240).1=0) (hj:Px.getL M majorK=[49]) (hk:e.kind≠48) :
  Calls Tryz.prog 135 #[.pointer (some ⟨b,0,none⟩),.pointer (some ⟨c,0,none⟩),.int .i64 n,.string (mkS h),rv] w (DataOut w0 w b c m0 s np lp gv ov (kindR s a e n h M)):=by
 have hK:kindR s a e n h M=dataR s a e n M:=by unfold kindR;rw [if_neg h83,if_neg h55]
 obtain ⟨TQ,hTQ⟩:∃ q,takeF s a n 14240=q:=⟨_,rfl⟩
 rw [hTQ] at hq
 have fk:=row_free T0.ent 1
 have ck:=row_cell T0.ent 1 (.int .u8 (e.kind.toNat:Int)) rfl
 have g55:((e.kind.toNat:Int)==55)=false:=(u8_at e.kind 55 (by omega)).trans (by simpa using h55)
 have g83:((e.kind.toNat:Int)==83)=false:=(u8_at e.kind 83 (by omega)).trans (by simpa using h83)
 have HC:=Lib.hid C
 have HT0:=Lib.hid T0
 have hdl:TQ.2.1.length≤50000:=by
  rw [← hTQ]
  unfold takeF
  split
  ·simp
  ·split
   ·simp
   ·unfold sub;rw [List.length_take];omega
 have CT:=Lib.hid (fun v W (hT:TwoAt w0 w b c m0 s np lp gv ov a e v W)=>take_any s { st with at_:=a } b np lp gv ov n 14240 C.slen (by assumption) (by omega) W (hT.rdrAt C))
 simp only [hTQ] at CT
 obtain ⟨tk,td,ta⟩:=TQ
 simp only at CT hq hdl
 have hD:dataR s a e n M=(if tk≠0 then (tk,e,a) else ((linedR e M td).1,(linedR e M td).2,ta)):=by unfold dataR;rw [hTQ]
 rw [hD] at hK
 subst hq
 rw [if_neg (by simp)] at hK
 rw [show errV 0=.nilIface from rfl] at CT
 have CG:=Lib.hid (fun v W (hT:TwoAt w0 w b c m0 s np lp gv ov ta { e with data:=td } v W)=>show Calls Tryz.prog 169 #[rv,.string ⟨#[71,78,85,46,115,112,97,114,115,101,46,109,97,106,111,114]⟩] W fun e W'=>e=.returned (.tuple #[.string (mkS (Px.getL M majorK)),.bool (!(Px.getL M majorK).isEmpty)])∧Below W.heap.size W W' from get_any M majorK (by have:=C.few;omega) m0 rv W (hT.recs C))
 have CR:=Lib.hid (fun v W (hT:TwoAt w0 w b c m0 s np lp gv ov ta { e with data:=td } v W)=>show Calls Tryz.prog 169 #[rv,.string ⟨#[71,78,85,46,115,112,97,114,115,101,46,114,101,97,108,115,105,122,101]⟩] W fun e W'=>e=.returned (.tuple #[.string (mkS (Px.getL M realK)),.bool (!(Px.getL M realK).isEmpty)])∧Below W.heap.size W W' from get_any M realK (by have:=C.few;omega) m0 rv W (hT.recs C))
 have CD:=Lib.hid (fun v W (hT:TwoAt w0 w b c m0 s np lp gv ov ta { e with data:=td } v W)=>decimal_any (Px.getL M realK) C.short W (hT.laid C))
 have hL:linedR e M td=(0,{ e with data:=td }):=by unfold linedR;rw [if_pos (.inr hk)]
 rw [hL] at hK
 have gk:((e.kind.toNat:Int)==48)=false:=(u8_at e.kind 48 (by omega)).trans (by simpa using hk)
 have gj:((mkS (Px.getL M majorK)).toList != ([49]:List UInt8))=false:=by rw [text_ne];exact decide_eq_false (by simpa using hj)
 have gj2:((mkS (Px.getL M majorK)).toList==([49]:List UInt8))=true:=by rw [text_is];exact decide_eq_true hj
 have HQ:=Lib.hid hK
 generalize Px.getL M majorK=GJ at *
 generalize Px.getL M realK=GR at *
 clear hK hD hTQ hdl C T0 hj
 go_enter Tryz.func135,Tryz.ntmps135
 go_upto_region 10 with fail
 clear ck fk
 have HTa:=HT0
 have cd:=row_cell HTa.out.ent 13 (.string (mkS e.data)) rfl
 go_upto_region 13 with (first
  |(go_at_call 84;(with_reducible refine (CT.out _ _ HTa.out).mono ?_);rintro r wb ⟨rfl,g1,g2⟩;have HTb:=Lib.hid (HTa.out.took HC.out g1 g2);clear g1 g2 cd;have cd:=row_cell HTb.out.ent 13 (.string (mkS e.data)) rfl;have fd:=row_free HTb.out.ent 13)
  | fail)
 have HTc:=Lib.hid (HTb.out.set HC.out (i:=13) (x:=.string (mkS td)) (e':={ e with data:=td }) (v':=(.slice none 0 0)) rfl HTb.out.map)
 clear cd fd
 generalize (World.setCell wb ⟨c,13,none⟩ (.string (mkS td)))=wc at *
 go_wp2_with (first
  |(go_at_call 169;(with_reducible refine (CG.out _ _ HTc.out).mono ?_);rintro r wd ⟨rfl,g⟩;have HTd:=Lib.hid (HTc.out.next HC.out g);clear g;have c1:=row_cell HTd.out.ent 1 (.int .u8 (e.kind.toNat:Int)) rfl;have c5:=row_cell HTd.out.ent 5 (.int .i64 e.size) rfl)
  | fail)
 first|go_ret2|go_ret
 exact ⟨by rw [HQ.out];rfl,HTd.out.base,HTd.out.bar,fun _=>⟨_,by rw [HQ.out];exact HTd.out⟩⟩
set_option maxRecDepth 100000 in
set_option maxHeartbeats 8000000 in
theorem data_plain_real {w0 w:World} {b c m0:Nat} {s:List UInt8} {st:RSt} {np lp:Option Addr} {gv ov rv:Value} {M:List PrL} (C:DCtx w0 w b c m0 s st np lp gv ov rv M) (a:Nat) (ha:a≤s.length) (e:EntL) (hm:e.map=[]) (n:Int) (h:List UInt8) (hh:h.length=512) (T0:TwoAt w0 w b c m0 s np lp gv ov a e (.slice none 0 0) w) (h55:e.kind≠55) (h83:e.kind≠83) (hq:(takeF s a n 14240).1=0) (hj:Px.getL M majorK=[49]) (hr:(smallF (Px.getL M realK)).1≠0) (hk:e.kind=48) :
  Calls Tryz.prog 135 #[.pointer (some ⟨b,0,none⟩),.pointer (some ⟨c,0,none⟩),.int .i64 n,.string (mkS h),rv] w (DataOut w0 w b c m0 s np lp gv ov (kindR s a e n h M)):=by
 have hK:kindR s a e n h M=dataR s a e n M:=by unfold kindR;rw [if_neg h83,if_neg h55]
 obtain ⟨TQ,hTQ⟩:∃ q,takeF s a n 14240=q:=⟨_,rfl⟩
 rw [hTQ] at hq
 have fk:=row_free T0.ent 1
 have ck:=row_cell T0.ent 1 (.int .u8 (e.kind.toNat:Int)) rfl
 have g55:((e.kind.toNat:Int)==55)=false:=(u8_at e.kind 55 (by omega)).trans (by simpa using h55)
 have g83:((e.kind.toNat:Int)==83)=false:=(u8_at e.kind 83 (by omega)).trans (by simpa using h83)
 have HC:=Lib.hid C
 have HT0:=Lib.hid T0
 have hdl:TQ.2.1.length≤50000:=by
  rw [← hTQ]
  unfold takeF
  split
  ·simp
  ·split
   ·simp
   ·unfold sub;rw [List.length_take];omega
 have CT:=Lib.hid (fun v W (hT:TwoAt w0 w b c m0 s np lp gv ov a e v W)=>take_any s { st with at_:=a } b np lp gv ov n 14240 C.slen (by assumption) (by omega) W (hT.rdrAt C))
 simp only [hTQ] at CT
 obtain ⟨tk,td,ta⟩:=TQ
 simp only at CT hq hdl
 have hD:dataR s a e n M=(if tk≠0 then (tk,e,a) else ((linedR e M td).1,(linedR e M td).2,ta)):=by unfold dataR;rw [hTQ]
 rw [hD] at hK
 subst hq
 rw [if_neg (by simp)] at hK
 rw [show errV 0=.nilIface from rfl] at CT
 have CG:=Lib.hid (fun v W (hT:TwoAt w0 w b c m0 s np lp gv ov ta { e with data:=td } v W)=>show Calls Tryz.prog 169 #[rv,.string ⟨#[71,78,85,46,115,112,97,114,115,101,46,109,97,106,111,114]⟩] W fun e W'=>e=.returned (.tuple #[.string (mkS (Px.getL M majorK)),.bool (!(Px.getL M majorK).isEmpty)])∧Below W.heap.size W W' from get_any M majorK (by have:=C.few;omega) m0 rv W (hT.recs C))
 have CR:=Lib.hid (fun v W (hT:TwoAt w0 w b c m0 s np lp gv ov ta { e with data:=td } v W)=>show Calls Tryz.prog 169 #[rv,.string ⟨#[71,78,85,46,115,112,97,114,115,101,46,114,101,97,108,115,105,122,101]⟩] W fun e W'=>e=.returned (.tuple #[.string (mkS (Px.getL M realK)),.bool (!(Px.getL M realK).isEmpty)])∧Below W.heap.size W W' from get_any M realK (by have:=C.few;omega) m0 rv W (hT.recs C))
 have CD:=Lib.hid (fun v W (hT:TwoAt w0 w b c m0 s np lp gv ov ta { e with data:=td } v W)=>decimal_any (Px.getL M realK) C.short W (hT.laid C))
 have gj:((mkS (Px.getL M majorK)).toList != ([49]:List UInt8))=false:=by rw [text_ne];exact decide_eq_false (by simpa using hj)
 have gj2:((mkS (Px.getL M majorK)).toList==([49]:List UInt8))=true:=by rw [text_is];exact decide_eq_true hj
 have hE48:e.kind=48:=hk
 have g48:((e.kind.toNat:Int)==48)=true:=(u8_at e.kind 48 (by omega)).trans (by rw [hE48];rfl)
 have g48n:((e.kind.toNat:Int) != 48)=false:=by rw [bne,g48];rfl
 have hL:linedR e M td=if (smallF (Px.getL M realK)).1≠0 then ((smallF (Px.getL M realK)).1,e) else ((newMapR td).1,{ e with size:=(smallF (Px.getL M realK)).2,map:=(newMapR td).2.1,data:=(newMapR td).2.2 }):=by unfold linedR;rw [if_neg (by rintro (h|h);exact h hj;exact h hE48)]
 rw [hL] at hK
 generalize smallF (Px.getL M realK)=SQ at *
 obtain ⟨sk,sn⟩:=SQ
 simp only at CD hr hK
 rw [if_pos hr] at hK
 rw [show errV sk=.iface 68 (.int .i64 sk) from if_neg hr] at CD
 have HQ:=Lib.hid (And.intro hK hr)
 generalize Px.getL M majorK=GJ at *
 generalize Px.getL M realK=GR at *
 clear hK hD hTQ hdl C T0 hE48 hj hk
 go_enter Tryz.func135,Tryz.ntmps135
 go_upto_region 10 with fail
 clear ck fk
 have HTa:=HT0
 have cd:=row_cell HTa.out.ent 13 (.string (mkS e.data)) rfl
 go_upto_region 13 with (first
  |(go_at_call 84;(with_reducible refine (CT.out _ _ HTa.out).mono ?_);rintro r wb ⟨rfl,g1,g2⟩;have HTb:=Lib.hid (HTa.out.took HC.out g1 g2);clear g1 g2 cd;have cd:=row_cell HTb.out.ent 13 (.string (mkS e.data)) rfl;have fd:=row_free HTb.out.ent 13)
  | fail)
 have HTc:=Lib.hid (HTb.out.set HC.out (i:=13) (x:=.string (mkS td)) (e':={ e with data:=td }) (v':=(.slice none 0 0)) rfl HTb.out.map)
 clear cd fd
 generalize (World.setCell wb ⟨c,13,none⟩ (.string (mkS td)))=wc at *
 go_wp2_with (first
  |(go_at_call 169;(with_reducible refine (CG.out _ _ HTc.out).mono ?_);rintro r wd ⟨rfl,g⟩;have HTd:=Lib.hid (HTc.out.next HC.out g);clear g;have c1:=row_cell HTd.out.ent 1 (.int .u8 (e.kind.toNat:Int)) rfl;have c5:=row_cell HTd.out.ent 5 (.int .i64 e.size) rfl)
  |(go_at_call 169;(with_reducible refine (CR.out _ _ HTd.out).mono ?_);rintro r we ⟨rfl,g⟩;have HTe:=Lib.hid (HTd.out.next HC.out g);clear g c1 c5;have c5:=row_cell HTe.out.ent 5 (.int .i64 e.size) rfl)
  |(go_at_call 167;(with_reducible refine (CD.out _ _ HTe.out).mono ?_);rintro r wf ⟨rfl,g⟩;have HTf:=Lib.hid (HTe.out.next HC.out g);clear g c5;have c5:=row_cell HTf.out.ent 5 (.int .i64 e.size) rfl;have f5:=row_free HTf.out.ent 5)
  | fail)
 first|go_ret2|go_ret
 exact dataOut_bad sk HQ.out.2 (by rw [HQ.out.1]) (HTf.out.set HC.out (i:=5) (x:=.int .i64 sn) (e':={ e with data:=td,size:=sn }) (v':=(.slice none 0 0)) rfl HTf.out.map)
set_option maxRecDepth 100000 in
set_option maxHeartbeats 8000000 in
theorem data_plain_lines {w0 w:World} {b c m0:Nat} {s:List UInt8} {st:RSt} {np lp:Option Addr} {gv ov rv:Value} {M:List PrL} (C:DCtx w0 w b c m0 s st np lp gv ov rv M) (a:Nat) (ha:a≤s.length) (e:EntL) (hm:e.map=[]) (n:Int) (h:List UInt8) (hh:h.length=512) (T0:TwoAt w0 w b c m0 s np lp gv ov a e (.slice none 0 0) w) (h55:e.kind≠55) (h83:e.kind≠83) (hq:(takeF s a n 14240).1=0) (hj:Px.getL M majorK=[49]) (hr:(smallF (Px.getL M realK)).1=0) (hk:e.kind=48) :
  Calls Tryz.prog 135 #[.pointer (some ⟨b,0,none⟩),.pointer (some ⟨c,0,none⟩),.int .i64 n,.string (mkS h),rv] w (DataOut w0 w b c m0 s np lp gv ov (kindR s a e n h M)):=by
 have hK:kindR s a e n h M=dataR s a e n M:=by unfold kindR;rw [if_neg h83,if_neg h55]
 obtain ⟨TQ,hTQ⟩:∃ q,takeF s a n 14240=q:=⟨_,rfl⟩
 rw [hTQ] at hq
 have fk:=row_free T0.ent 1
 have ck:=row_cell T0.ent 1 (.int .u8 (e.kind.toNat:Int)) rfl
 have g55:((e.kind.toNat:Int)==55)=false:=(u8_at e.kind 55 (by omega)).trans (by simpa using h55)
 have g83:((e.kind.toNat:Int)==83)=false:=(u8_at e.kind 83 (by omega)).trans (by simpa using h83)
 have HC:=Lib.hid C
 have HT0:=Lib.hid T0
 have hdl:TQ.2.1.length≤50000:=by
  rw [← hTQ]
  unfold takeF
  split
  ·simp
  ·split
   ·simp
   ·unfold sub;rw [List.length_take];omega
 have CT:=Lib.hid (fun v W (hT:TwoAt w0 w b c m0 s np lp gv ov a e v W)=>take_any s { st with at_:=a } b np lp gv ov n 14240 C.slen (by assumption) (by omega) W (hT.rdrAt C))
 simp only [hTQ] at CT
 obtain ⟨tk,td,ta⟩:=TQ
 simp only at CT hq hdl
 have hD:dataR s a e n M=(if tk≠0 then (tk,e,a) else ((linedR e M td).1,(linedR e M td).2,ta)):=by unfold dataR;rw [hTQ]
 rw [hD] at hK
 subst hq
 rw [if_neg (by simp)] at hK
 rw [show errV 0=.nilIface from rfl] at CT
 have CG:=Lib.hid (fun v W (hT:TwoAt w0 w b c m0 s np lp gv ov ta { e with data:=td } v W)=>show Calls Tryz.prog 169 #[rv,.string ⟨#[71,78,85,46,115,112,97,114,115,101,46,109,97,106,111,114]⟩] W fun e W'=>e=.returned (.tuple #[.string (mkS (Px.getL M majorK)),.bool (!(Px.getL M majorK).isEmpty)])∧Below W.heap.size W W' from get_any M majorK (by have:=C.few;omega) m0 rv W (hT.recs C))
 have CR:=Lib.hid (fun v W (hT:TwoAt w0 w b c m0 s np lp gv ov ta { e with data:=td } v W)=>show Calls Tryz.prog 169 #[rv,.string ⟨#[71,78,85,46,115,112,97,114,115,101,46,114,101,97,108,115,105,122,101]⟩] W fun e W'=>e=.returned (.tuple #[.string (mkS (Px.getL M realK)),.bool (!(Px.getL M realK).isEmpty)])∧Below W.heap.size W W' from get_any M realK (by have:=C.few;omega) m0 rv W (hT.recs C))
 have CD:=Lib.hid (fun v W (hT:TwoAt w0 w b c m0 s np lp gv ov ta { e with data:=td } v W)=>decimal_any (Px.getL M realK) C.short W (hT.laid C))
 have CL:=Lib.hid (fun (E2:EntL) v W (hT:TwoAt w0 w b c m0 s np lp gv ov ta E2 v W)=>readLines_any td hdl W (hT.laid C))
 unfold LinesOut at CL
 have gj:((mkS (Px.getL M majorK)).toList != ([49]:List UInt8))=false:=by rw [text_ne];exact decide_eq_false (by simpa using hj)
 have gj2:((mkS (Px.getL M majorK)).toList==([49]:List UInt8))=true:=by rw [text_is];exact decide_eq_true hj
 have hE48:e.kind=48:=hk
 have g48:((e.kind.toNat:Int)==48)=true:=(u8_at e.kind 48 (by omega)).trans (by rw [hE48];rfl)
 have g48n:((e.kind.toNat:Int) != 48)=false:=by rw [bne,g48];rfl
 have hL:linedR e M td=if (smallF (Px.getL M realK)).1≠0 then ((smallF (Px.getL M realK)).1,e) else ((newMapR td).1,{ e with size:=(smallF (Px.getL M realK)).2,map:=(newMapR td).2.1,data:=(newMapR td).2.2 }):=by unfold linedR;rw [if_neg (by rintro (h|h);exact h hj;exact h hE48)]
 rw [hL] at hK
 generalize smallF (Px.getL M realK)=SQ at *
 obtain ⟨sk,sn⟩:=SQ
 simp only at CD hr hK
 subst hr
 rw [if_neg (by simp)] at hK
 rw [show errV 0=.nilIface from rfl] at CD
 generalize newMapR td=NQ at *
 obtain ⟨nk,nm,nd⟩:=NQ
 simp only at CL hK
 have HQ:=Lib.hid hK
 generalize Px.getL M majorK=GJ at *
 generalize Px.getL M realK=GR at *
 clear hK hD hTQ hdl C T0 hE48 hj hk
 go_enter Tryz.func135,Tryz.ntmps135
 go_upto_region 10 with fail
 clear ck fk
 have HTa:=HT0
 have cd:=row_cell HTa.out.ent 13 (.string (mkS e.data)) rfl
 go_upto_region 13 with (first
  |(go_at_call 84;(with_reducible refine (CT.out _ _ HTa.out).mono ?_);rintro r wb ⟨rfl,g1,g2⟩;have HTb:=Lib.hid (HTa.out.took HC.out g1 g2);clear g1 g2 cd;have cd:=row_cell HTb.out.ent 13 (.string (mkS e.data)) rfl;have fd:=row_free HTb.out.ent 13)
  | fail)
 have HTc:=Lib.hid (HTb.out.set HC.out (i:=13) (x:=.string (mkS td)) (e':={ e with data:=td }) (v':=(.slice none 0 0)) rfl HTb.out.map)
 clear cd fd
 generalize (World.setCell wb ⟨c,13,none⟩ (.string (mkS td)))=wc at *
 go_upto_region 20 with (first
  |(go_at_call 169;(with_reducible refine (CG.out _ _ HTc.out).mono ?_);rintro r wd ⟨rfl,g⟩;have HTd:=Lib.hid (HTc.out.next HC.out g);clear g;have c1:=row_cell HTd.out.ent 1 (.int .u8 (e.kind.toNat:Int)) rfl;have c5:=row_cell HTd.out.ent 5 (.int .i64 e.size) rfl)
  |(go_at_call 169;(with_reducible refine (CR.out _ _ HTd.out).mono ?_);rintro r we ⟨rfl,g⟩;have HTe:=Lib.hid (HTd.out.next HC.out g);clear g c1 c5;have c5:=row_cell HTe.out.ent 5 (.int .i64 e.size) rfl)
  |(go_at_call 167;(with_reducible refine (CD.out _ _ HTe.out).mono ?_);rintro r wf ⟨rfl,g⟩;have HTf:=Lib.hid (HTe.out.next HC.out g);clear g c5;have c5:=row_cell HTf.out.ent 5 (.int .i64 e.size) rfl;have f5:=row_free HTf.out.ent 5)
  | fail)
 have HTg:=Lib.hid (HTf.out.set HC.out (i:=5) (x:=.int .i64 sn) (e':={ e with data:=td,size:=sn }) (v':=(.slice none 0 0)) rfl HTf.out.map)
 clear c5 f5
 generalize (World.setCell wf ⟨c,5,none⟩ (.int .i64 sn))=wg at *
 have c13:=row_cell HTg.out.ent 13 (.string (mkS td)) rfl
 go_wp2_with (first
  |(go_at_call 170;(with_reducible refine (CL.out _ _ _ HTg.out).mono ?_);rintro r wh ⟨⟨lv,rfl,g1⟩,g2⟩;obtain ⟨lad,lk,lcap,hlv⟩:=g1.shape;subst hlv;have HTh:=Lib.hid (HTg.out.next HC.out g2);have HG2:=Lib.hid (g1.mono (Nat.le_trans HC.out.mw HTg.out.bar.size));clear g1 g2 c13;have c14:=row_cell HTh.out.ent 14 (.slice none 0 0) rfl;have f14:=row_free HTh.out.ent 14;have c13:=row_cell HTh.out.ent 13 (.string (mkS td)) rfl;have f13:=row_free HTh.out.ent 13)
  | fail)
 first|go_ret2|go_ret
 have T3:=HTh.out.set HC.out (i:=14) (x:=(.slice lad lk lcap)) (e':={ e with data:=td,size:=sn,map:=nm }) (v':=(.slice lad lk lcap)) rfl HG2.out
 have T4:=T3.set HC.out (i:=13) (x:=.string (mkS nd)) (e':={ e with data:=nd,size:=sn,map:=nm }) (v':=(.slice lad lk lcap)) rfl T3.map
 exact ⟨by rw [HQ.out];first|done|rfl,T4.base,T4.bar,fun _=>⟨_,by rw [HQ.out];exact T4⟩⟩
set_option maxRecDepth 100000 in
set_option maxHeartbeats 8000000 in
theorem data_seven_take {w0 w:World} {b c m0:Nat} {s:List UInt8} {st:RSt} {np lp:Option Addr} {gv ov rv:Value} {M:List PrL} (C:DCtx w0 w b c m0 s st np lp gv ov rv M) (a:Nat) (ha:a≤s.length) (e:EntL) (hm:e.map=[]) (n:Int) (h:List UInt8) (hh:h.length=512) (T0:TwoAt w0 w b c m0 s np lp gv ov a e (.slice none 0 0) w) (h55:e.kind=55) (hq:(takeF s a n 14240).1≠0) :
  Calls Tryz.prog 135 #[.pointer (some ⟨b,0,none⟩),.pointer (some ⟨c,0,none⟩),.int .i64 n,.string (mkS h),rv] w (DataOut w0 w b c m0 s np lp gv ov (kindR s a e n h M)):=by
 have hK:kindR s a e n h M=dataR s a { e with kind:=48 } n M:=by unfold kindR;rw [if_neg (by rw [h55];decide),if_pos h55]
 obtain ⟨E,hE⟩:∃ E:EntL,{ e with kind:=48 }=E:=⟨_,rfl⟩
 rw [hE] at hK
 obtain ⟨TQ,hTQ⟩:∃ q,takeF s a n 14240=q:=⟨_,rfl⟩
 rw [hTQ] at hq
 have hKind:E.kind=48:=by rw [← hE]
 have fk:=row_free T0.ent 1
 have ck:=row_cell T0.ent 1 (.int .u8 (e.kind.toNat:Int)) rfl
 rw [h55,show ((55:UInt8).toNat:Int)=55 from rfl] at ck
 have HC:=Lib.hid C
 have HT0:=Lib.hid T0
 have HT1:=Lib.hid (T0.set C (i:=1) (x:=.int .u8 48) (e':={ e with kind:=48 }) (v':=.slice none 0 0) rfl (by show PcNew m0 w _ e.map;rw [hm];exact pcNew_nil _ _))
 have hdl:TQ.2.1.length≤50000:=by
  rw [← hTQ]
  unfold takeF
  split
  ·simp
  ·split
   ·simp
   ·unfold sub;rw [List.length_take];omega
 have CT:=Lib.hid (fun v W (hT:TwoAt w0 w b c m0 s np lp gv ov a E v W)=>take_any s { st with at_:=a } b np lp gv ov n 14240 C.slen (by assumption) (by omega) W (hT.rdrAt C))
 simp only [hTQ] at CT
 obtain ⟨tk,td,ta⟩:=TQ
 simp only at CT hq hdl
 have hD:dataR s a E n M=(if tk≠0 then (tk,E,a) else ((linedR E M td).1,(linedR E M td).2,ta)):=by unfold dataR;rw [hTQ]
 rw [hD] at hK
 rw [if_pos hq] at hK
 rw [show errV tk=.iface 68 (.int .i64 tk) from if_neg hq] at CT
 have HQ:=Lib.hid (And.intro hK hq)
 clear hK hD hTQ hdl C T0
 have HEE:=Lib.hid hE
 clear hE hKind
 go_enter Tryz.func135,Tryz.ntmps135
 go_upto_region 10 with fail
 clear ck fk
 have hT1:=HT1.out
 rw [HEE.out] at hT1
 have HTa:=Lib.hid hT1
 clear hT1 HT1
 generalize (World.setCell w ⟨c,1,none⟩ (.int .u8 48))=wa at *
 have cd:=row_cell HTa.out.ent 13 (.string (mkS E.data)) rfl
 go_wp2_with (first
  |(go_at_call 84;(with_reducible refine (CT.out _ _ HTa.out).mono ?_);rintro r wb ⟨rfl,g1,g2⟩;have HTb:=Lib.hid (HTa.out.took HC.out g1 g2);clear g1 g2 cd;have cd:=row_cell HTb.out.ent 13 (.string (mkS E.data)) rfl;have fd:=row_free HTb.out.ent 13)
  | fail)
 first|go_ret2|go_ret
 exact dataOut_bad tk HQ.out.2 (by rw [HQ.out.1]) (HTb.out.set HC.out (i:=13) (x:=.string (mkS td)) (e':={ E with data:=td }) (v':=(.slice none 0 0)) rfl HTb.out.map)
set_option maxRecDepth 100000 in
set_option maxHeartbeats 8000000 in
theorem data_seven_major {w0 w:World} {b c m0:Nat} {s:List UInt8} {st:RSt} {np lp:Option Addr} {gv ov rv:Value} {M:List PrL} (C:DCtx w0 w b c m0 s st np lp gv ov rv M) (a:Nat) (ha:a≤s.length) (e:EntL) (hm:e.map=[]) (n:Int) (h:List UInt8) (hh:h.length=512) (T0:TwoAt w0 w b c m0 s np lp gv ov a e (.slice none 0 0) w) (h55:e.kind=55) (hq:(takeF s a n 14240).1=0) (hj:Px.getL M majorK≠[49]) :
  Calls Tryz.prog 135 #[.pointer (some ⟨b,0,none⟩),.pointer (some ⟨c,0,none⟩),.int .i64 n,.string (mkS h),rv] w (DataOut w0 w b c m0 s np lp gv ov (kindR s a e n h M)):=by
 have hK:kindR s a e n h M=dataR s a { e with kind:=48 } n M:=by unfold kindR;rw [if_neg (by rw [h55];decide),if_pos h55]
 obtain ⟨E,hE⟩:∃ E:EntL,{ e with kind:=48 }=E:=⟨_,rfl⟩
 rw [hE] at hK
 obtain ⟨TQ,hTQ⟩:∃ q,takeF s a n 14240=q:=⟨_,rfl⟩
 rw [hTQ] at hq
 have hKind:E.kind=48:=by rw [← hE]
 have fk:=row_free T0.ent 1
 have ck:=row_cell T0.ent 1 (.int .u8 (e.kind.toNat:Int)) rfl
 rw [h55,show ((55:UInt8).toNat:Int)=55 from rfl] at ck
 have HC:=Lib.hid C
 have HT0:=Lib.hid T0
 have HT1:=Lib.hid (T0.set C (i:=1) (x:=.int .u8 48) (e':={ e with kind:=48 }) (v':=.slice none 0 0) rfl (by show PcNew m0 w _ e.map;rw [hm];exact pcNew_nil _ _))
 have hdl:TQ.2.1.length≤50000:=by
  rw [← hTQ]
  unfold takeF
  split
  ·simp
  ·split
   ·simp
   ·unfold sub;rw [List.length_take];omega
 have CT:=Lib.hid (fun v W (hT:TwoAt w0 w b c m0 s np lp gv ov a E v W)=>take_any s { st with at_:=a } b np lp gv ov n 14240 C.slen (by assumption) (by omega) W (hT.rdrAt C))
 simp only [hTQ] at CT
 obtain ⟨tk,td,ta⟩:=TQ
 simp only at CT hq hdl
 have hD:dataR s a E n M=(if tk≠0 then (tk,E,a) else ((linedR E M td).1,(linedR E M td).2,ta)):=by unfold dataR;rw [hTQ]
 rw [hD] at hK
 subst hq
 rw [if_neg (by simp)] at hK
 rw [show errV 0=.nilIface from rfl] at CT
 have CG:=Lib.hid (fun v W (hT:TwoAt w0 w b c m0 s np lp gv ov ta { E with data:=td } v W)=>show Calls Tryz.prog 169 #[rv,.string ⟨#[71,78,85,46,115,112,97,114,115,101,46,109,97,106,111,114]⟩] W fun e W'=>e=.returned (.tuple #[.string (mkS (Px.getL M majorK)),.bool (!(Px.getL M majorK).isEmpty)])∧Below W.heap.size W W' from get_any M majorK (by have:=C.few;omega) m0 rv W (hT.recs C))
 have CR:=Lib.hid (fun v W (hT:TwoAt w0 w b c m0 s np lp gv ov ta { E with data:=td } v W)=>show Calls Tryz.prog 169 #[rv,.string ⟨#[71,78,85,46,115,112,97,114,115,101,46,114,101,97,108,115,105,122,101]⟩] W fun e W'=>e=.returned (.tuple #[.string (mkS (Px.getL M realK)),.bool (!(Px.getL M realK).isEmpty)])∧Below W.heap.size W W' from get_any M realK (by have:=C.few;omega) m0 rv W (hT.recs C))
 have CD:=Lib.hid (fun v W (hT:TwoAt w0 w b c m0 s np lp gv ov ta { E with data:=td } v W)=>decimal_any (Px.getL M realK) C.short W (hT.laid C))
 have hL:linedR E M td=(0,{ E with data:=td }):=by unfold linedR;rw [if_pos (.inl hj)]
 rw [hL] at hK
 have gj:((mkS (Px.getL M majorK)).toList != ([49]:List UInt8))=true:=by rw [text_ne];exact decide_eq_true hj
 have gj2:((mkS (Px.getL M majorK)).toList==([49]:List UInt8))=false:=by rw [text_is];exact decide_eq_false hj
 have HQ:=Lib.hid hK
 generalize Px.getL M majorK=GJ at *
 generalize Px.getL M realK=GR at *
 clear hK hD hTQ hdl C T0
 have HEE:=Lib.hid hE
 clear hE hKind
 go_enter Tryz.func135,Tryz.ntmps135
 go_upto_region 10 with fail
 clear ck fk
 have hT1:=HT1.out
 rw [HEE.out] at hT1
 have HTa:=Lib.hid hT1
 clear hT1 HT1
 generalize (World.setCell w ⟨c,1,none⟩ (.int .u8 48))=wa at *
 have cd:=row_cell HTa.out.ent 13 (.string (mkS E.data)) rfl
 go_upto_region 13 with (first
  |(go_at_call 84;(with_reducible refine (CT.out _ _ HTa.out).mono ?_);rintro r wb ⟨rfl,g1,g2⟩;have HTb:=Lib.hid (HTa.out.took HC.out g1 g2);clear g1 g2 cd;have cd:=row_cell HTb.out.ent 13 (.string (mkS E.data)) rfl;have fd:=row_free HTb.out.ent 13)
  | fail)
 have HTc:=Lib.hid (HTb.out.set HC.out (i:=13) (x:=.string (mkS td)) (e':={ E with data:=td }) (v':=(.slice none 0 0)) rfl HTb.out.map)
 clear cd fd
 generalize (World.setCell wb ⟨c,13,none⟩ (.string (mkS td)))=wc at *
 go_wp2_with (first
  |(go_at_call 169;(with_reducible refine (CG.out _ _ HTc.out).mono ?_);rintro r wd ⟨rfl,g⟩;have HTd:=Lib.hid (HTc.out.next HC.out g);clear g;have c1:=row_cell HTd.out.ent 1 (.int .u8 (E.kind.toNat:Int)) rfl;have c5:=row_cell HTd.out.ent 5 (.int .i64 E.size) rfl)
  | fail)
 first|go_ret2|go_ret
 exact ⟨by rw [HQ.out];rfl,HTd.out.base,HTd.out.bar,fun _=>⟨_,by rw [HQ.out];exact HTd.out⟩⟩
set_option maxRecDepth 100000 in
set_option maxHeartbeats 8000000 in
theorem data_seven_real {w0 w:World} {b c m0:Nat} {s:List UInt8} {st:RSt} {np lp:Option Addr} {gv ov rv:Value} {M:List PrL} (C:DCtx w0 w b c m0 s st np lp gv ov rv M) (a:Nat) (ha:a≤s.length) (e:EntL) (hm:e.map=[]) (n:Int) (h:List UInt8) (hh:h.length=512) (T0:TwoAt w0 w b c m0 s np lp gv ov a e (.slice none 0 0) w) (h55:e.kind=55) (hq:(takeF s a n 14240).1=0) (hj:Px.getL M majorK=[49]) (hr:(smallF (Px.getL M realK)).1≠0) :
  Calls Tryz.prog 135 #[.pointer (some ⟨b,0,none⟩),.pointer (some ⟨c,0,none⟩),.int .i64 n,.string (mkS h),rv] w (DataOut w0 w b c m0 s np lp gv ov (kindR s a e n h M)):=by
 have hK:kindR s a e n h M=dataR s a { e with kind:=48 } n M:=by unfold kindR;rw [if_neg (by rw [h55];decide),if_pos h55]
 obtain ⟨E,hE⟩:∃ E:EntL,{ e with kind:=48 }=E:=⟨_,rfl⟩
 rw [hE] at hK
 obtain ⟨TQ,hTQ⟩:∃ q,takeF s a n 14240=q:=⟨_,rfl⟩
 rw [hTQ] at hq
 have hKind:E.kind=48:=by rw [← hE]
 have fk:=row_free T0.ent 1
 have ck:=row_cell T0.ent 1 (.int .u8 (e.kind.toNat:Int)) rfl
 rw [h55,show ((55:UInt8).toNat:Int)=55 from rfl] at ck
 have HC:=Lib.hid C
 have HT0:=Lib.hid T0
 have HT1:=Lib.hid (T0.set C (i:=1) (x:=.int .u8 48) (e':={ e with kind:=48 }) (v':=.slice none 0 0) rfl (by show PcNew m0 w _ e.map;rw [hm];exact pcNew_nil _ _))
 have hdl:TQ.2.1.length≤50000:=by
  rw [← hTQ]
  unfold takeF
  split
  ·simp
  ·split
   ·simp
   ·unfold sub;rw [List.length_take];omega
 have CT:=Lib.hid (fun v W (hT:TwoAt w0 w b c m0 s np lp gv ov a E v W)=>take_any s { st with at_:=a } b np lp gv ov n 14240 C.slen (by assumption) (by omega) W (hT.rdrAt C))
 simp only [hTQ] at CT
 obtain ⟨tk,td,ta⟩:=TQ
 simp only at CT hq hdl
 have hD:dataR s a E n M=(if tk≠0 then (tk,E,a) else ((linedR E M td).1,(linedR E M td).2,ta)):=by unfold dataR;rw [hTQ]
 rw [hD] at hK
 subst hq
 rw [if_neg (by simp)] at hK
 rw [show errV 0=.nilIface from rfl] at CT
 have CG:=Lib.hid (fun v W (hT:TwoAt w0 w b c m0 s np lp gv ov ta { E with data:=td } v W)=>show Calls Tryz.prog 169 #[rv,.string ⟨#[71,78,85,46,115,112,97,114,115,101,46,109,97,106,111,114]⟩] W fun e W'=>e=.returned (.tuple #[.string (mkS (Px.getL M majorK)),.bool (!(Px.getL M majorK).isEmpty)])∧Below W.heap.size W W' from get_any M majorK (by have:=C.few;omega) m0 rv W (hT.recs C))
 have CR:=Lib.hid (fun v W (hT:TwoAt w0 w b c m0 s np lp gv ov ta { E with data:=td } v W)=>show Calls Tryz.prog 169 #[rv,.string ⟨#[71,78,85,46,115,112,97,114,115,101,46,114,101,97,108,115,105,122,101]⟩] W fun e W'=>e=.returned (.tuple #[.string (mkS (Px.getL M realK)),.bool (!(Px.getL M realK).isEmpty)])∧Below W.heap.size W W' from get_any M realK (by have:=C.few;omega) m0 rv W (hT.recs C))
 have CD:=Lib.hid (fun v W (hT:TwoAt w0 w b c m0 s np lp gv ov ta { E with data:=td } v W)=>decimal_any (Px.getL M realK) C.short W (hT.laid C))
 have gj:((mkS (Px.getL M majorK)).toList != ([49]:List UInt8))=false:=by rw [text_ne];exact decide_eq_false (by simpa using hj)
 have gj2:((mkS (Px.getL M majorK)).toList==([49]:List UInt8))=true:=by rw [text_is];exact decide_eq_true hj
 have hE48:E.kind=48:=hKind
 have g48:((E.kind.toNat:Int)==48)=true:=(u8_at E.kind 48 (by omega)).trans (by rw [hE48];rfl)
 have g48n:((E.kind.toNat:Int) != 48)=false:=by rw [bne,g48];rfl
 have hL:linedR E M td=if (smallF (Px.getL M realK)).1≠0 then ((smallF (Px.getL M realK)).1,E) else ((newMapR td).1,{ E with size:=(smallF (Px.getL M realK)).2,map:=(newMapR td).2.1,data:=(newMapR td).2.2 }):=by unfold linedR;rw [if_neg (by rintro (h|h);exact h hj;exact h hE48)]
 rw [hL] at hK
 generalize smallF (Px.getL M realK)=SQ at *
 obtain ⟨sk,sn⟩:=SQ
 simp only at CD hr hK
 rw [if_pos hr] at hK
 rw [show errV sk=.iface 68 (.int .i64 sk) from if_neg hr] at CD
 have HQ:=Lib.hid (And.intro hK hr)
 generalize Px.getL M majorK=GJ at *
 generalize Px.getL M realK=GR at *
 clear hK hD hTQ hdl C T0 hE48 hj
 have HEE:=Lib.hid hE
 clear hE hKind
 go_enter Tryz.func135,Tryz.ntmps135
 go_upto_region 10 with fail
 clear ck fk
 have hT1:=HT1.out
 rw [HEE.out] at hT1
 have HTa:=Lib.hid hT1
 clear hT1 HT1
 generalize (World.setCell w ⟨c,1,none⟩ (.int .u8 48))=wa at *
 have cd:=row_cell HTa.out.ent 13 (.string (mkS E.data)) rfl
 go_upto_region 13 with (first
  |(go_at_call 84;(with_reducible refine (CT.out _ _ HTa.out).mono ?_);rintro r wb ⟨rfl,g1,g2⟩;have HTb:=Lib.hid (HTa.out.took HC.out g1 g2);clear g1 g2 cd;have cd:=row_cell HTb.out.ent 13 (.string (mkS E.data)) rfl;have fd:=row_free HTb.out.ent 13)
  | fail)
 have HTc:=Lib.hid (HTb.out.set HC.out (i:=13) (x:=.string (mkS td)) (e':={ E with data:=td }) (v':=(.slice none 0 0)) rfl HTb.out.map)
 clear cd fd
 generalize (World.setCell wb ⟨c,13,none⟩ (.string (mkS td)))=wc at *
 go_wp2_with (first
  |(go_at_call 169;(with_reducible refine (CG.out _ _ HTc.out).mono ?_);rintro r wd ⟨rfl,g⟩;have HTd:=Lib.hid (HTc.out.next HC.out g);clear g;have c1:=row_cell HTd.out.ent 1 (.int .u8 (E.kind.toNat:Int)) rfl;have c5:=row_cell HTd.out.ent 5 (.int .i64 E.size) rfl)
  |(go_at_call 169;(with_reducible refine (CR.out _ _ HTd.out).mono ?_);rintro r we ⟨rfl,g⟩;have HTe:=Lib.hid (HTd.out.next HC.out g);clear g c1 c5;have c5:=row_cell HTe.out.ent 5 (.int .i64 E.size) rfl)
  |(go_at_call 167;(with_reducible refine (CD.out _ _ HTe.out).mono ?_);rintro r wf ⟨rfl,g⟩;have HTf:=Lib.hid (HTe.out.next HC.out g);clear g c5;have c5:=row_cell HTf.out.ent 5 (.int .i64 E.size) rfl;have f5:=row_free HTf.out.ent 5)
  | fail)
 first|go_ret2|go_ret
 exact dataOut_bad sk HQ.out.2 (by rw [HQ.out.1]) (HTf.out.set HC.out (i:=5) (x:=.int .i64 sn) (e':={ E with data:=td,size:=sn }) (v':=(.slice none 0 0)) rfl HTf.out.map)
set_option maxRecDepth 100000 in
set_option maxHeartbeats 8000000 in
theorem data_seven_lines {w0 w:World} {b c m0:Nat} {s:List UInt8} {st:RSt} {np lp:Option Addr} {gv ov rv:Value} {M:List PrL} (C:DCtx w0 w b c m0 s st np lp gv ov rv M) (a:Nat) (ha:a≤s.length) (e:EntL) (hm:e.map=[]) (n:Int) (h:List UInt8) (hh:h.length=512) (T0:TwoAt w0 w b c m0 s np lp gv ov a e (.slice none 0 0) w) (h55:e.kind=55) (hq:(takeF s a n 14240).1=0) (hj:Px.getL M majorK=[49]) (hr:(smallF (Px.getL M realK)).1=0) :
  Calls Tryz.prog 135 #[.pointer (some ⟨b,0,none⟩),.pointer (some ⟨c,0,none⟩),.int .i64 n,.string (mkS h),rv] w (DataOut w0 w b c m0 s np lp gv ov (kindR s a e n h M)):=by
 have hK:kindR s a e n h M=dataR s a { e with kind:=48 } n M:=by unfold kindR;rw [if_neg (by rw [h55];decide),if_pos h55]
 obtain ⟨E,hE⟩:∃ E:EntL,{ e with kind:=48 }=E:=⟨_,rfl⟩
 rw [hE] at hK
 obtain ⟨TQ,hTQ⟩:∃ q,takeF s a n 14240=q:=⟨_,rfl⟩
 rw [hTQ] at hq
 have hKind:E.kind=48:=by rw [← hE]
 have fk:=row_free T0.ent 1
 have ck:=row_cell T0.ent 1 (.int .u8 (e.kind.toNat:Int)) rfl
 rw [h55,show ((55:UInt8).toNat:Int)=55 from rfl] at ck
 have HC:=Lib.hid C
 have HT0:=Lib.hid T0
 have HT1:=Lib.hid (T0.set C (i:=1) (x:=.int .u8 48) (e':={ e with kind:=48 }) (v':=.slice none 0 0) rfl (by show PcNew m0 w _ e.map;rw [hm];exact pcNew_nil _ _))
 have hdl:TQ.2.1.length≤50000:=by
  rw [← hTQ]
  unfold takeF
  split
  ·simp
  ·split
   ·simp
   ·unfold sub;rw [List.length_take];omega
 have CT:=Lib.hid (fun v W (hT:TwoAt w0 w b c m0 s np lp gv ov a E v W)=>take_any s { st with at_:=a } b np lp gv ov n 14240 C.slen (by assumption) (by omega) W (hT.rdrAt C))
 simp only [hTQ] at CT
 obtain ⟨tk,td,ta⟩:=TQ
 simp only at CT hq hdl
 have hD:dataR s a E n M=(if tk≠0 then (tk,E,a) else ((linedR E M td).1,(linedR E M td).2,ta)):=by unfold dataR;rw [hTQ]
 rw [hD] at hK
 subst hq
 rw [if_neg (by simp)] at hK
 rw [show errV 0=.nilIface from rfl] at CT
 have CG:=Lib.hid (fun v W (hT:TwoAt w0 w b c m0 s np lp gv ov ta { E with data:=td } v W)=>show Calls Tryz.prog 169 #[rv,.string ⟨#[71,78,85,46,115,112,97,114,115,101,46,109,97,106,111,114]⟩] W fun e W'=>e=.returned (.tuple #[.string (mkS (Px.getL M majorK)),.bool (!(Px.getL M majorK).isEmpty)])∧Below W.heap.size W W' from get_any M majorK (by have:=C.few;omega) m0 rv W (hT.recs C))
 have CR:=Lib.hid (fun v W (hT:TwoAt w0 w b c m0 s np lp gv ov ta { E with data:=td } v W)=>show Calls Tryz.prog 169 #[rv,.string ⟨#[71,78,85,46,115,112,97,114,115,101,46,114,101,97,108,115,105,122,101]⟩] W fun e W'=>e=.returned (.tuple #[.string (mkS (Px.getL M realK)),.bool (!(Px.getL M realK).isEmpty)])∧Below W.heap.size W W' from get_any M realK (by have:=C.few;omega) m0 rv W (hT.recs C))
 have CD:=Lib.hid (fun v W (hT:TwoAt w0 w b c m0 s np lp gv ov ta { E with data:=td } v W)=>decimal_any (Px.getL M realK) C.short W (hT.laid C))
 have CL:=Lib.hid (fun (E2:EntL) v W (hT:TwoAt w0 w b c m0 s np lp gv ov ta E2 v W)=>readLines_any td hdl W (hT.laid C))
 unfold LinesOut at CL
 have gj:((mkS (Px.getL M majorK)).toList != ([49]:List UInt8))=false:=by rw [text_ne];exact decide_eq_false (by simpa using hj)
 have gj2:((mkS (Px.getL M majorK)).toList==([49]:List UInt8))=true:=by rw [text_is];exact decide_eq_true hj
 have hE48:E.kind=48:=hKind
 have g48:((E.kind.toNat:Int)==48)=true:=(u8_at E.kind 48 (by omega)).trans (by rw [hE48];rfl)
 have g48n:((E.kind.toNat:Int) != 48)=false:=by rw [bne,g48];rfl
 have hL:linedR E M td=if (smallF (Px.getL M realK)).1≠0 then ((smallF (Px.getL M realK)).1,E) else ((newMapR td).1,{ E with size:=(smallF (Px.getL M realK)).2,map:=(newMapR td).2.1,data:=(newMapR td).2.2 }):=by unfold linedR;rw [if_neg (by rintro (h|h);exact h hj;exact h hE48)]
 rw [hL] at hK
 generalize smallF (Px.getL M realK)=SQ at *
 obtain ⟨sk,sn⟩:=SQ
 simp only at CD hr hK
 subst hr
 rw [if_neg (by simp)] at hK
 rw [show errV 0=.nilIface from rfl] at CD
 generalize newMapR td=NQ at *
 obtain ⟨nk,nm,nd⟩:=NQ
 simp only at CL hK
 have HQ:=Lib.hid hK
 generalize Px.getL M majorK=GJ at *
 generalize Px.getL M realK=GR at *
 clear hK hD hTQ hdl C T0 hE48 hj
 have HEE:=Lib.hid hE
 clear hE hKind
 go_enter Tryz.func135,Tryz.ntmps135
 go_upto_region 10 with fail
 clear ck fk
 have hT1:=HT1.out
 rw [HEE.out] at hT1
 have HTa:=Lib.hid hT1
 clear hT1 HT1
 generalize (World.setCell w ⟨c,1,none⟩ (.int .u8 48))=wa at *
 have cd:=row_cell HTa.out.ent 13 (.string (mkS E.data)) rfl
 go_upto_region 13 with (first
  |(go_at_call 84;(with_reducible refine (CT.out _ _ HTa.out).mono ?_);rintro r wb ⟨rfl,g1,g2⟩;have HTb:=Lib.hid (HTa.out.took HC.out g1 g2);clear g1 g2 cd;have cd:=row_cell HTb.out.ent 13 (.string (mkS E.data)) rfl;have fd:=row_free HTb.out.ent 13)
  | fail)
 have HTc:=Lib.hid (HTb.out.set HC.out (i:=13) (x:=.string (mkS td)) (e':={ E with data:=td }) (v':=(.slice none 0 0)) rfl HTb.out.map)
 clear cd fd
 generalize (World.setCell wb ⟨c,13,none⟩ (.string (mkS td)))=wc at *
 go_upto_region 20 with (first
  |(go_at_call 169;(with_reducible refine (CG.out _ _ HTc.out).mono ?_);rintro r wd ⟨rfl,g⟩;have HTd:=Lib.hid (HTc.out.next HC.out g);clear g;have c1:=row_cell HTd.out.ent 1 (.int .u8 (E.kind.toNat:Int)) rfl;have c5:=row_cell HTd.out.ent 5 (.int .i64 E.size) rfl)
  |(go_at_call 169;(with_reducible refine (CR.out _ _ HTd.out).mono ?_);rintro r we ⟨rfl,g⟩;have HTe:=Lib.hid (HTd.out.next HC.out g);clear g c1 c5;have c5:=row_cell HTe.out.ent 5 (.int .i64 E.size) rfl)
  |(go_at_call 167;(with_reducible refine (CD.out _ _ HTe.out).mono ?_);rintro r wf ⟨rfl,g⟩;have HTf:=Lib.hid (HTe.out.next HC.out g);clear g c5;have c5:=row_cell HTf.out.ent 5 (.int .i64 E.size) rfl;have f5:=row_free HTf.out.ent 5)
  | fail)
 have HTg:=Lib.hid (HTf.out.set HC.out (i:=5) (x:=.int .i64 sn) (e':={ E with data:=td,size:=sn }) (v':=(.slice none 0 0)) rfl HTf.out.map)
 clear c5 f5
 generalize (World.setCell wf ⟨c,5,none⟩ (.int .i64 sn))=wg at *
 have c13:=row_cell HTg.out.ent 13 (.string (mkS td)) rfl
 go_wp2_with (first
  |(go_at_call 170;(with_reducible refine (CL.out _ _ _ HTg.out).mono ?_);rintro r wh ⟨⟨lv,rfl,g1⟩,g2⟩;obtain ⟨lad,lk,lcap,hlv⟩:=g1.shape;subst hlv;have HTh:=Lib.hid (HTg.out.next HC.out g2);have HG2:=Lib.hid (g1.mono (Nat.le_trans HC.out.mw HTg.out.bar.size));clear g1 g2 c13;have c14:=row_cell HTh.out.ent 14 (.slice none 0 0) rfl;have f14:=row_free HTh.out.ent 14;have c13:=row_cell HTh.out.ent 13 (.string (mkS td)) rfl;have f13:=row_free HTh.out.ent 13)
  | fail)
 first|go_ret2|go_ret
 have T3:=HTh.out.set HC.out (i:=14) (x:=(.slice lad lk lcap)) (e':={ E with data:=td,size:=sn,map:=nm }) (v':=(.slice lad lk lcap)) rfl HG2.out
 have T4:=T3.set HC.out (i:=13) (x:=.string (mkS nd)) (e':={ E with data:=nd,size:=sn,map:=nm }) (v':=(.slice lad lk lcap)) rfl T3.map
 exact ⟨by rw [HQ.out];first|done|rfl,T4.base,T4.bar,fun _=>⟨_,by rw [HQ.out];exact T4⟩⟩
set_option maxRecDepth 100000 in
set_option maxHeartbeats 8000000 in
theorem data_holes_hole {w0 w:World} {b c m0:Nat} {s:List UInt8} {st:RSt} {np lp:Option Addr} {gv ov rv:Value} {M:List PrL} (C:DCtx w0 w b c m0 s st np lp gv ov rv M) (a:Nat) (ha:a≤s.length) (e:EntL) (hm:e.map=[]) (n:Int) (h:List UInt8) (hh:h.length=512) (T0:TwoAt w0 w b c m0 s np lp gv ov a e (.slice none 0 0) w) (h83:e.kind=83) (hq:(holesR s h a).1≠0) :
  Calls Tryz.prog 135 #[.pointer (some ⟨b,0,none⟩),.pointer (some ⟨c,0,none⟩),.int .i64 n,.string (mkS h),rv] w (DataOut w0 w b c m0 s np lp gv ov (kindR s a e n h M)):=by
 have hK:(kindR s a e n h M).1=(holesR s h a).1:=by unfold kindR;rw [if_pos h83,if_pos hq]
 obtain ⟨PQ,hPQ⟩:∃ q,holesR s h a=q:=⟨_,rfl⟩
 rw [hPQ] at hq hK
 obtain ⟨p0,p1,p2,p3⟩:=PQ
 simp only at hq hK
 have fk:=row_free T0.ent 1
 have ck:=row_cell T0.ent 1 (.int .u8 (e.kind.toNat:Int)) rfl
 rw [h83,show ((83:UInt8).toNat:Int)=83 from rfl] at ck
 have HC:=Lib.hid C
 have HT0:=Lib.hid T0
 have HT1:=Lib.hid (T0.set C (i:=1) (x:=.int .u8 48) (e':={ e with kind:=48 }) (v':=.slice none 0 0) rfl (by show PcNew m0 w _ e.map;rw [hm];exact pcNew_nil _ _))
 have CP:=Lib.hid (fun W (hT:TwoAt w0 w b c m0 s np lp gv ov a { e with kind:=48 } (.slice none 0 0) W)=>readPieces_any b s { st with at_:=a } np lp gv ov h hh C.slen ha W (hT.rdrAt C))
 unfold PsOut at CP
 simp only at CP
 simp only [hPQ] at CP
 rw [show errV p0=.iface 68 (.int .i64 p0) from if_neg hq] at CP
 have HQ:=Lib.hid (And.intro hK hq)
 clear hK hq hPQ C T0 ha hm hh h83
 go_enter Tryz.func135,Tryz.ntmps135
 go_upto_region 7 with fail
 clear ck fk
 generalize (World.setCell w ⟨c,1,none⟩ (.int .u8 48))=w1 at *
 have c14:=row_cell HT1.out.ent 14 (.slice none 0 0) rfl
 have c5:=row_cell HT1.out.ent 5 (.int .i64 e.size) rfl
 go_wp2_with (first
  |(go_at_call 168;(with_reducible refine (CP.out _ HT1.out).mono ?_);rintro r w2 ⟨pv,pa,pz,rfl,g1,g2,g3,g4⟩;obtain ⟨pad,pk,pcap,hpv⟩:=g1.shape;subst hpv;have HT2:=Lib.hid (HT1.out.took HC.out g3 g4);have HG:=Lib.hid (And.intro (g1.mono (Nat.le_trans HC.out.mw HT1.out.bar.size)) g2);clear g1 g2 g3 g4 c14 c5;have c14:=row_cell HT2.out.ent 14 (.slice none 0 0) rfl;have f14:=row_free HT2.out.ent 14;have c5:=row_cell HT2.out.ent 5 (.int .i64 e.size) rfl;have f5:=row_free HT2.out.ent 5)
  | fail)
 first|go_ret2|go_ret
 have T3:=HT2.out.set HC.out (i:=14) (x:=(.slice pad pk pcap)) (e':={ e with kind:=48,map:=p1 }) (v':=(.slice pad pk pcap)) rfl HG.out.1
 have T4:=T3.set HC.out (i:=5) (x:=.int .i64 pz) (e':={ e with kind:=48,map:=p1,size:=pz }) (v':=(.slice pad pk pcap)) rfl T3.map
 exact dataOut_bad p0 HQ.out.2 HQ.out.1 T4
set_option maxRecDepth 100000 in
set_option maxHeartbeats 8000000 in
theorem data_holes_take {w0 w:World} {b c m0:Nat} {s:List UInt8} {st:RSt} {np lp:Option Addr} {gv ov rv:Value} {M:List PrL} (C:DCtx w0 w b c m0 s st np lp gv ov rv M) (a:Nat) (ha:a≤s.length) (e:EntL) (hm:e.map=[]) (n:Int) (h:List UInt8) (hh:h.length=512) (T0:TwoAt w0 w b c m0 s np lp gv ov a e (.slice none 0 0) w) (h83:e.kind=83) (hz:(holesR s h a).1=0) (ha2:(holesR s h a).2.2.2≤s.length) (hq:(takeF s (holesR s h a).2.2.2 n 14240).1≠0) :
  Calls Tryz.prog 135 #[.pointer (some ⟨b,0,none⟩),.pointer (some ⟨c,0,none⟩),.int .i64 n,.string (mkS h),rv] w (DataOut w0 w b c m0 s np lp gv ov (kindR s a e n h M)):=by
 have hK:kindR s a e n h M=dataR s (holesR s h a).2.2.2 { e with kind:=48,map:=(holesR s h a).2.1,size:=(holesR s h a).2.2.1 } n M:=by unfold kindR;rw [if_pos h83,if_neg (by rw [hz];simp)]
 obtain ⟨PQ,hPQ⟩:∃ q,holesR s h a=q:=⟨_,rfl⟩
 rw [hPQ] at hq hK hz ha2
 obtain ⟨p0,p1,p2,p3⟩:=PQ
 simp only at hq hK hz ha2
 subst hz
 obtain ⟨E,hE⟩:∃ E:EntL,{ e with kind:=48,map:=p1,size:=p2 }=E:=⟨_,rfl⟩
 rw [hE] at hK
 obtain ⟨TQ,hTQ⟩:∃ q,takeF s p3 n 14240=q:=⟨_,rfl⟩
 rw [hTQ] at hq
 have hKind:E.kind=48:=by rw [← hE]
 have fk:=row_free T0.ent 1
 have ck:=row_cell T0.ent 1 (.int .u8 (e.kind.toNat:Int)) rfl
 rw [h83,show ((83:UInt8).toNat:Int)=83 from rfl] at ck
 have HC:=Lib.hid C
 have HT0:=Lib.hid T0
 have HT1:=Lib.hid (T0.set C (i:=1) (x:=.int .u8 48) (e':={ e with kind:=48 }) (v':=.slice none 0 0) rfl (by show PcNew m0 w _ e.map;rw [hm];exact pcNew_nil _ _))
 have CP:=Lib.hid (fun W (hT:TwoAt w0 w b c m0 s np lp gv ov a { e with kind:=48 } (.slice none 0 0) W)=>readPieces_any b s { st with at_:=a } np lp gv ov h hh C.slen ha W (hT.rdrAt C))
 unfold PsOut at CP
 simp only at CP
 simp only [hPQ] at CP
 rw [show errV 0=.nilIface from rfl] at CP
 have hdl:TQ.2.1.length≤50000:=by
  rw [← hTQ]
  unfold takeF
  split
  ·simp
  ·split
   ·simp
   ·unfold sub;rw [List.length_take];omega
 have CT:=Lib.hid (fun v W (hT:TwoAt w0 w b c m0 s np lp gv ov p3 E v W)=>take_any s { st with at_:=p3 } b np lp gv ov n 14240 C.slen (by assumption) (by omega) W (hT.rdrAt C))
 simp only [hTQ] at CT
 obtain ⟨tk,td,ta⟩:=TQ
 simp only at CT hq hdl
 have hD:dataR s p3 E n M=(if tk≠0 then (tk,E,p3) else ((linedR E M td).1,(linedR E M td).2,ta)):=by unfold dataR;rw [hTQ]
 rw [hD] at hK
 rw [if_pos hq] at hK
 rw [show errV tk=.iface 68 (.int .i64 tk) from if_neg hq] at CT
 have HQ:=Lib.hid (And.intro hK hq)
 clear hK hD hTQ hdl C T0
 have HEE:=Lib.hid hE
 clear hE hKind hPQ
 go_enter Tryz.func135,Tryz.ntmps135
 go_upto_region 7 with fail
 clear ck fk
 generalize (World.setCell w ⟨c,1,none⟩ (.int .u8 48))=w1 at *
 have c14:=row_cell HT1.out.ent 14 (.slice none 0 0) rfl
 have c5:=row_cell HT1.out.ent 5 (.int .i64 e.size) rfl
 go_upto_region 10 with (first
  |(go_at_call 168;(with_reducible refine (CP.out _ HT1.out).mono ?_);rintro r w2 ⟨pv,pa,pz,rfl,g1,g2,g3,g4⟩;obtain ⟨pad,pk,pcap,hpv⟩:=g1.shape;subst hpv;have HT2:=Lib.hid (HT1.out.took HC.out g3 g4);have HG:=Lib.hid (And.intro (g1.mono (Nat.le_trans HC.out.mw HT1.out.bar.size)) g2);clear g1 g2 g3 g4 c14 c5;have c14:=row_cell HT2.out.ent 14 (.slice none 0 0) rfl;have f14:=row_free HT2.out.ent 14;have c5:=row_cell HT2.out.ent 5 (.int .i64 e.size) rfl;have f5:=row_free HT2.out.ent 5)
  | fail)
 have T3:=HT2.out.set HC.out (i:=14) (x:=(.slice pad pk pcap)) (e':={ e with kind:=48,map:=p1 }) (v':=(.slice pad pk pcap)) rfl HG.out.1
 have T4:=T3.set HC.out (i:=5) (x:=.int .i64 pz) (e':={ e with kind:=48,map:=p1,size:=pz }) (v':=(.slice pad pk pcap)) rfl T3.map
 obtain ⟨rfl,rfl⟩:=HG.out.2 (by trivial)
 have hE3:=HEE.out
 try simp only at hE3
 rw [hE3] at T4
 have HTa:=Lib.hid T4
 clear T3 T4 c14 f14 c5 f5 hE3
 generalize (World.setCell (World.setCell w2 ⟨c,14,none⟩ (.slice pad pk pcap)) ⟨c,5,none⟩ (.int .i64 _))=wa at *
 have cd:=row_cell HTa.out.ent 13 (.string (mkS E.data)) rfl
 go_wp2_with (first
  |(go_at_call 84;(with_reducible refine (CT.out _ _ HTa.out).mono ?_);rintro r wb ⟨rfl,g1,g2⟩;have HTb:=Lib.hid (HTa.out.took HC.out g1 g2);clear g1 g2 cd;have cd:=row_cell HTb.out.ent 13 (.string (mkS E.data)) rfl;have fd:=row_free HTb.out.ent 13)
  | fail)
 first|go_ret2|go_ret
 exact dataOut_bad tk HQ.out.2 (by rw [HQ.out.1]) (HTb.out.set HC.out (i:=13) (x:=.string (mkS td)) (e':={ E with data:=td }) (v':=(.slice pad pk pcap)) rfl HTb.out.map)
set_option maxRecDepth 100000 in
set_option maxHeartbeats 8000000 in
theorem data_holes_major {w0 w:World} {b c m0:Nat} {s:List UInt8} {st:RSt} {np lp:Option Addr} {gv ov rv:Value} {M:List PrL} (C:DCtx w0 w b c m0 s st np lp gv ov rv M) (a:Nat) (ha:a≤s.length) (e:EntL) (hm:e.map=[]) (n:Int) (h:List UInt8) (hh:h.length=512) (T0:TwoAt w0 w b c m0 s np lp gv ov a e (.slice none 0 0) w) (h83:e.kind=83) (hz:(holesR s h a).1=0) (ha2:(holesR s h a).2.2.2≤s.length) (hq:(takeF s (holesR s h a).2.2.2 n 14240).1=0) (hj:Px.getL M majorK≠[49]) :
  Calls Tryz.prog 135 #[.pointer (some ⟨b,0,none⟩),.pointer (some ⟨c,0,none⟩),.int .i64 n,.string (mkS h),rv] w (DataOut w0 w b c m0 s np lp gv ov (kindR s a e n h M)):=by
 have hK:kindR s a e n h M=dataR s (holesR s h a).2.2.2 { e with kind:=48,map:=(holesR s h a).2.1,size:=(holesR s h a).2.2.1 } n M:=by unfold kindR;rw [if_pos h83,if_neg (by rw [hz];simp)]
 obtain ⟨PQ,hPQ⟩:∃ q,holesR s h a=q:=⟨_,rfl⟩
 rw [hPQ] at hq hK hz ha2
 obtain ⟨p0,p1,p2,p3⟩:=PQ
 simp only at hq hK hz ha2
 subst hz
 obtain ⟨E,hE⟩:∃ E:EntL,{ e with kind:=48,map:=p1,size:=p2 }=E:=⟨_,rfl⟩
 rw [hE] at hK
 obtain ⟨TQ,hTQ⟩:∃ q,takeF s p3 n 14240=q:=⟨_,rfl⟩
 rw [hTQ] at hq
 have hKind:E.kind=48:=by rw [← hE]
 have fk:=row_free T0.ent 1
 have ck:=row_cell T0.ent 1 (.int .u8 (e.kind.toNat:Int)) rfl
 rw [h83,show ((83:UInt8).toNat:Int)=83 from rfl] at ck
 have HC:=Lib.hid C
 have HT0:=Lib.hid T0
 have HT1:=Lib.hid (T0.set C (i:=1) (x:=.int .u8 48) (e':={ e with kind:=48 }) (v':=.slice none 0 0) rfl (by show PcNew m0 w _ e.map;rw [hm];exact pcNew_nil _ _))
 have CP:=Lib.hid (fun W (hT:TwoAt w0 w b c m0 s np lp gv ov a { e with kind:=48 } (.slice none 0 0) W)=>readPieces_any b s { st with at_:=a } np lp gv ov h hh C.slen ha W (hT.rdrAt C))
 unfold PsOut at CP
 simp only at CP
 simp only [hPQ] at CP
 rw [show errV 0=.nilIface from rfl] at CP
 have hdl:TQ.2.1.length≤50000:=by
  rw [← hTQ]
  unfold takeF
  split
  ·simp
  ·split
   ·simp
   ·unfold sub;rw [List.length_take];omega
 have CT:=Lib.hid (fun v W (hT:TwoAt w0 w b c m0 s np lp gv ov p3 E v W)=>take_any s { st with at_:=p3 } b np lp gv ov n 14240 C.slen (by assumption) (by omega) W (hT.rdrAt C))
 simp only [hTQ] at CT
 obtain ⟨tk,td,ta⟩:=TQ
 simp only at CT hq hdl
 have hD:dataR s p3 E n M=(if tk≠0 then (tk,E,p3) else ((linedR E M td).1,(linedR E M td).2,ta)):=by unfold dataR;rw [hTQ]
 rw [hD] at hK
 subst hq
 rw [if_neg (by simp)] at hK
 rw [show errV 0=.nilIface from rfl] at CT
 have CG:=Lib.hid (fun v W (hT:TwoAt w0 w b c m0 s np lp gv ov ta { E with data:=td } v W)=>show Calls Tryz.prog 169 #[rv,.string ⟨#[71,78,85,46,115,112,97,114,115,101,46,109,97,106,111,114]⟩] W fun e W'=>e=.returned (.tuple #[.string (mkS (Px.getL M majorK)),.bool (!(Px.getL M majorK).isEmpty)])∧Below W.heap.size W W' from get_any M majorK (by have:=C.few;omega) m0 rv W (hT.recs C))
 have CR:=Lib.hid (fun v W (hT:TwoAt w0 w b c m0 s np lp gv ov ta { E with data:=td } v W)=>show Calls Tryz.prog 169 #[rv,.string ⟨#[71,78,85,46,115,112,97,114,115,101,46,114,101,97,108,115,105,122,101]⟩] W fun e W'=>e=.returned (.tuple #[.string (mkS (Px.getL M realK)),.bool (!(Px.getL M realK).isEmpty)])∧Below W.heap.size W W' from get_any M realK (by have:=C.few;omega) m0 rv W (hT.recs C))
 have CD:=Lib.hid (fun v W (hT:TwoAt w0 w b c m0 s np lp gv ov ta { E with data:=td } v W)=>decimal_any (Px.getL M realK) C.short W (hT.laid C))
 have hL:linedR E M td=(0,{ E with data:=td }):=by unfold linedR;rw [if_pos (.inl hj)]
 rw [hL] at hK
 have gj:((mkS (Px.getL M majorK)).toList != ([49]:List UInt8))=true:=by rw [text_ne];exact decide_eq_true hj
 have gj2:((mkS (Px.getL M majorK)).toList==([49]:List UInt8))=false:=by rw [text_is];exact decide_eq_false hj
 have HQ:=Lib.hid hK
 generalize Px.getL M majorK=GJ at *
 generalize Px.getL M realK=GR at *
 clear hK hD hTQ hdl C T0
 have HEE:=Lib.hid hE
 clear hE hKind hPQ
 go_enter Tryz.func135,Tryz.ntmps135
 go_upto_region 7 with fail
 clear ck fk
 generalize (World.setCell w ⟨c,1,none⟩ (.int .u8 48))=w1 at *
 have c14:=row_cell HT1.out.ent 14 (.slice none 0 0) rfl
 have c5:=row_cell HT1.out.ent 5 (.int .i64 e.size) rfl
 go_upto_region 10 with (first
  |(go_at_call 168;(with_reducible refine (CP.out _ HT1.out).mono ?_);rintro r w2 ⟨pv,pa,pz,rfl,g1,g2,g3,g4⟩;obtain ⟨pad,pk,pcap,hpv⟩:=g1.shape;subst hpv;have HT2:=Lib.hid (HT1.out.took HC.out g3 g4);have HG:=Lib.hid (And.intro (g1.mono (Nat.le_trans HC.out.mw HT1.out.bar.size)) g2);clear g1 g2 g3 g4 c14 c5;have c14:=row_cell HT2.out.ent 14 (.slice none 0 0) rfl;have f14:=row_free HT2.out.ent 14;have c5:=row_cell HT2.out.ent 5 (.int .i64 e.size) rfl;have f5:=row_free HT2.out.ent 5)
  | fail)
 have T3:=HT2.out.set HC.out (i:=14) (x:=(.slice pad pk pcap)) (e':={ e with kind:=48,map:=p1 }) (v':=(.slice pad pk pcap)) rfl HG.out.1
 have T4:=T3.set HC.out (i:=5) (x:=.int .i64 pz) (e':={ e with kind:=48,map:=p1,size:=pz }) (v':=(.slice pad pk pcap)) rfl T3.map
 obtain ⟨rfl,rfl⟩:=HG.out.2 (by trivial)
 have hE3:=HEE.out
 try simp only at hE3
 rw [hE3] at T4
 have HTa:=Lib.hid T4
 clear T3 T4 c14 f14 c5 f5 hE3
 generalize (World.setCell (World.setCell w2 ⟨c,14,none⟩ (.slice pad pk pcap)) ⟨c,5,none⟩ (.int .i64 _))=wa at *
 have cd:=row_cell HTa.out.ent 13 (.string (mkS E.data)) rfl
 go_upto_region 13 with (first
  |(go_at_call 84;(with_reducible refine (CT.out _ _ HTa.out).mono ?_);rintro r wb ⟨rfl,g1,g2⟩;have HTb:=Lib.hid (HTa.out.took HC.out g1 g2);clear g1 g2 cd;have cd:=row_cell HTb.out.ent 13 (.string (mkS E.data)) rfl;have fd:=row_free HTb.out.ent 13)
  | fail)
 have HTc:=Lib.hid (HTb.out.set HC.out (i:=13) (x:=.string (mkS td)) (e':={ E with data:=td }) (v':=(.slice pad pk pcap)) rfl HTb.out.map)
 clear cd fd
 generalize (World.setCell wb ⟨c,13,none⟩ (.string (mkS td)))=wc at *
 go_wp2_with (first
  |(go_at_call 169;(with_reducible refine (CG.out _ _ HTc.out).mono ?_);rintro r wd ⟨rfl,g⟩;have HTd:=Lib.hid (HTc.out.next HC.out g);clear g;have c1:=row_cell HTd.out.ent 1 (.int .u8 (E.kind.toNat:Int)) rfl;have c5:=row_cell HTd.out.ent 5 (.int .i64 E.size) rfl)
  | fail)
 first|go_ret2|go_ret
 exact ⟨by rw [HQ.out];rfl,HTd.out.base,HTd.out.bar,fun _=>⟨_,by rw [HQ.out];exact HTd.out⟩⟩
set_option maxRecDepth 100000 in
set_option maxHeartbeats 8000000 in
theorem data_holes_real {w0 w:World} {b c m0:Nat} {s:List UInt8} {st:RSt} {np lp:Option Addr} {gv ov rv:Value} {M:List PrL} (C:DCtx w0 w b c m0 s st np lp gv ov rv M) (a:Nat) (ha:a≤s.length) (e:EntL) (hm:e.map=[]) (n:Int) (h:List UInt8) (hh:h.length=512) (T0:TwoAt w0 w b c m0 s np lp gv ov a e (.slice none 0 0) w) (h83:e.kind=83) (hz:(holesR s h a).1=0) (ha2:(holesR s h a).2.2.2≤s.length) (hq:(takeF s (holesR s h a).2.2.2 n 14240).1=0) (hj:Px.getL M majorK=[49]) (hr:(smallF (Px.getL M realK)).1≠0) :
  Calls Tryz.prog 135 #[.pointer (some ⟨b,0,none⟩),.pointer (some ⟨c,0,none⟩),.int .i64 n,.string (mkS h),rv] w (DataOut w0 w b c m0 s np lp gv ov (kindR s a e n h M)):=by
 have hK:kindR s a e n h M=dataR s (holesR s h a).2.2.2 { e with kind:=48,map:=(holesR s h a).2.1,size:=(holesR s h a).2.2.1 } n M:=by unfold kindR;rw [if_pos h83,if_neg (by rw [hz];simp)]
 obtain ⟨PQ,hPQ⟩:∃ q,holesR s h a=q:=⟨_,rfl⟩
 rw [hPQ] at hq hK hz ha2
 obtain ⟨p0,p1,p2,p3⟩:=PQ
 simp only at hq hK hz ha2
 subst hz
 obtain ⟨E,hE⟩:∃ E:EntL,{ e with kind:=48,map:=p1,size:=p2 }=E:=⟨_,rfl⟩
 rw [hE] at hK
 obtain ⟨TQ,hTQ⟩:∃ q,takeF s p3 n 14240=q:=⟨_,rfl⟩
 rw [hTQ] at hq
 have hKind:E.kind=48:=by rw [← hE]
 have fk:=row_free T0.ent 1
 have ck:=row_cell T0.ent 1 (.int .u8 (e.kind.toNat:Int)) rfl
 rw [h83,show ((83:UInt8).toNat:Int)=83 from rfl] at ck
 have HC:=Lib.hid C
 have HT0:=Lib.hid T0
 have HT1:=Lib.hid (T0.set C (i:=1) (x:=.int .u8 48) (e':={ e with kind:=48 }) (v':=.slice none 0 0) rfl (by show PcNew m0 w _ e.map;rw [hm];exact pcNew_nil _ _))
 have CP:=Lib.hid (fun W (hT:TwoAt w0 w b c m0 s np lp gv ov a { e with kind:=48 } (.slice none 0 0) W)=>readPieces_any b s { st with at_:=a } np lp gv ov h hh C.slen ha W (hT.rdrAt C))
 unfold PsOut at CP
 simp only at CP
 simp only [hPQ] at CP
 rw [show errV 0=.nilIface from rfl] at CP
 have hdl:TQ.2.1.length≤50000:=by
  rw [← hTQ]
  unfold takeF
  split
  ·simp
  ·split
   ·simp
   ·unfold sub;rw [List.length_take];omega
 have CT:=Lib.hid (fun v W (hT:TwoAt w0 w b c m0 s np lp gv ov p3 E v W)=>take_any s { st with at_:=p3 } b np lp gv ov n 14240 C.slen (by assumption) (by omega) W (hT.rdrAt C))
 simp only [hTQ] at CT
 obtain ⟨tk,td,ta⟩:=TQ
 simp only at CT hq hdl
 have hD:dataR s p3 E n M=(if tk≠0 then (tk,E,p3) else ((linedR E M td).1,(linedR E M td).2,ta)):=by unfold dataR;rw [hTQ]
 rw [hD] at hK
 subst hq
 rw [if_neg (by simp)] at hK
 rw [show errV 0=.nilIface from rfl] at CT
 have CG:=Lib.hid (fun v W (hT:TwoAt w0 w b c m0 s np lp gv ov ta { E with data:=td } v W)=>show Calls Tryz.prog 169 #[rv,.string ⟨#[71,78,85,46,115,112,97,114,115,101,46,109,97,106,111,114]⟩] W fun e W'=>e=.returned (.tuple #[.string (mkS (Px.getL M majorK)),.bool (!(Px.getL M majorK).isEmpty)])∧Below W.heap.size W W' from get_any M majorK (by have:=C.few;omega) m0 rv W (hT.recs C))
 have CR:=Lib.hid (fun v W (hT:TwoAt w0 w b c m0 s np lp gv ov ta { E with data:=td } v W)=>show Calls Tryz.prog 169 #[rv,.string ⟨#[71,78,85,46,115,112,97,114,115,101,46,114,101,97,108,115,105,122,101]⟩] W fun e W'=>e=.returned (.tuple #[.string (mkS (Px.getL M realK)),.bool (!(Px.getL M realK).isEmpty)])∧Below W.heap.size W W' from get_any M realK (by have:=C.few;omega) m0 rv W (hT.recs C))
 have CD:=Lib.hid (fun v W (hT:TwoAt w0 w b c m0 s np lp gv ov ta { E with data:=td } v W)=>decimal_any (Px.getL M realK) C.short W (hT.laid C))
 have gj:((mkS (Px.getL M majorK)).toList != ([49]:List UInt8))=false:=by rw [text_ne];exact decide_eq_false (by simpa using hj)
 have gj2:((mkS (Px.getL M majorK)).toList==([49]:List UInt8))=true:=by rw [text_is];exact decide_eq_true hj
 have hE48:E.kind=48:=hKind
 have g48:((E.kind.toNat:Int)==48)=true:=(u8_at E.kind 48 (by omega)).trans (by rw [hE48];rfl)
 have g48n:((E.kind.toNat:Int) != 48)=false:=by rw [bne,g48];rfl
 have hL:linedR E M td=if (smallF (Px.getL M realK)).1≠0 then ((smallF (Px.getL M realK)).1,E) else ((newMapR td).1,{ E with size:=(smallF (Px.getL M realK)).2,map:=(newMapR td).2.1,data:=(newMapR td).2.2 }):=by unfold linedR;rw [if_neg (by rintro (h|h);exact h hj;exact h hE48)]
 rw [hL] at hK
 generalize smallF (Px.getL M realK)=SQ at *
 obtain ⟨sk,sn⟩:=SQ
 simp only at CD hr hK
 rw [if_pos hr] at hK
 rw [show errV sk=.iface 68 (.int .i64 sk) from if_neg hr] at CD
 have HQ:=Lib.hid (And.intro hK hr)
 generalize Px.getL M majorK=GJ at *
 generalize Px.getL M realK=GR at *
 clear hK hD hTQ hdl C T0 hE48 hj
 have HEE:=Lib.hid hE
 clear hE hKind hPQ
 go_enter Tryz.func135,Tryz.ntmps135
 go_upto_region 7 with fail
 clear ck fk
 generalize (World.setCell w ⟨c,1,none⟩ (.int .u8 48))=w1 at *
 have c14:=row_cell HT1.out.ent 14 (.slice none 0 0) rfl
 have c5:=row_cell HT1.out.ent 5 (.int .i64 e.size) rfl
 go_upto_region 10 with (first
  |(go_at_call 168;(with_reducible refine (CP.out _ HT1.out).mono ?_);rintro r w2 ⟨pv,pa,pz,rfl,g1,g2,g3,g4⟩;obtain ⟨pad,pk,pcap,hpv⟩:=g1.shape;subst hpv;have HT2:=Lib.hid (HT1.out.took HC.out g3 g4);have HG:=Lib.hid (And.intro (g1.mono (Nat.le_trans HC.out.mw HT1.out.bar.size)) g2);clear g1 g2 g3 g4 c14 c5;have c14:=row_cell HT2.out.ent 14 (.slice none 0 0) rfl;have f14:=row_free HT2.out.ent 14;have c5:=row_cell HT2.out.ent 5 (.int .i64 e.size) rfl;have f5:=row_free HT2.out.ent 5)
  | fail)
 have T3:=HT2.out.set HC.out (i:=14) (x:=(.slice pad pk pcap)) (e':={ e with kind:=48,map:=p1 }) (v':=(.slice pad pk pcap)) rfl HG.out.1
 have T4:=T3.set HC.out (i:=5) (x:=.int .i64 pz) (e':={ e with kind:=48,map:=p1,size:=pz }) (v':=(.slice pad pk pcap)) rfl T3.map
 obtain ⟨rfl,rfl⟩:=HG.out.2 (by trivial)
 have hE3:=HEE.out
 try simp only at hE3
 rw [hE3] at T4
 have HTa:=Lib.hid T4
 clear T3 T4 c14 f14 c5 f5 hE3
 generalize (World.setCell (World.setCell w2 ⟨c,14,none⟩ (.slice pad pk pcap)) ⟨c,5,none⟩ (.int .i64 _))=wa at *
 have cd:=row_cell HTa.out.ent 13 (.string (mkS E.data)) rfl
 go_upto_region 13 with (first
  |(go_at_call 84;(with_reducible refine (CT.out _ _ HTa.out).mono ?_);rintro r wb ⟨rfl,g1,g2⟩;have HTb:=Lib.hid (HTa.out.took HC.out g1 g2);clear g1 g2 cd;have cd:=row_cell HTb.out.ent 13 (.string (mkS E.data)) rfl;have fd:=row_free HTb.out.ent 13)
  | fail)
 have HTc:=Lib.hid (HTb.out.set HC.out (i:=13) (x:=.string (mkS td)) (e':={ E with data:=td }) (v':=(.slice pad pk pcap)) rfl HTb.out.map)
 clear cd fd
 generalize (World.setCell wb ⟨c,13,none⟩ (.string (mkS td)))=wc at *
 go_wp2_with (first
  |(go_at_call 169;(with_reducible refine (CG.out _ _ HTc.out).mono ?_);rintro r wd ⟨rfl,g⟩;have HTd:=Lib.hid (HTc.out.next HC.out g);clear g;have c1:=row_cell HTd.out.ent 1 (.int .u8 (E.kind.toNat:Int)) rfl;have c5:=row_cell HTd.out.ent 5 (.int .i64 E.size) rfl)
  |(go_at_call 169;(with_reducible refine (CR.out _ _ HTd.out).mono ?_);rintro r we ⟨rfl,g⟩;have HTe:=Lib.hid (HTd.out.next HC.out g);clear g c1 c5;have c5:=row_cell HTe.out.ent 5 (.int .i64 E.size) rfl)
  |(go_at_call 167;(with_reducible refine (CD.out _ _ HTe.out).mono ?_);rintro r wf ⟨rfl,g⟩;have HTf:=Lib.hid (HTe.out.next HC.out g);clear g c5;have c5:=row_cell HTf.out.ent 5 (.int .i64 E.size) rfl;have f5:=row_free HTf.out.ent 5)
  | fail)
 first|go_ret2|go_ret
 exact dataOut_bad sk HQ.out.2 (by rw [HQ.out.1]) (HTf.out.set HC.out (i:=5) (x:=.int .i64 sn) (e':={ E with data:=td,size:=sn }) (v':=(.slice pad pk pcap)) rfl HTf.out.map)
set_option maxRecDepth 100000 in
set_option maxHeartbeats 8000000 in
theorem data_holes_lines {w0 w:World} {b c m0:Nat} {s:List UInt8} {st:RSt} {np lp:Option Addr} {gv ov rv:Value} {M:List PrL} (C:DCtx w0 w b c m0 s st np lp gv ov rv M) (a:Nat) (ha:a≤s.length) (e:EntL) (hm:e.map=[]) (n:Int) (h:List UInt8) (hh:h.length=512) (T0:TwoAt w0 w b c m0 s np lp gv ov a e (.slice none 0 0) w) (h83:e.kind=83) (hz:(holesR s h a).1=0) (ha2:(holesR s h a).2.2.2≤s.length) (hq:(takeF s (holesR s h a).2.2.2 n 14240).1=0) (hj:Px.getL M majorK=[49]) (hr:(smallF (Px.getL M realK)).1=0) :
  Calls Tryz.prog 135 #[.pointer (some ⟨b,0,none⟩),.pointer (some ⟨c,0,none⟩),.int .i64 n,.string (mkS h),rv] w (DataOut w0 w b c m0 s np lp gv ov (kindR s a e n h M)):=by
 have hK:kindR s a e n h M=dataR s (holesR s h a).2.2.2 { e with kind:=48,map:=(holesR s h a).2.1,size:=(holesR s h a).2.2.1 } n M:=by unfold kindR;rw [if_pos h83,if_neg (by rw [hz];simp)]
 obtain ⟨PQ,hPQ⟩:∃ q,holesR s h a=q:=⟨_,rfl⟩
 rw [hPQ] at hq hK hz ha2
 obtain ⟨p0,p1,p2,p3⟩:=PQ
 simp only at hq hK hz ha2
 subst hz
 obtain ⟨E,hE⟩:∃ E:EntL,{ e with kind:=48,map:=p1,size:=p2 }=E:=⟨_,rfl⟩
 rw [hE] at hK
 obtain ⟨TQ,hTQ⟩:∃ q,takeF s p3 n 14240=q:=⟨_,rfl⟩
 rw [hTQ] at hq
 have hKind:E.kind=48:=by rw [← hE]
 have fk:=row_free T0.ent 1
 have ck:=row_cell T0.ent 1 (.int .u8 (e.kind.toNat:Int)) rfl
 rw [h83,show ((83:UInt8).toNat:Int)=83 from rfl] at ck
 have HC:=Lib.hid C
 have HT0:=Lib.hid T0
 have HT1:=Lib.hid (T0.set C (i:=1) (x:=.int .u8 48) (e':={ e with kind:=48 }) (v':=.slice none 0 0) rfl (by show PcNew m0 w _ e.map;rw [hm];exact pcNew_nil _ _))
 have CP:=Lib.hid (fun W (hT:TwoAt w0 w b c m0 s np lp gv ov a { e with kind:=48 } (.slice none 0 0) W)=>readPieces_any b s { st with at_:=a } np lp gv ov h hh C.slen ha W (hT.rdrAt C))
 unfold PsOut at CP
 simp only at CP
 simp only [hPQ] at CP
 rw [show errV 0=.nilIface from rfl] at CP
 have hdl:TQ.2.1.length≤50000:=by
  rw [← hTQ]
  unfold takeF
  split
  ·simp
  ·split
   ·simp
   ·unfold sub;rw [List.length_take];omega
 have CT:=Lib.hid (fun v W (hT:TwoAt w0 w b c m0 s np lp gv ov p3 E v W)=>take_any s { st with at_:=p3 } b np lp gv ov n 14240 C.slen (by assumption) (by omega) W (hT.rdrAt C))
 simp only [hTQ] at CT
 obtain ⟨tk,td,ta⟩:=TQ
 simp only at CT hq hdl
 have hD:dataR s p3 E n M=(if tk≠0 then (tk,E,p3) else ((linedR E M td).1,(linedR E M td).2,ta)):=by unfold dataR;rw [hTQ]
 rw [hD] at hK
 subst hq
 rw [if_neg (by simp)] at hK
 rw [show errV 0=.nilIface from rfl] at CT
 have CG:=Lib.hid (fun v W (hT:TwoAt w0 w b c m0 s np lp gv ov ta { E with data:=td } v W)=>show Calls Tryz.prog 169 #[rv,.string ⟨#[71,78,85,46,115,112,97,114,115,101,46,109,97,106,111,114]⟩] W fun e W'=>e=.returned (.tuple #[.string (mkS (Px.getL M majorK)),.bool (!(Px.getL M majorK).isEmpty)])∧Below W.heap.size W W' from get_any M majorK (by have:=C.few;omega) m0 rv W (hT.recs C))
 have CR:=Lib.hid (fun v W (hT:TwoAt w0 w b c m0 s np lp gv ov ta { E with data:=td } v W)=>show Calls Tryz.prog 169 #[rv,.string ⟨#[71,78,85,46,115,112,97,114,115,101,46,114,101,97,108,115,105,122,101]⟩] W fun e W'=>e=.returned (.tuple #[.string (mkS (Px.getL M realK)),.bool (!(Px.getL M realK).isEmpty)])∧Below W.heap.size W W' from get_any M realK (by have:=C.few;omega) m0 rv W (hT.recs C))
 have CD:=Lib.hid (fun v W (hT:TwoAt w0 w b c m0 s np lp gv ov ta { E with data:=td } v W)=>decimal_any (Px.getL M realK) C.short W (hT.laid C))
 have CL:=Lib.hid (fun (E2:EntL) v W (hT:TwoAt w0 w b c m0 s np lp gv ov ta E2 v W)=>readLines_any td hdl W (hT.laid C))
 unfold LinesOut at CL
 have gj:((mkS (Px.getL M majorK)).toList != ([49]:List UInt8))=false:=by rw [text_ne];exact decide_eq_false (by simpa using hj)
 have gj2:((mkS (Px.getL M majorK)).toList==([49]:List UInt8))=true:=by rw [text_is];exact decide_eq_true hj
 have hE48:E.kind=48:=hKind
 have g48:((E.kind.toNat:Int)==48)=true:=(u8_at E.kind 48 (by omega)).trans (by rw [hE48];rfl)
 have g48n:((E.kind.toNat:Int) != 48)=false:=by rw [bne,g48];rfl
 have hL:linedR E M td=if (smallF (Px.getL M realK)).1≠0 then ((smallF (Px.getL M realK)).1,E) else ((newMapR td).1,{ E with size:=(smallF (Px.getL M realK)).2,map:=(newMapR td).2.1,data:=(newMapR td).2.2 }):=by unfold linedR;rw [if_neg (by rintro (h|h);exact h hj;exact h hE48)]
 rw [hL] at hK
 generalize smallF (Px.getL M realK)=SQ at *
 obtain ⟨sk,sn⟩:=SQ
 simp only at CD hr hK
 subst hr
 rw [if_neg (by simp)] at hK
 rw [show errV 0=.nilIface from rfl] at CD
 generalize newMapR td=NQ at *
 obtain ⟨nk,nm,nd⟩:=NQ
 simp only at CL hK
 have HQ:=Lib.hid hK
 generalize Px.getL M majorK=GJ at *
 generalize Px.getL M realK=GR at *
 clear hK hD hTQ hdl C T0 hE48 hj
 have HEE:=Lib.hid hE
 clear hE hKind hPQ
 go_enter Tryz.func135,Tryz.ntmps135
 go_upto_region 7 with fail
 clear ck fk
 generalize (World.setCell w ⟨c,1,none⟩ (.int .u8 48))=w1 at *
 have c14:=row_cell HT1.out.ent 14 (.slice none 0 0) rfl
 have c5:=row_cell HT1.out.ent 5 (.int .i64 e.size) rfl
 go_upto_region 10 with (first
  |(go_at_call 168;(with_reducible refine (CP.out _ HT1.out).mono ?_);rintro r w2 ⟨pv,pa,pz,rfl,g1,g2,g3,g4⟩;obtain ⟨pad,pk,pcap,hpv⟩:=g1.shape;subst hpv;have HT2:=Lib.hid (HT1.out.took HC.out g3 g4);have HG:=Lib.hid (And.intro (g1.mono (Nat.le_trans HC.out.mw HT1.out.bar.size)) g2);clear g1 g2 g3 g4 c14 c5;have c14:=row_cell HT2.out.ent 14 (.slice none 0 0) rfl;have f14:=row_free HT2.out.ent 14;have c5:=row_cell HT2.out.ent 5 (.int .i64 e.size) rfl;have f5:=row_free HT2.out.ent 5)
  | fail)
 have T3:=HT2.out.set HC.out (i:=14) (x:=(.slice pad pk pcap)) (e':={ e with kind:=48,map:=p1 }) (v':=(.slice pad pk pcap)) rfl HG.out.1
 have T4:=T3.set HC.out (i:=5) (x:=.int .i64 pz) (e':={ e with kind:=48,map:=p1,size:=pz }) (v':=(.slice pad pk pcap)) rfl T3.map
 obtain ⟨rfl,rfl⟩:=HG.out.2 (by trivial)
 have hE3:=HEE.out
 try simp only at hE3
 rw [hE3] at T4
 have HTa:=Lib.hid T4
 clear T3 T4 c14 f14 c5 f5 hE3
 generalize (World.setCell (World.setCell w2 ⟨c,14,none⟩ (.slice pad pk pcap)) ⟨c,5,none⟩ (.int .i64 _))=wa at *
 have cd:=row_cell HTa.out.ent 13 (.string (mkS E.data)) rfl
 go_upto_region 13 with (first
  |(go_at_call 84;(with_reducible refine (CT.out _ _ HTa.out).mono ?_);rintro r wb ⟨rfl,g1,g2⟩;have HTb:=Lib.hid (HTa.out.took HC.out g1 g2);clear g1 g2 cd;have cd:=row_cell HTb.out.ent 13 (.string (mkS E.data)) rfl;have fd:=row_free HTb.out.ent 13)
  | fail)
 have HTc:=Lib.hid (HTb.out.set HC.out (i:=13) (x:=.string (mkS td)) (e':={ E with data:=td }) (v':=(.slice pad pk pcap)) rfl HTb.out.map)
 clear cd fd
 generalize (World.setCell wb ⟨c,13,none⟩ (.string (mkS td)))=wc at *
 go_upto_region 20 with (first
  |(go_at_call 169;(with_reducible refine (CG.out _ _ HTc.out).mono ?_);rintro r wd ⟨rfl,g⟩;have HTd:=Lib.hid (HTc.out.next HC.out g);clear g;have c1:=row_cell HTd.out.ent 1 (.int .u8 (E.kind.toNat:Int)) rfl;have c5:=row_cell HTd.out.ent 5 (.int .i64 E.size) rfl)
  |(go_at_call 169;(with_reducible refine (CR.out _ _ HTd.out).mono ?_);rintro r we ⟨rfl,g⟩;have HTe:=Lib.hid (HTd.out.next HC.out g);clear g c1 c5;have c5:=row_cell HTe.out.ent 5 (.int .i64 E.size) rfl)
  |(go_at_call 167;(with_reducible refine (CD.out _ _ HTe.out).mono ?_);rintro r wf ⟨rfl,g⟩;have HTf:=Lib.hid (HTe.out.next HC.out g);clear g c5;have c5:=row_cell HTf.out.ent 5 (.int .i64 E.size) rfl;have f5:=row_free HTf.out.ent 5)
  | fail)
 have HTg:=Lib.hid (HTf.out.set HC.out (i:=5) (x:=.int .i64 sn) (e':={ E with data:=td,size:=sn }) (v':=(.slice pad pk pcap)) rfl HTf.out.map)
 clear c5 f5
 generalize (World.setCell wf ⟨c,5,none⟩ (.int .i64 sn))=wg at *
 have c13:=row_cell HTg.out.ent 13 (.string (mkS td)) rfl
 go_wp2_with (first
  |(go_at_call 170;(with_reducible refine (CL.out _ _ _ HTg.out).mono ?_);rintro r wh ⟨⟨lv,rfl,g1⟩,g2⟩;obtain ⟨lad,lk,lcap,hlv⟩:=g1.shape;subst hlv;have HTh:=Lib.hid (HTg.out.next HC.out g2);have HG2:=Lib.hid (g1.mono (Nat.le_trans HC.out.mw HTg.out.bar.size));clear g1 g2 c13;have c14:=row_cell HTh.out.ent 14 (.slice pad pk pcap) rfl;have f14:=row_free HTh.out.ent 14;have c13:=row_cell HTh.out.ent 13 (.string (mkS td)) rfl;have f13:=row_free HTh.out.ent 13)
  | fail)
 first|go_ret2|go_ret
 have T3:=HTh.out.set HC.out (i:=14) (x:=(.slice lad lk lcap)) (e':={ E with data:=td,size:=sn,map:=nm }) (v':=(.slice lad lk lcap)) rfl HG2.out
 have T4:=T3.set HC.out (i:=13) (x:=.string (mkS nd)) (e':={ E with data:=nd,size:=sn,map:=nm }) (v':=(.slice lad lk lcap)) rfl T3.map
 exact ⟨by rw [HQ.out];first|done|rfl,T4.base,T4.bar,fun _=>⟨_,by rw [HQ.out];exact T4⟩⟩
theorem data_any {w0 w:World} {b c m0:Nat} {s:List UInt8} {st:RSt} {np lp:Option Addr} {gv ov rv:Value} {M:List PrL} (C:DCtx w0 w b c m0 s st np lp gv ov rv M) (a:Nat) (ha:a≤s.length) (e:EntL) (hm:e.map=[]) (n:Int) (h:List UInt8) (hh:h.length=512) (T0:TwoAt w0 w b c m0 s np lp gv ov a e (.slice none 0 0) w) (ha2:(holesR s h a).2.2.2≤s.length) :
  Calls Tryz.prog 135 #[.pointer (some ⟨b,0,none⟩),.pointer (some ⟨c,0,none⟩),.int .i64 n,.string (mkS h),rv] w (DataOut w0 w b c m0 s np lp gv ov (kindR s a e n h M)):=by
 by_cases h83:e.kind=83
 ·by_cases hz:(holesR s h a).1=0
  ·by_cases hq:(takeF s (holesR s h a).2.2.2 n 14240).1=0
   ·by_cases hj:Px.getL M majorK=[49]
    ·by_cases hr:(smallF (Px.getL M realK)).1=0
     ·exact data_holes_lines C a ha e hm n h hh T0 h83 hz ha2 hq hj hr
     ·exact data_holes_real C a ha e hm n h hh T0 h83 hz ha2 hq hj hr
    ·exact data_holes_major C a ha e hm n h hh T0 h83 hz ha2 hq hj
   ·exact data_holes_take C a ha e hm n h hh T0 h83 hz ha2 hq
  ·exact data_holes_hole C a ha e hm n h hh T0 h83 hz
 by_cases h55:e.kind=55
 ·by_cases hq:(takeF s a n 14240).1=0
  ·by_cases hj:Px.getL M majorK=[49]
   ·by_cases hr:(smallF (Px.getL M realK)).1=0
    ·exact data_seven_lines C a ha e hm n h hh T0 h55 hq hj hr
    ·exact data_seven_real C a ha e hm n h hh T0 h55 hq hj hr
   ·exact data_seven_major C a ha e hm n h hh T0 h55 hq hj
  ·exact data_seven_take C a ha e hm n h hh T0 h55 hq
 ·by_cases hq:(takeF s a n 14240).1=0
  ·by_cases hj:Px.getL M majorK=[49]
   ·by_cases hk:e.kind=48
    ·by_cases hr:(smallF (Px.getL M realK)).1=0
     ·exact data_plain_lines C a ha e hm n h hh T0 h55 h83 hq hj hr hk
     ·exact data_plain_real C a ha e hm n h hh T0 h55 h83 hq hj hr hk
    ·exact data_plain_kind C a ha e hm n h hh T0 h55 h83 hq hj hk
   ·exact data_plain_major C a ha e hm n h hh T0 h55 h83 hq hj
  ·exact data_plain_take C a ha e hm n h hh T0 h55 h83 hq
end Go.Proofs.YtdjcjaidklgamaaGreatDoor
end
