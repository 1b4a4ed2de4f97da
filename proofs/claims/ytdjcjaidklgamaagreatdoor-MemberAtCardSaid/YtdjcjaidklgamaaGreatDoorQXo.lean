import Derived.Test.YtdjcjaidklgamaaGreatDoorQXm
import Derived.Test.YtdjcjaidklgamaaGreatDoorQPc
set_option linter.unusedSimpArgs false
set_option linter.unusedVariables false
section
namespace Go.Proofs.YtdjcjaidklgamaaGreatDoor
open Go.RowKit Go.Shelf Go.Joins
def ErrIs (W:World) (ev:Value) (k:Int):Prop:=ev=.iface 68 (.int .i64 k)∨∃ pb,ev=.iface 85 (.pointer (some ⟨pb,0,none⟩))∧W.cell? ⟨pb,0,none⟩=some (.int .i64 k)
theorem ErrIs.below {W W':World} {ev:Value} {k:Int} (h:ErrIs W ev k) (hB:Below W.heap.size W W'):ErrIs W' ev k:=by
 rcases h with h|⟨pb,h1,h2⟩
 ·exact .inl h
 ·exact .inr ⟨pb,h1,(hB.cell (p:=⟨pb,0,none⟩) (block_lt_of_cell h2)).trans h2⟩
def Laid (W:World):Prop:=Px.PowLaid W∧Px.AtoiLaid W
theorem pread_any (d:List UInt8) (hd:d.length≤6000) (W:World) (hL:Laid W) :
  Calls Tryz.prog 131 #[.string (mkS d)] W fun e W'=>((∃ v,(recsR d).1=0∧e=.returned (.tuple #[v,.nilIface])∧Px.SliceIs W' v (recsR d).2) ∨
   (∃ pb,(recsR d).1≠0∧e=.returned (.tuple #[.slice none 0 0,.iface 85 (.pointer (some ⟨pb,0,none⟩))])∧W'.cell? ⟨pb,0,none⟩=some (.int .i64 (recsR d).1)))∧Below W.heap.size W W':=by
 refine (Px.read_any d hd (readM d) (readB d) (readM_is d) W hL.1 hL.2).mono fun e W' ⟨ho,hb⟩=>⟨?_,hb⟩
 unfold recsR
 rcases ho with ⟨h1,h2,ad,cap,h3,h4,h5⟩|⟨pb,er,at_,h1,h2,h3,h4⟩
 ·left
  rw [if_neg (by omega),h2,if_neg (by decide)]
  exact ⟨_,rfl,h4,ad,cap,rfl,h3,h5⟩
 ·right
  rcases h1 with ⟨k1,k2,rfl,_⟩|⟨k1,rfl,_⟩
  ·rw [if_neg (by omega),k2,if_pos rfl]
   exact ⟨pb,by simp,h2,h3⟩
  ·rw [if_pos k1]
   exact ⟨pb,by simp,h2,h3⟩
structure StOk (s:List UInt8) (st:RSt):Prop where
 at_:st.at_≤s.length
 lG:st.G.length≤900
 lO:st.O.length≤20
 tG:∀ p∈st.G,p.1.length≤1000∧p.2.length≤1000
 tO:∀ p∈st.O,p.1.length≤1000∧p.2.length≤1000
 nm:∀ x,st.nm=some x→x.length≤5000
 lk:∀ x,st.lk=some x→x.length≤5000
theorem recsR_ok (d:List UInt8):(recsR d).2.length≤20∧∀ p∈(recsR d).2,p.1.length≤200∧p.2.length≤200:=by
 unfold recsR
 split
 ·exact ⟨by simp,fun p h=>by cases h⟩
 ·split
  ·exact ⟨by simp,fun p h=>by cases h⟩
  ·refine ⟨by simp only;omega,fun p hp=>?_⟩
   have:=(Px.rightP_true p.1 p.2 ((readM_is d).1 p hp)).2.2
   exact ⟨by omega,by omega⟩
theorem mergeF_ne {L:List PrL} {p:PrL} (h:p∈mergeF L):p.2≠[]:=(((mergeF_is L).2 p).1 h).2
def AhOut (b:Nat) (s:List UInt8) (st:RSt) (gv:Value) (q:Nxt) (w:World) (r:Ending) (W:World):Prop :=
 Bar w.heap.size [b] w W∧((∃ k ev,q=.err k∧k≠0∧r=.returned ev∧ErrIs W ev k)∨(∃ st' np' lp' gv' ov',q=.ahead st'∧r=.returned .nilIface∧RdrAt W b s st' np' lp' gv' ov'∧((gv'=gv∧st'.G=st.G)∨∀ p∈st'.G,p.2≠[])))
theorem aheadR_take {s:List UInt8} {st:RSt} {r:RawL} (h:(takeF s st.at_ r.size 4000).1≠0):aheadR s st r=.err (takeF s st.at_ r.size 4000).1:=by unfold aheadR;simp only;rw [if_pos h]
theorem aheadR_long {s:List UInt8} {st:RSt} {r:RawL} (h:(takeF s st.at_ r.size 4000).1=0) (hk:r.kind=76):aheadR s st r=.ahead { st with at_:=(takeF s st.at_ r.size 4000).2.2,nm:=some (cutZ (takeF s st.at_ r.size 4000).2.1) }:=by
 unfold aheadR;simp only;rw [if_neg (by simpa using h),if_pos hk]
theorem aheadR_link {s:List UInt8} {st:RSt} {r:RawL} (h:(takeF s st.at_ r.size 4000).1=0) (hk:r.kind=75):aheadR s st r=.ahead { st with at_:=(takeF s st.at_ r.size 4000).2.2,lk:=some (cutZ (takeF s st.at_ r.size 4000).2.1) }:=by
 unfold aheadR;simp only;rw [if_neg (by simpa using h),if_neg (by rw [hk];decide),if_pos hk]
theorem aheadR_bad {s:List UInt8} {st:RSt} {r:RawL} (h:(takeF s st.at_ r.size 4000).1=0) (hk:r.kind=120∨r.kind=103) (hq:(recsR (takeF s st.at_ r.size 4000).2.1).1≠0):aheadR s st r=.err (recsR (takeF s st.at_ r.size 4000).2.1).1:=by
 unfold aheadR;simp only;rw [if_neg (by simpa using h),if_neg (by rcases hk with hk|hk <;> (rw [hk];decide)),if_neg (by rcases hk with hk|hk <;> (rw [hk];decide)),if_pos hq]
theorem aheadR_own {s:List UInt8} {st:RSt} {r:RawL} (h:(takeF s st.at_ r.size 4000).1=0) (hk:r.kind=120) (hq:(recsR (takeF s st.at_ r.size 4000).2.1).1=0):aheadR s st r=.ahead { st with at_:=(takeF s st.at_ r.size 4000).2.2,O:=(recsR (takeF s st.at_ r.size 4000).2.1).2 }:=by
 unfold aheadR;simp only;rw [if_neg (by simpa using h),if_neg (by rw [hk];decide),if_neg (by rw [hk];decide),if_neg (by simpa using hq),if_pos hk]
theorem aheadR_glob {s:List UInt8} {st:RSt} {r:RawL} (h:(takeF s st.at_ r.size 4000).1=0) (hk:r.kind=103) (hq:(recsR (takeF s st.at_ r.size 4000).2.1).1=0):aheadR s st r=.ahead { st with at_:=(takeF s st.at_ r.size 4000).2.2,G:=mergeF (st.G++(recsR (takeF s st.at_ r.size 4000).2.1).2) }:=by
 unfold aheadR;simp only;rw [if_neg (by simpa using h),if_neg (by rw [hk];decide),if_neg (by rw [hk];decide),if_neg (by simpa using hq),if_neg (by rw [hk];decide)]
theorem RdrAt.put {W:World} {b:Nat} {s:List UInt8} {st st':RSt} {np lp np' lp':Option Addr} {gv ov gv' ov':Value} (h:RdrAt W b s st np lp gv ov) (i:Nat) (x:Value) (hx:(rdrC s st.at_ np lp gv ov).setIfInBounds i x=rdrC s st'.at_ np' lp' gv' ov')
  (h1:TxtPtr W b np' st'.nm) (h2:TxtPtr W b lp' st'.lk) (h3:Px.SliceIs W gv' st'.G) (h4:Px.SliceIs W ov' st'.O):RdrAt (W.setCell ⟨b,i,none⟩ x) b s st' np' lp' gv' ov'∧Bar W.heap.size [b] W (W.setCell ⟨b,i,none⟩ x):=by
 have hB:=(Bar.refl W.heap.size [b] W).setCell (i:=i) (v:=x) h.row (.inl (by simp))
 have hX:∀ y∈[b],y<W.heap.size→y=b:=fun y hy _=>by simpa using hy
 refine ⟨⟨?_,h1.bar (n:=0) hB hX,h2.bar (n:=0) hB hX,h.slice hB hX h3,h.slice hB hX h4⟩,hB⟩
 rw [(setCell_row (i:=i) (v:=x) h.row).1,hx]
set_option maxRecDepth 100000 in
set_option maxHeartbeats 8000000 in
theorem ahead_take (b:Nat) (s:List UInt8) (st:RSt) (np lp:Option Addr) (gv ov:Value) (r:RawL) (hs:s.length≤100000) (ho:StOk s st) (w:World) (hR:RdrAt w b s st np lp gv ov) (hL:∀ W,Bar w.heap.size [b] w W→Laid W) (h0:(takeF s st.at_ r.size 4000).1≠0) :
  Calls Tryz.prog 86 #[.pointer (some ⟨b,0,none⟩),rawV r] w (AhOut b s st gv (aheadR s st r) w):=by
 have hq:=aheadR_take h0
 rw [hq]
 have hB1:=below_alloc1 w (.cells (rawC r) 117)
 have HB1:=Lib.hid hB1
 have HR1:=Lib.hid (hR.below hB1)
 have HW1:=Lib.hid (heap_alloc_new w (.cells (rawC r) 117))
 have CT:=Lib.hid (take_any s st b np lp gv ov r.size 4000 hs ho.at_ (by omega) _ (hR.below hB1))
 have hdl:=(takeF_ok s st.at_ r.size 4000 ho.at_ (by omega)).2.2.2
 have HLt:=Lib.hid hR.lt
 have HO:=Lib.hid ho
 have HL:=Lib.hid hL
 generalize takeF s st.at_ r.size 4000=TQ at *
 obtain ⟨tk,td,ta⟩:=TQ
 simp only at CT hdl h0 hq
 have k9:=row_cell HW1.out 9 (.int .i64 r.size) rfl
 have k5:=row_cell HW1.out 5 (.int .u8 (r.kind.toNat:Int)) rfl
 rw [show errV tk=.iface 68 (.int .i64 tk) from if_neg h0] at CT
 have H0:=Lib.hid h0
 clear h0 hR hL ho hq hB1 hdl
 unfold rawV
 unfold rawC at HB1 HR1 HW1 CT k9 k5
 go_enter Tryz.func86,Tryz.ntmps86
 go_wp2_with (first
  |(go_at_call 84;(with_reducible refine CT.out.mono ?_);rintro q w2 ⟨rfl,g1,g2⟩;have HR2:=Lib.hid g1;have HB2:=Lib.hid (((Bar.of_below HB1.out).trans (g2.cut HB1.out.size):Bar w.heap.size [b] w w2));have HW2:=Lib.hid (g2.row HW1.out (Array.getElem?_eq_some_iff.1 HW1.out).1 (by have:=HLt.out;simp;omega));clear g1 g2 k9 k5;have k5:=row_cell HW2.out 5 (.int .u8 (r.kind.toNat:Int)) rfl)
  | fail)
 first|go_ret2|go_ret
 exact ⟨HB2.out,.inl ⟨tk,_,rfl,H0.out,rfl,.inl rfl⟩⟩
set_option maxRecDepth 100000 in
set_option maxHeartbeats 8000000 in
theorem ahead_long (b:Nat) (s:List UInt8) (st:RSt) (np lp:Option Addr) (gv ov:Value) (r:RawL) (hs:s.length≤100000) (ho:StOk s st) (w:World) (hR:RdrAt w b s st np lp gv ov) (hL:∀ W,Bar w.heap.size [b] w W→Laid W) (h0:(takeF s st.at_ r.size 4000).1=0) (hk:r.kind=76) :
  Calls Tryz.prog 86 #[.pointer (some ⟨b,0,none⟩),rawV r] w (AhOut b s st gv (aheadR s st r) w):=by
 have hq:=aheadR_long h0 hk
 rw [hq]
 have hB1:=below_alloc1 w (.cells (rawC r) 117)
 have HB1:=Lib.hid hB1
 have HR1:=Lib.hid (hR.below hB1)
 have HW1:=Lib.hid (heap_alloc_new w (.cells (rawC r) 117))
 have CT:=Lib.hid (take_any s st b np lp gv ov r.size 4000 hs ho.at_ (by omega) _ (hR.below hB1))
 have hdl:=(takeF_ok s st.at_ r.size 4000 ho.at_ (by omega)).2.2.2
 have HLt:=Lib.hid hR.lt
 have HO:=Lib.hid ho
 have HL:=Lib.hid hL
 generalize takeF s st.at_ r.size 4000=TQ at *
 obtain ⟨tk,td,ta⟩:=TQ
 simp only at CT hdl h0 hq
 have k9:=row_cell HW1.out 9 (.int .i64 r.size) rfl
 have k5:=row_cell HW1.out 5 (.int .u8 (r.kind.toNat:Int)) rfl
 subst h0
 rw [show errV 0=.nilIface from rfl] at CT
 have hdl:td.length≤4000:=by omega
 rw [hk,show ((76:UInt8).toNat:Int)=76 from rfl] at k5
 have HK:=Lib.hid hk
 have HDL:=Lib.hid hdl
 clear hk hR hL ho hq hB1 hdl
 unfold rawV
 unfold rawC at HB1 HR1 HW1 CT k9 k5
 have CC:=Lib.hid (fun W=>cut_any td (by have:=HDL.out;omega) W)
 unfold CutIs at CC
 generalize hcz:cutZ td=cz at *
 have HCZ:=Lib.hid hcz
 clear hcz
 go_enter Tryz.func86,Tryz.ntmps86
 go_upto_region 8 with (first
  |(go_at_call 84;(with_reducible refine CT.out.mono ?_);rintro q w2 ⟨rfl,g1,g2⟩;have HR2:=Lib.hid g1;have HB2:=Lib.hid (((Bar.of_below HB1.out).trans (g2.cut HB1.out.size):Bar w.heap.size [b] w w2));have HW2:=Lib.hid (g2.row HW1.out (Array.getElem?_eq_some_iff.1 HW1.out).1 (by have:=HLt.out;simp;omega));clear g1 g2 k9 k5;have k5:=row_cell HW2.out 5 (.int .u8 76) (by rw [HK.out];rfl))
  |(go_at_call 127;(with_reducible refine (CC.out _).mono ?_);rintro q w3 ⟨cx,cb,rfl,g⟩;have HB3:=Lib.hid (HB2.out.trans (Bar.of_below (g.mono HB2.out.size)));have HR3:=Lib.hid (HR2.out.below g);have HW3:=Lib.hid ((g.block _ (Array.getElem?_eq_some_iff.1 HW2.out).1).trans HW2.out);clear g k5)
  | fail)
 have hb3:=(Below.refl w3.heap.size w3).alloc (Nat.le_refl _) (.cells #[.string (mkS cz)] 9)
 have HB5:=Lib.hid (HB3.out.trans (Bar.of_below (hb3.mono HB3.out.size)))
 have HR5:=Lib.hid (HR3.out.below hb3)
 have HW5:=Lib.hid ((hb3.block _ (Array.getElem?_eq_some_iff.1 HW3.out).1).trans HW3.out)
 have HP5:=Lib.hid (show TxtPtr (w3.alloc (.cells #[.string (mkS cz)] 9)) b (some ⟨w3.heap.size,0,none⟩) (some cz) from .inr ⟨w3.heap.size,cz,rfl,rfl,by simp,by have:=HR3.out.lt;omega,heap_alloc_new w3 _⟩)
 clear hb3
 generalize (w3.alloc (.cells #[.string (mkS cz)] 9))=w5 at *
 have k5:=row_cell HW5.out 5 (.int .u8 76) (by rw [HK.out];rfl)
 have kc:=row_cell HR5.out.row 2 (.pointer np) rfl
 have fc:=row_free HR5.out.row 2
 go_wp2_with fail
 first|go_ret2|go_ret
 have hp:=HR5.out.put 2 (.pointer (some ⟨w3.heap.size,0,none⟩)) (st':={ st with at_:=ta,nm:=some (cz) }) (np':=some ⟨w3.heap.size,0,none⟩) (lp':=lp) (gv':=gv) (ov':=ov) rfl HP5.out HR5.out.lk HR5.out.g HR5.out.o
 exact ⟨HB5.out.trans (hp.2.cut HB5.out.size),.inr ⟨_,_,_,_,_,rfl,rfl,hp.1,.inl ⟨rfl,rfl⟩⟩⟩
set_option maxRecDepth 100000 in
set_option maxHeartbeats 8000000 in
theorem ahead_link (b:Nat) (s:List UInt8) (st:RSt) (np lp:Option Addr) (gv ov:Value) (r:RawL) (hs:s.length≤100000) (ho:StOk s st) (w:World) (hR:RdrAt w b s st np lp gv ov) (hL:∀ W,Bar w.heap.size [b] w W→Laid W) (h0:(takeF s st.at_ r.size 4000).1=0) (hk:r.kind=75) :
  Calls Tryz.prog 86 #[.pointer (some ⟨b,0,none⟩),rawV r] w (AhOut b s st gv (aheadR s st r) w):=by
 have hq:=aheadR_link h0 hk
 rw [hq]
 have hB1:=below_alloc1 w (.cells (rawC r) 117)
 have HB1:=Lib.hid hB1
 have HR1:=Lib.hid (hR.below hB1)
 have HW1:=Lib.hid (heap_alloc_new w (.cells (rawC r) 117))
 have CT:=Lib.hid (take_any s st b np lp gv ov r.size 4000 hs ho.at_ (by omega) _ (hR.below hB1))
 have hdl:=(takeF_ok s st.at_ r.size 4000 ho.at_ (by omega)).2.2.2
 have HLt:=Lib.hid hR.lt
 have HO:=Lib.hid ho
 have HL:=Lib.hid hL
 generalize takeF s st.at_ r.size 4000=TQ at *
 obtain ⟨tk,td,ta⟩:=TQ
 simp only at CT hdl h0 hq
 have k9:=row_cell HW1.out 9 (.int .i64 r.size) rfl
 have k5:=row_cell HW1.out 5 (.int .u8 (r.kind.toNat:Int)) rfl
 subst h0
 rw [show errV 0=.nilIface from rfl] at CT
 have hdl:td.length≤4000:=by omega
 rw [hk,show ((75:UInt8).toNat:Int)=75 from rfl] at k5
 have HK:=Lib.hid hk
 have HDL:=Lib.hid hdl
 clear hk hR hL ho hq hB1 hdl
 unfold rawV
 unfold rawC at HB1 HR1 HW1 CT k9 k5
 have CC:=Lib.hid (fun W=>cut_any td (by have:=HDL.out;omega) W)
 unfold CutIs at CC
 generalize hcz:cutZ td=cz at *
 have HCZ:=Lib.hid hcz
 clear hcz
 go_enter Tryz.func86,Tryz.ntmps86
 go_upto_region 8 with (first
  |(go_at_call 84;(with_reducible refine CT.out.mono ?_);rintro q w2 ⟨rfl,g1,g2⟩;have HR2:=Lib.hid g1;have HB2:=Lib.hid (((Bar.of_below HB1.out).trans (g2.cut HB1.out.size):Bar w.heap.size [b] w w2));have HW2:=Lib.hid (g2.row HW1.out (Array.getElem?_eq_some_iff.1 HW1.out).1 (by have:=HLt.out;simp;omega));clear g1 g2 k9 k5;have k5:=row_cell HW2.out 5 (.int .u8 75) (by rw [HK.out];rfl))
  |(go_at_call 127;(with_reducible refine (CC.out _).mono ?_);rintro q w3 ⟨cx,cb,rfl,g⟩;have HB3:=Lib.hid (HB2.out.trans (Bar.of_below (g.mono HB2.out.size)));have HR3:=Lib.hid (HR2.out.below g);have HW3:=Lib.hid ((g.block _ (Array.getElem?_eq_some_iff.1 HW2.out).1).trans HW2.out);clear g k5)
  | fail)
 have hb3:=(Below.refl w3.heap.size w3).alloc (Nat.le_refl _) (.cells #[.string (mkS cz)] 9)
 have HB5:=Lib.hid (HB3.out.trans (Bar.of_below (hb3.mono HB3.out.size)))
 have HR5:=Lib.hid (HR3.out.below hb3)
 have HW5:=Lib.hid ((hb3.block _ (Array.getElem?_eq_some_iff.1 HW3.out).1).trans HW3.out)
 have HP5:=Lib.hid (show TxtPtr (w3.alloc (.cells #[.string (mkS cz)] 9)) b (some ⟨w3.heap.size,0,none⟩) (some cz) from .inr ⟨w3.heap.size,cz,rfl,rfl,by simp,by have:=HR3.out.lt;omega,heap_alloc_new w3 _⟩)
 clear hb3
 generalize (w3.alloc (.cells #[.string (mkS cz)] 9))=w5 at *
 have k5:=row_cell HW5.out 5 (.int .u8 75) (by rw [HK.out];rfl)
 have kc:=row_cell HR5.out.row 3 (.pointer lp) rfl
 have fc:=row_free HR5.out.row 3
 go_wp2_with fail
 first|go_ret2|go_ret
 have hp:=HR5.out.put 3 (.pointer (some ⟨w3.heap.size,0,none⟩)) (st':={ st with at_:=ta,lk:=some (cz) }) (np':=np) (lp':=some ⟨w3.heap.size,0,none⟩) (gv':=gv) (ov':=ov) rfl HR5.out.nm HP5.out HR5.out.g HR5.out.o
 exact ⟨HB5.out.trans (hp.2.cut HB5.out.size),.inr ⟨_,_,_,_,_,rfl,rfl,hp.1,.inl ⟨rfl,rfl⟩⟩⟩
set_option maxRecDepth 100000 in
set_option maxHeartbeats 8000000 in
theorem ahead_xbad (b:Nat) (s:List UInt8) (st:RSt) (np lp:Option Addr) (gv ov:Value) (r:RawL) (hs:s.length≤100000) (ho:StOk s st) (w:World) (hR:RdrAt w b s st np lp gv ov) (hL:∀ W,Bar w.heap.size [b] w W→Laid W) (h0:(takeF s st.at_ r.size 4000).1=0) (hk:r.kind=120) (h1:(recsR (takeF s st.at_ r.size 4000).2.1).1≠0) :
  Calls Tryz.prog 86 #[.pointer (some ⟨b,0,none⟩),rawV r] w (AhOut b s st gv (aheadR s st r) w):=by
 have hq:=aheadR_bad h0 (.inl hk) h1
 rw [hq]
 have hB1:=below_alloc1 w (.cells (rawC r) 117)
 have HB1:=Lib.hid hB1
 have HR1:=Lib.hid (hR.below hB1)
 have HW1:=Lib.hid (heap_alloc_new w (.cells (rawC r) 117))
 have CT:=Lib.hid (take_any s st b np lp gv ov r.size 4000 hs ho.at_ (by omega) _ (hR.below hB1))
 have hdl:=(takeF_ok s st.at_ r.size 4000 ho.at_ (by omega)).2.2.2
 have HLt:=Lib.hid hR.lt
 have HO:=Lib.hid ho
 have HL:=Lib.hid hL
 generalize takeF s st.at_ r.size 4000=TQ at *
 obtain ⟨tk,td,ta⟩:=TQ
 simp only at CT hdl h0 h1 hq
 have k9:=row_cell HW1.out 9 (.int .i64 r.size) rfl
 have k5:=row_cell HW1.out 5 (.int .u8 (r.kind.toNat:Int)) rfl
 subst h0
 rw [show errV 0=.nilIface from rfl] at CT
 have hdl:td.length≤4000:=by omega
 rw [hk,show ((120:UInt8).toNat:Int)=120 from rfl] at k5
 have HK:=Lib.hid hk
 have HDL:=Lib.hid hdl
 clear hk hR hL ho hq hB1 hdl
 unfold rawV
 unfold rawC at HB1 HR1 HW1 CT k9 k5
 have CP:=Lib.hid (fun W hW=>pread_any td (by have:=HDL.out;omega) W hW)
 have hrk:=recsR_ok td
 generalize recsR td=RQ at *
 obtain ⟨rk,rl⟩:=RQ
 simp only at CP h1 hrk
 have H1:=Lib.hid h1
 clear h1 hrk
 go_enter Tryz.func86,Tryz.ntmps86
 go_wp2_with (first
  |(go_at_call 84;(with_reducible refine CT.out.mono ?_);rintro q w2 ⟨rfl,g1,g2⟩;have HR2:=Lib.hid g1;have HB2:=Lib.hid (((Bar.of_below HB1.out).trans (g2.cut HB1.out.size):Bar w.heap.size [b] w w2));have HW2:=Lib.hid (g2.row HW1.out (Array.getElem?_eq_some_iff.1 HW1.out).1 (by have:=HLt.out;simp;omega));clear g1 g2 k9 k5;have k5:=row_cell HW2.out 5 (.int .u8 120) (by rw [HK.out];rfl))
  |(go_at_call 131;(with_reducible refine (CP.out _ (HL.out _ HB2.out)).mono ?_);rintro q w3 ⟨hq,g⟩;rcases hq with ⟨v,g1,_⟩|⟨pb,_,rfl,g1⟩;exact absurd g1 H1.out;have HB3:=Lib.hid (HB2.out.trans (Bar.of_below (g.mono HB2.out.size)));have HC3:=Lib.hid g1;clear g g1 k5)
  | fail)
 first|go_ret2|go_ret
 exact ⟨HB3.out,.inl ⟨rk,_,rfl,H1.out,rfl,.inr ⟨pb,rfl,HC3.out⟩⟩⟩
set_option maxRecDepth 100000 in
set_option maxHeartbeats 8000000 in
theorem ahead_gbad (b:Nat) (s:List UInt8) (st:RSt) (np lp:Option Addr) (gv ov:Value) (r:RawL) (hs:s.length≤100000) (ho:StOk s st) (w:World) (hR:RdrAt w b s st np lp gv ov) (hL:∀ W,Bar w.heap.size [b] w W→Laid W) (h0:(takeF s st.at_ r.size 4000).1=0) (hk:r.kind=103) (h1:(recsR (takeF s st.at_ r.size 4000).2.1).1≠0) :
  Calls Tryz.prog 86 #[.pointer (some ⟨b,0,none⟩),rawV r] w (AhOut b s st gv (aheadR s st r) w):=by
 have hq:=aheadR_bad h0 (.inr hk) h1
 rw [hq]
 have hB1:=below_alloc1 w (.cells (rawC r) 117)
 have HB1:=Lib.hid hB1
 have HR1:=Lib.hid (hR.below hB1)
 have HW1:=Lib.hid (heap_alloc_new w (.cells (rawC r) 117))
 have CT:=Lib.hid (take_any s st b np lp gv ov r.size 4000 hs ho.at_ (by omega) _ (hR.below hB1))
 have hdl:=(takeF_ok s st.at_ r.size 4000 ho.at_ (by omega)).2.2.2
 have HLt:=Lib.hid hR.lt
 have HO:=Lib.hid ho
 have HL:=Lib.hid hL
 generalize takeF s st.at_ r.size 4000=TQ at *
 obtain ⟨tk,td,ta⟩:=TQ
 simp only at CT hdl h0 h1 hq
 have k9:=row_cell HW1.out 9 (.int .i64 r.size) rfl
 have k5:=row_cell HW1.out 5 (.int .u8 (r.kind.toNat:Int)) rfl
 subst h0
 rw [show errV 0=.nilIface from rfl] at CT
 have hdl:td.length≤4000:=by omega
 rw [hk,show ((103:UInt8).toNat:Int)=103 from rfl] at k5
 have HK:=Lib.hid hk
 have HDL:=Lib.hid hdl
 clear hk hR hL ho hq hB1 hdl
 unfold rawV
 unfold rawC at HB1 HR1 HW1 CT k9 k5
 have CP:=Lib.hid (fun W hW=>pread_any td (by have:=HDL.out;omega) W hW)
 have hrk:=recsR_ok td
 generalize recsR td=RQ at *
 obtain ⟨rk,rl⟩:=RQ
 simp only at CP h1 hrk
 have H1:=Lib.hid h1
 clear h1 hrk
 go_enter Tryz.func86,Tryz.ntmps86
 go_wp2_with (first
  |(go_at_call 84;(with_reducible refine CT.out.mono ?_);rintro q w2 ⟨rfl,g1,g2⟩;have HR2:=Lib.hid g1;have HB2:=Lib.hid (((Bar.of_below HB1.out).trans (g2.cut HB1.out.size):Bar w.heap.size [b] w w2));have HW2:=Lib.hid (g2.row HW1.out (Array.getElem?_eq_some_iff.1 HW1.out).1 (by have:=HLt.out;simp;omega));clear g1 g2 k9 k5;have k5:=row_cell HW2.out 5 (.int .u8 103) (by rw [HK.out];rfl))
  |(go_at_call 131;(with_reducible refine (CP.out _ (HL.out _ HB2.out)).mono ?_);rintro q w3 ⟨hq,g⟩;rcases hq with ⟨v,g1,_⟩|⟨pb,_,rfl,g1⟩;exact absurd g1 H1.out;have HB3:=Lib.hid (HB2.out.trans (Bar.of_below (g.mono HB2.out.size)));have HC3:=Lib.hid g1;clear g g1 k5)
  | fail)
 first|go_ret2|go_ret
 exact ⟨HB3.out,.inl ⟨rk,_,rfl,H1.out,rfl,.inr ⟨pb,rfl,HC3.out⟩⟩⟩
set_option maxRecDepth 100000 in
set_option maxHeartbeats 8000000 in
theorem ahead_own (b:Nat) (s:List UInt8) (st:RSt) (np lp:Option Addr) (gv ov:Value) (r:RawL) (hs:s.length≤100000) (ho:StOk s st) (w:World) (hR:RdrAt w b s st np lp gv ov) (hL:∀ W,Bar w.heap.size [b] w W→Laid W) (h0:(takeF s st.at_ r.size 4000).1=0) (hk:r.kind=120) (h1:(recsR (takeF s st.at_ r.size 4000).2.1).1=0) :
  Calls Tryz.prog 86 #[.pointer (some ⟨b,0,none⟩),rawV r] w (AhOut b s st gv (aheadR s st r) w):=by
 have hq:=aheadR_own h0 hk h1
 rw [hq]
 have hB1:=below_alloc1 w (.cells (rawC r) 117)
 have HB1:=Lib.hid hB1
 have HR1:=Lib.hid (hR.below hB1)
 have HW1:=Lib.hid (heap_alloc_new w (.cells (rawC r) 117))
 have CT:=Lib.hid (take_any s st b np lp gv ov r.size 4000 hs ho.at_ (by omega) _ (hR.below hB1))
 have hdl:=(takeF_ok s st.at_ r.size 4000 ho.at_ (by omega)).2.2.2
 have HLt:=Lib.hid hR.lt
 have HO:=Lib.hid ho
 have HL:=Lib.hid hL
 generalize takeF s st.at_ r.size 4000=TQ at *
 obtain ⟨tk,td,ta⟩:=TQ
 simp only at CT hdl h0 h1 hq
 have k9:=row_cell HW1.out 9 (.int .i64 r.size) rfl
 have k5:=row_cell HW1.out 5 (.int .u8 (r.kind.toNat:Int)) rfl
 subst h0
 rw [show errV 0=.nilIface from rfl] at CT
 have hdl:td.length≤4000:=by omega
 rw [hk,show ((120:UInt8).toNat:Int)=120 from rfl] at k5
 have HK:=Lib.hid hk
 have HDL:=Lib.hid hdl
 clear hk hR hL ho hq hB1 hdl
 unfold rawV
 unfold rawC at HB1 HR1 HW1 CT k9 k5
 have CP:=Lib.hid (fun W hW=>pread_any td (by have:=HDL.out;omega) W hW)
 have hrk:=recsR_ok td
 generalize recsR td=RQ at *
 obtain ⟨rk,rl⟩:=RQ
 simp only at CP h1 hrk
 subst h1
 obtain ⟨gad,gcap,hgv,_,_⟩:=id HR1.out.g
 subst hgv
 have HRK:=Lib.hid hrk
 clear hrk
 go_enter Tryz.func86,Tryz.ntmps86
 go_wp2_with (first
  |(go_at_call 84;(with_reducible refine CT.out.mono ?_);rintro q w2 ⟨rfl,g1,g2⟩;have HR2:=Lib.hid g1;have HB2:=Lib.hid (((Bar.of_below HB1.out).trans (g2.cut HB1.out.size):Bar w.heap.size [b] w w2));have HW2:=Lib.hid (g2.row HW1.out (Array.getElem?_eq_some_iff.1 HW1.out).1 (by have:=HLt.out;simp;omega));clear g1 g2 k9 k5;have k5:=row_cell HW2.out 5 (.int .u8 120) (by rw [HK.out];rfl))
  |(go_at_call 131;(with_reducible refine (CP.out _ (HL.out _ HB2.out)).mono ?_);rintro q w3 ⟨hq,g⟩;rcases hq with ⟨v,_,rfl,g1⟩|⟨pb,g1,_⟩;rotate_left 1;exact absurd rfl g1;obtain ⟨rad,rcap,hv,_,_⟩:=id g1;subst hv;have HB3:=Lib.hid (HB2.out.trans (Bar.of_below (g.mono HB2.out.size)));have HR3:=Lib.hid (HR2.out.below g);have HS3:=Lib.hid g1;have HW3:=Lib.hid ((g.block _ (Array.getElem?_eq_some_iff.1 HW2.out).1).trans HW2.out);clear g g1 k5;have k5:=row_cell HW3.out 5 (.int .u8 120) (by rw [HK.out];rfl);have k4:=row_cell HR3.out.row 4 (.slice gad st.G.length gcap) rfl;have c5:=row_cell HR3.out.row 5 ov rfl;have f5:=row_free HR3.out.row 5;have f4:=row_free HR3.out.row 4)
  | fail)
 first|go_ret2|go_ret
 have hp:=HR3.out.put 5 (.slice rad rl.length rcap) (st':={ st with at_:=ta,O:=rl }) (np':=np) (lp':=lp) (gv':=.slice gad st.G.length gcap) (ov':=.slice rad rl.length rcap) rfl HR3.out.nm HR3.out.lk HR3.out.g HS3.out
 exact ⟨HB3.out.trans (hp.2.cut HB3.out.size),.inr ⟨_,_,_,_,_,rfl,rfl,hp.1,.inl ⟨rfl,rfl⟩⟩⟩
set_option maxRecDepth 100000 in
set_option maxHeartbeats 8000000 in
theorem ahead_glob (b:Nat) (s:List UInt8) (st:RSt) (np lp:Option Addr) (gv ov:Value) (r:RawL) (hs:s.length≤100000) (ho:StOk s st) (w:World) (hR:RdrAt w b s st np lp gv ov) (hL:∀ W,Bar w.heap.size [b] w W→Laid W) (h0:(takeF s st.at_ r.size 4000).1=0) (hk:r.kind=103) (h1:(recsR (takeF s st.at_ r.size 4000).2.1).1=0) :
  Calls Tryz.prog 86 #[.pointer (some ⟨b,0,none⟩),rawV r] w (AhOut b s st gv (aheadR s st r) w):=by
 have hq:=aheadR_glob h0 hk h1
 rw [hq]
 have hB1:=below_alloc1 w (.cells (rawC r) 117)
 have HB1:=Lib.hid hB1
 have HR1:=Lib.hid (hR.below hB1)
 have HW1:=Lib.hid (heap_alloc_new w (.cells (rawC r) 117))
 have CT:=Lib.hid (take_any s st b np lp gv ov r.size 4000 hs ho.at_ (by omega) _ (hR.below hB1))
 have hdl:=(takeF_ok s st.at_ r.size 4000 ho.at_ (by omega)).2.2.2
 have HLt:=Lib.hid hR.lt
 have HO:=Lib.hid ho
 have HL:=Lib.hid hL
 generalize takeF s st.at_ r.size 4000=TQ at *
 obtain ⟨tk,td,ta⟩:=TQ
 simp only at CT hdl h0 h1 hq
 have k9:=row_cell HW1.out 9 (.int .i64 r.size) rfl
 have k5:=row_cell HW1.out 5 (.int .u8 (r.kind.toNat:Int)) rfl
 subst h0
 rw [show errV 0=.nilIface from rfl] at CT
 have hdl:td.length≤4000:=by omega
 rw [hk,show ((103:UInt8).toNat:Int)=103 from rfl] at k5
 have HK:=Lib.hid hk
 have HDL:=Lib.hid hdl
 clear hk hR hL ho hq hB1 hdl
 unfold rawV
 unfold rawC at HB1 HR1 HW1 CT k9 k5
 have CP:=Lib.hid (fun W hW=>pread_any td (by have:=HDL.out;omega) W hW)
 have hrk:=recsR_ok td
 generalize recsR td=RQ at *
 obtain ⟨rk,rl⟩:=RQ
 simp only at CP h1 hrk
 subst h1
 obtain ⟨gad,gcap,hgv,_,_⟩:=id HR1.out.g
 subst hgv
 have HRK:=Lib.hid hrk
 clear hrk
 have CM:=Lib.hid (fun W va vb (hA:Px.SliceIs W va st.G) (hB:Px.SliceIs W vb rl)=>merge2 st.G rl va vb W hA hB (by have:=HO.out.lG;omega) (by have:=HRK.out.1;omega) (fun p hp=>by
  rcases List.mem_append.1 hp with hp|hp
  ·have:=HO.out.tG p hp;omega
  ·have:=HRK.out.2 p hp;omega))
 have HNE:=Lib.hid (fun p (hp:p∈mergeF (st.G++rl))=>mergeF_ne hp)
 generalize mergeF (st.G++rl)=MG at *
 go_enter Tryz.func86,Tryz.ntmps86
 go_wp2_with (first
  |(go_at_call 84;(with_reducible refine CT.out.mono ?_);rintro q w2 ⟨rfl,g1,g2⟩;have HR2:=Lib.hid g1;have HB2:=Lib.hid (((Bar.of_below HB1.out).trans (g2.cut HB1.out.size):Bar w.heap.size [b] w w2));have HW2:=Lib.hid (g2.row HW1.out (Array.getElem?_eq_some_iff.1 HW1.out).1 (by have:=HLt.out;simp;omega));clear g1 g2 k9 k5;have k5:=row_cell HW2.out 5 (.int .u8 103) (by rw [HK.out];rfl))
  |(go_at_call 131;(with_reducible refine (CP.out _ (HL.out _ HB2.out)).mono ?_);rintro q w3 ⟨hq,g⟩;rcases hq with ⟨v,_,rfl,g1⟩|⟨pb,g1,_⟩;rotate_left 1;exact absurd rfl g1;obtain ⟨rad,rcap,hv,_,_⟩:=id g1;subst hv;have HB3:=Lib.hid (HB2.out.trans (Bar.of_below (g.mono HB2.out.size)));have HR3:=Lib.hid (HR2.out.below g);have HS3:=Lib.hid g1;have HW3:=Lib.hid ((g.block _ (Array.getElem?_eq_some_iff.1 HW2.out).1).trans HW2.out);clear g g1 k5;have k5:=row_cell HW3.out 5 (.int .u8 103) (by rw [HK.out];rfl);have k4:=row_cell HR3.out.row 4 (.slice gad st.G.length gcap) rfl;have c5:=row_cell HR3.out.row 5 ov rfl;have f5:=row_free HR3.out.row 5;have f4:=row_free HR3.out.row 4)
  |(go_at_call 132;(with_reducible refine (CM.out _ _ _ HR3.out.g HS3.out).mono ?_);rintro q w4 ⟨⟨mv,rfl,g1⟩,g2⟩;obtain ⟨mad,mcap,hmv,_,_,_⟩:=id g1;subst hmv;have HB4:=Lib.hid (HB3.out.trans (Bar.of_below (g2.mono HB3.out.size)));have HR4:=Lib.hid (HR3.out.below g2);have HS4:=Lib.hid g1.is;clear g1 g2 k4 c5 f5 f4;have k4:=row_cell HR4.out.row 4 (.slice gad st.G.length gcap) rfl;have f4:=row_free HR4.out.row 4)
  | fail)
 first|go_ret2|go_ret
 have hp:=HR4.out.put 4 (.slice mad MG.length mcap) (st':={ st with at_:=ta,G:=MG }) (np':=np) (lp':=lp) (gv':=.slice mad MG.length mcap) (ov':=ov) rfl HR4.out.nm HR4.out.lk HS4.out HR4.out.o
 exact ⟨HB4.out.trans (hp.2.cut HB4.out.size),.inr ⟨_,_,_,_,_,rfl,rfl,hp.1,.inr HNE.out⟩⟩
theorem ahead_any (b:Nat) (s:List UInt8) (st:RSt) (np lp:Option Addr) (gv ov:Value) (r:RawL) (hs:s.length≤100000) (ho:StOk s st) (w:World) (hR:RdrAt w b s st np lp gv ov) (hL:∀ W,Bar w.heap.size [b] w W→Laid W) (hk:aheadB r.kind=true) :
  Calls Tryz.prog 86 #[.pointer (some ⟨b,0,none⟩),rawV r] w (AhOut b s st gv (aheadR s st r) w):=by
 by_cases h0:(takeF s st.at_ r.size 4000).1=0
 ·unfold aheadB at hk
  simp only [Bool.or_eq_true,beq_iff_eq] at hk
  rcases hk with hk|hk|hk|hk
  ·exact ahead_long b s st np lp gv ov r hs ho w hR hL h0 hk
  ·exact ahead_link b s st np lp gv ov r hs ho w hR hL h0 hk
  ·by_cases h1:(recsR (takeF s st.at_ r.size 4000).2.1).1=0
   ·exact ahead_own b s st np lp gv ov r hs ho w hR hL h0 hk h1
   ·exact ahead_xbad b s st np lp gv ov r hs ho w hR hL h0 hk h1
  ·by_cases h1:(recsR (takeF s st.at_ r.size 4000).2.1).1=0
   ·exact ahead_glob b s st np lp gv ov r hs ho w hR hL h0 hk h1
   ·exact ahead_gbad b s st np lp gv ov r hs ho w hR hL h0 hk h1
 ·exact ahead_take b s st np lp gv ov r hs ho w hR hL h0
end Go.Proofs.YtdjcjaidklgamaaGreatDoor
end
section
namespace Go.Proofs.YtdjcjaidklgamaaGreatDoor
open Go.RowKit Go.Shelf Go.Joins
theorem subset_len {α:Type} [DecidableEq α]:∀ (M L:List α),M.Nodup→(∀ x∈M,x∈L)→M.length≤L.length
 | [],L,_,_=>by simp
 | a :: M,L,hn,hs=>by
  rw [List.nodup_cons] at hn
  have ha:=hs a (by simp)
  have h:=subset_len M (L.erase a) hn.2 fun x hx=>(List.mem_erase_of_ne (by rintro rfl;exact hn.1 hx)).2 (hs x (by simp [hx]))
  rw [List.length_erase_of_mem ha] at h
  have:0<L.length:=List.length_pos_of_mem ha
  simp only [List.length_cons]
  omega
theorem mergeF_mem {L:List PrL} {p:PrL} (h:p∈mergeF L):p∈L:=(Px.lastOf_mem (((mergeF_is L).2 p).1 h).1).1
theorem mergeF_len (L:List PrL):(mergeF L).length≤L.length:=by
 refine subset_len _ _ ?_ fun x hx=>mergeF_mem hx
 refine (mergeF_is L).1.imp fun {a b} hab e=>?_
 subst e
 exact List.lt_irrefl _ hab
theorem setRow_id {w:World} {b:Nat} {cs:Array Value} {t:TypeId} {fr:Nat × Nat} (h:w.heap[b]?=some (.cells cs t fr)):w.setRow b cs=w:=by
 have hh:=setRow_heap w b cs cs t fr h
 have hlt:=(Array.getElem?_eq_some_iff.1 h).1
 have hheap:(w.setRow b cs).heap=w.heap:=by
  apply Array.ext_getElem?
  intro i
  by_cases hi:i=b
  ·subst hi;rw [hh,h]
  ·exact setRow_other w b i cs hi
 have e1:w.setRow b cs={ w with heap:=(w.setRow b cs).heap }:=rfl
 rw [e1,hheap]
theorem sub_len (l:List UInt8) (a n:Nat):(sub l a n).length≤n:=by unfold sub;rw [List.length_take];omega
theorem cutZ_le (l:List UInt8):(cutZ l).length≤l.length:=(List.takeWhile_sublist _).length_le
theorem rawAt_ok (l:List UInt8):intsL (rawAt l)∧(rawAt l).name.length≤100∧(rawAt l).link.length≤100∧(rawAt l).user.length≤32∧(rawAt l).group.length≤32∧(rawAt l).front.length≤155:=by
 have z:i64 (0:Int):=⟨by simp,by simp⟩
 have hc:∀ a n,(cutZ (sub l a n)).length≤n:=fun a n=>Nat.le_trans (cutZ_le _) (sub_len l a n)
 have hn:∀ a n,i64 (numAt l a n).1:=fun a n=>readF_i64 _
 unfold rawAt
 refine ⟨⟨hn _ _,hn _ _,hn _ _,hn _ _,hn _ _,?_,?_⟩,hc _ _,hc _ _,?_,?_,?_⟩
 ·simp only;split;exact z;exact hn _ _
 ·simp only;split;exact z;exact hn _ _
 ·simp only;split;simp;exact hc _ _
 ·simp only;split;simp;exact hc _ _
 ·simp only;split;exact hc _ _;simp
theorem rawAt_sum (l:List UInt8):sumT (rawAt l)≤10000:=by
 obtain ⟨_,h1,h2,h3,h4,h5⟩:=rawAt_ok l
 unfold sumT
 omega
theorem entry_good (l:List UInt8) {s:List UInt8} {st:RSt} (h:StOk s st):GoodE (entryR (rawAt l) st):=by
 obtain ⟨⟨i1,i2,i3,i4,i5,i6,i7⟩,h1,h2,h3,h4,h5⟩:=rawAt_ok l
 have z:i64 (0:Int):=⟨by simp,by simp⟩
 have hf:(fullL (rawAt l)).length≤300:=by
  unfold fullL
  split
  ·omega
  ·simp;omega
 refine ⟨⟨i1,i2,i3,i4,i5,z,i6,i7⟩,?_,?_,by show (rawAt l).user.length≤_;omega,by show (rawAt l).group.length≤_;omega,by simp [entryR],few_nil⟩
 ·show (st.nm.getD _).length≤_
  cases hn:st.nm with
  | none=>simp;omega
  | some x=>have:=h.nm x hn;simp;omega
 ·show (st.lk.getD _).length≤_
  cases hn:st.lk with
  | none=>simp;omega
  | some x=>have:=h.lk x hn;simp;omega
theorem ReadIs.headF {l:List UInt8} {q:RawL} {d k:Int} (h:ReadIs l q d k):headF l=(k,q):=by
 unfold Go.Proofs.YtdjcjaidklgamaaGreatDoor.headF
 cases h with
 | form h=>rw [if_pos h]
 | spoilt h1 h2=>rw [if_neg (by simpa using h1),if_pos h2]
 | range h1 h2=>rw [if_neg (by simpa using h1.1),if_neg (by simpa using h1),if_pos h2]
 | ok h1 h2=>rw [if_neg (by simpa using h1.1),if_neg (by simpa using h1),if_neg (by simpa using h2)]
theorem headF_raw (l:List UInt8):(headF l).1=0→(headF l).2=rawAt l:=by
 unfold headF
 split
 ·intro h;simp at h
 ·split
  ·intro h;simp at h
  ·split
   ·intro h;simp at h
   ·intro _;rfl
theorem head_any (l:List UInt8) (hb:l.length≤1000000) (w:World) :
  Calls Tryz.prog 85 #[.string (mkS l)] w fun e w'=>(∃ d:Int,e=.returned (.tuple #[rawV (headF l).2,.int .i64 d,errV (headF l).1]))∧Below w.heap.size w w':=by
 refine (readRaw_any l hb w).mono fun e w' ⟨q,d,k,h1,h2,h3⟩=>⟨⟨d,?_⟩,h3⟩
 rw [h1.headF];exact h2
theorem zeroB_any (l:List UInt8) (h:l.length=512) (w:World):Calls Tryz.prog 45 #[.string (mkS l)] w fun e w'=>e=.returned (.bool (l.all (·==0)))∧w'=w :=
 zero_any l (l.all (·==0)) (by unfold allZ;simp) w h
def NxOut (b:Nat) (s:List UInt8) (st:RSt) (np lp:Option Addr) (gv ov:Value) (q:Nxt) (w:World) (r:Ending) (W:World):Prop :=
 Bar w.heap.size [b] w W∧((∃ k ev bl,q=.err k∧k≠0∧r=.returned (.tuple #[.agg zeroC,.bool bl,ev])∧ErrIs W ev k) ∨
  (∃ st' np' lp' gv' ov',q=.ahead st'∧r=.returned (.tuple #[.agg zeroC,.bool false,.nilIface])∧RdrAt W b s st' np' lp' gv' ov'∧((gv'=gv∧st'.G=st.G)∨∀ p∈st'.G,p.2≠[])) ∨
  (∃ e a v,q=.found e a∧r=.returned (.tuple #[entV e v,.bool true,.nilIface])∧PcNew w.heap.size W v e.map∧GoodE e∧a≤s.length∧RdrAt W b s { st with at_:=a } np lp gv ov))
theorem nextR_short {s:List UInt8} {st:RSt} (h:s.length<st.at_+512):nextR s st=.err 3:=by unfold nextR;rw [if_pos h]
theorem nextR_zero {s:List UInt8} {st:RSt} (h:¬ s.length<st.at_+512) (hz:(sub s st.at_ 512).all (·==0)=true):nextR s st=.err 3:=by unfold nextR;rw [if_neg h];simp only;rw [if_pos hz]
theorem nextR_head {s:List UInt8} {st:RSt} (h:¬ s.length<st.at_+512) (hz:(sub s st.at_ 512).all (·==0)=false) (hh:(headF (sub s st.at_ 512)).1≠0):nextR s st=.err (headF (sub s st.at_ 512)).1:=by
 unfold nextR;rw [if_neg h];simp only;rw [if_neg (by rw [hz];decide),if_pos hh]
theorem nextR_ahead {s:List UInt8} {st:RSt} (h:¬ s.length<st.at_+512) (hz:(sub s st.at_ 512).all (·==0)=false) (hh:(headF (sub s st.at_ 512)).1=0) (hk:aheadB (rawAt (sub s st.at_ 512)).kind=true):nextR s st=aheadR s { st with at_:=st.at_+512 } (rawAt (sub s st.at_ 512)):=by
 unfold nextR;rw [if_neg h];simp only;rw [if_neg (by rw [hz];decide),if_neg (by simpa using hh),headF_raw _ hh,if_pos hk]
theorem nextR_member {s:List UInt8} {st:RSt} (h:¬ s.length<st.at_+512) (hz:(sub s st.at_ 512).all (·==0)=false) (hh:(headF (sub s st.at_ 512)).1=0) (hk:aheadB (rawAt (sub s st.at_ 512)).kind=false):nextR s st=memberR s { st with at_:=st.at_+512 } (rawAt (sub s st.at_ 512)) (sub s st.at_ 512):=by
 unfold nextR;rw [if_neg h];simp only;rw [if_neg (by rw [hz];decide),if_neg (by simpa using hh),headF_raw _ hh,if_neg (by rw [hk];decide)]
theorem StOk.on {s:List UInt8} {st:RSt} (h:StOk s st) (hl:¬ s.length<st.at_+512):StOk s { st with at_:=st.at_+512 }:=⟨by show st.at_+512≤s.length;omega,h.lG,h.lO,h.tG,h.tO,h.nm,h.lk⟩
set_option maxRecDepth 100000 in
set_option maxHeartbeats 8000000 in
theorem next_short (b:Nat) (s:List UInt8) (st:RSt) (np lp:Option Addr) (gv ov:Value) (hs:s.length≤100000) (ho:StOk s st) (w:World) (hR:RdrAt w b s st np lp gv ov) (hL:∀ W,Bar w.heap.size [b] w W→Laid W) (h0:s.length<st.at_+512) :
  Calls Tryz.prog 47 #[.pointer (some ⟨b,0,none⟩)] w (NxOut b s st np lp gv ov (nextR s st) w):=by
 rw [show nextR s st=_ from nextR_short h0]
 have hB0:=below_alloc1 w (.cells zeroC 26)
 have HB0:=Lib.hid hB0
 have HR0:=Lib.hid (hR.below hB0)
 have HE0:=Lib.hid (heap_alloc_new w (.cells zeroC 26))
 have HLt:=Lib.hid hR.lt
 have CT:=Lib.hid (take_any s st b np lp gv ov 512 512 hs ho.at_ (by omega) _ (hR.below hB0))
 simp only [take512] at CT
 rw [if_pos h0] at CT
 simp only at CT
 rw [show errV 3=.iface 68 (.int .i64 3) from rfl] at CT
 clear h0 hR hL ho hB0
 go_enter Tryz.func47,Tryz.ntmps47
 go_wp2_with (first
  |(go_at_call 84;(with_reducible refine CT.out.mono ?_);rintro q w2 ⟨rfl,g1,g2⟩;have HB2:=Lib.hid (((Bar.of_below HB0.out).trans (g2.cut HB0.out.size):Bar w.heap.size [b] w w2));have HR2:=Lib.hid g1;have HE2:=Lib.hid (g2.row HE0.out (Array.getElem?_eq_some_iff.1 HE0.out).1 (by have:=HLt.out;simp;omega));clear g1 g2)
  |(refine wpList_store_row rfl _ _ _ rfl w.heap.size zeroC rfl rfl _ _ HE2.out (by kernel_rfl) rfl zeroC_all ?_;rw [setRow_id HE2.out])
  | fail)
 refine bodyPost_ret (results_row3 rfl _ _ w.heap.size _ _ _ _ rfl HE2.out Tryz.underlying26 rfl entInfo) rfl ?_
 exact ⟨HB2.out,.inl ⟨3,_,false,rfl,by decide,rfl,.inl rfl⟩⟩
set_option maxRecDepth 100000 in
set_option maxHeartbeats 8000000 in
theorem next_zero (b:Nat) (s:List UInt8) (st:RSt) (np lp:Option Addr) (gv ov:Value) (hs:s.length≤100000) (ho:StOk s st) (w:World) (hR:RdrAt w b s st np lp gv ov) (hL:∀ W,Bar w.heap.size [b] w W→Laid W) (h0:¬ s.length<st.at_+512) (hz:(sub s st.at_ 512).all (·==0)=true) :
  Calls Tryz.prog 47 #[.pointer (some ⟨b,0,none⟩)] w (NxOut b s st np lp gv ov (nextR s st) w):=by
 rw [show nextR s st=_ from nextR_zero h0 hz]
 have hB0:=below_alloc1 w (.cells zeroC 26)
 have HB0:=Lib.hid hB0
 have HR0:=Lib.hid (hR.below hB0)
 have HE0:=Lib.hid (heap_alloc_new w (.cells zeroC 26))
 have HLt:=Lib.hid hR.lt
 have CT:=Lib.hid (take_any s st b np lp gv ov 512 512 hs ho.at_ (by omega) _ (hR.below hB0))
 simp only [take512] at CT
 rw [if_neg h0] at CT
 simp only at CT
 rw [show errV 0=.nilIface from rfl] at CT
 have hlen:(sub s st.at_ 512).length=512:=by unfold sub;rw [List.length_take,List.length_drop];omega
 have CZ:=Lib.hid (fun w=>zeroB_any (sub s st.at_ 512) hlen w)
 have CH:=Lib.hid (fun w=>head_any (sub s st.at_ 512) (by omega) w)
 rw [hz] at CZ
 generalize sub s st.at_ 512=hd at *
 clear h0 hR hL ho hB0 hz CH
 go_enter Tryz.func47,Tryz.ntmps47
 go_wp2_with (first
  |(go_at_call 84;(with_reducible refine CT.out.mono ?_);rintro q w2 ⟨rfl,g1,g2⟩;have HB2:=Lib.hid (((Bar.of_below HB0.out).trans (g2.cut HB0.out.size):Bar w.heap.size [b] w w2));have HR2:=Lib.hid g1;have HE2:=Lib.hid (g2.row HE0.out (Array.getElem?_eq_some_iff.1 HE0.out).1 (by have:=HLt.out;simp;omega));clear g1 g2)
  |(go_at_call 45;(with_reducible refine (CZ.out _).mono ?_);rintro q wz ⟨rfl,g⟩;replace g:=g.symm;subst g)
  |(refine wpList_store_row rfl _ _ _ rfl w.heap.size zeroC rfl rfl _ _ HE2.out (by kernel_rfl) rfl zeroC_all ?_;rw [setRow_id HE2.out])
  | fail)
 refine bodyPost_ret (results_row3 rfl _ _ w.heap.size _ _ _ _ rfl HE2.out Tryz.underlying26 rfl entInfo) rfl ?_
 exact ⟨HB2.out,.inl ⟨3,_,false,rfl,by decide,rfl,.inl rfl⟩⟩
set_option maxRecDepth 100000 in
set_option maxHeartbeats 8000000 in
theorem next_head (b:Nat) (s:List UInt8) (st:RSt) (np lp:Option Addr) (gv ov:Value) (hs:s.length≤100000) (ho:StOk s st) (w:World) (hR:RdrAt w b s st np lp gv ov) (hL:∀ W,Bar w.heap.size [b] w W→Laid W) (h0:¬ s.length<st.at_+512) (hz:(sub s st.at_ 512).all (·==0)=false) (hh:(headF (sub s st.at_ 512)).1≠0) :
  Calls Tryz.prog 47 #[.pointer (some ⟨b,0,none⟩)] w (NxOut b s st np lp gv ov (nextR s st) w):=by
 rw [show nextR s st=_ from nextR_head h0 hz hh]
 have hB0:=below_alloc1 w (.cells zeroC 26)
 have HB0:=Lib.hid hB0
 have HR0:=Lib.hid (hR.below hB0)
 have HE0:=Lib.hid (heap_alloc_new w (.cells zeroC 26))
 have HLt:=Lib.hid hR.lt
 have CT:=Lib.hid (take_any s st b np lp gv ov 512 512 hs ho.at_ (by omega) _ (hR.below hB0))
 simp only [take512] at CT
 rw [if_neg h0] at CT
 simp only at CT
 rw [show errV 0=.nilIface from rfl] at CT
 have hlen:(sub s st.at_ 512).length=512:=by unfold sub;rw [List.length_take,List.length_drop];omega
 have CZ:=Lib.hid (fun w=>zeroB_any (sub s st.at_ 512) hlen w)
 have CH:=Lib.hid (fun w=>head_any (sub s st.at_ 512) (by omega) w)
 rw [hz] at CZ
 generalize sub s st.at_ 512=hd at *
 generalize headF hd=Q at *
 obtain ⟨k,R⟩:=Q
 simp only at CH hh ⊢
 rw [show errV k=.iface 68 (.int .i64 k) from if_neg hh] at CH
 have HH:=Lib.hid hh
 clear h0 hR hL ho hB0 hz hh
 unfold rawV at CH
 go_enter Tryz.func47,Tryz.ntmps47
 go_upto_region 7 with (first
  |(go_at_call 84;(with_reducible refine CT.out.mono ?_);rintro q w2 ⟨rfl,g1,g2⟩;have HB2:=Lib.hid (((Bar.of_below HB0.out).trans (g2.cut HB0.out.size):Bar w.heap.size [b] w w2));have HR2:=Lib.hid g1;have HE2:=Lib.hid (g2.row HE0.out (Array.getElem?_eq_some_iff.1 HE0.out).1 (by have:=HLt.out;simp;omega));clear g1 g2)
  |(go_at_call 45;(with_reducible refine (CZ.out _).mono ?_);rintro q wz ⟨rfl,g⟩;replace g:=g.symm;subst g)
  |(go_at_call 85;(with_reducible refine (CH.out _).mono ?_);rintro q w3 ⟨⟨d,rfl⟩,g⟩;have HB3:=Lib.hid (HB2.out.trans (Bar.of_below (g.mono HB2.out.size)));have HR3:=Lib.hid (HR2.out.below g);have HE3:=Lib.hid ((g.block _ (Array.getElem?_eq_some_iff.1 HE2.out).1).trans HE2.out);clear g)
  | fail)
 have hb3:=(Below.refl w3.heap.size w3).alloc (Nat.le_refl _) (.cells (rawC R) 117)
 have HB4:=Lib.hid (HB3.out.trans (Bar.of_below (hb3.mono HB3.out.size)))
 have HR4:=Lib.hid (HR3.out.below hb3)
 have HE4:=Lib.hid ((hb3.block _ (Array.getElem?_eq_some_iff.1 HE3.out).1).trans HE3.out)
 have HW4:=Lib.hid (RawAt.of_row (heap_alloc_new w3 (.cells (rawC R) 117)))
 clear hb3
 unfold rawC at HB4 HR4 HE4 HW4
 generalize (w3.alloc (.cells _ 117))=w4 at *
 go_wp2_with (first
  |(refine wpList_store_row rfl _ _ _ rfl w.heap.size zeroC rfl rfl _ _ HE4.out (by kernel_rfl) rfl zeroC_all ?_;rw [setRow_id HE4.out])
  | fail)
 refine bodyPost_ret (results_row3 rfl _ _ w.heap.size _ _ _ _ rfl HE4.out Tryz.underlying26 rfl entInfo) rfl ?_
 exact ⟨HB4.out,.inl ⟨k,_,false,rfl,HH.out,rfl,.inl rfl⟩⟩
set_option maxRecDepth 100000 in
set_option maxHeartbeats 8000000 in
theorem next_ahead (b:Nat) (s:List UInt8) (st:RSt) (np lp:Option Addr) (gv ov:Value) (hs:s.length≤100000) (ho:StOk s st) (w:World) (hR:RdrAt w b s st np lp gv ov) (hL:∀ W,Bar w.heap.size [b] w W→Laid W) (h0:¬ s.length<st.at_+512) (hz:(sub s st.at_ 512).all (·==0)=false) (hh:(headF (sub s st.at_ 512)).1=0) (hk:aheadB (rawAt (sub s st.at_ 512)).kind=true) :
  Calls Tryz.prog 47 #[.pointer (some ⟨b,0,none⟩)] w (NxOut b s st np lp gv ov (nextR s st) w):=by
 rw [show nextR s st=_ from nextR_ahead h0 hz hh hk]
 have hB0:=below_alloc1 w (.cells zeroC 26)
 have HB0:=Lib.hid hB0
 have HR0:=Lib.hid (hR.below hB0)
 have HE0:=Lib.hid (heap_alloc_new w (.cells zeroC 26))
 have HLt:=Lib.hid hR.lt
 have CT:=Lib.hid (take_any s st b np lp gv ov 512 512 hs ho.at_ (by omega) _ (hR.below hB0))
 simp only [take512] at CT
 rw [if_neg h0] at CT
 simp only at CT
 rw [show errV 0=.nilIface from rfl] at CT
 have hlen:(sub s st.at_ 512).length=512:=by unfold sub;rw [List.length_take,List.length_drop];omega
 have CZ:=Lib.hid (fun w=>zeroB_any (sub s st.at_ 512) hlen w)
 have CH:=Lib.hid (fun w=>head_any (sub s st.at_ 512) (by omega) w)
 rw [hz] at CZ
 have hhr:=headF_raw _ hh
 have HO:=Lib.hid (ho.on h0)
 have HS:=Lib.hid hs
 have HLd:=Lib.hid hL
 have HK:=Lib.hid hk
 generalize sub s st.at_ 512=hd at *
 generalize headF hd=Q at *
 obtain ⟨k,R⟩:=Q
 simp only at CH hh hhr
 subst hh
 rw [← hhr] at HK ⊢
 rw [show errV 0=.nilIface from rfl] at CH
 obtain ⟨Z,hZ⟩:∃ Z,aheadR s { st with at_:=st.at_+512 } R=Z:=⟨_,rfl⟩
 rw [hZ]
 have HZ:=Lib.hid hZ
 have kb:((R.kind.toNat:Int)==76)=(R.kind==76)∧((R.kind.toNat:Int)==75)=(R.kind==75)∧((R.kind.toNat:Int)==120)=(R.kind==120)∧((R.kind.toNat:Int)==103)=(R.kind==103):=⟨u8_at R.kind 76 (by omega),u8_at R.kind 75 (by omega),u8_at R.kind 120 (by omega),u8_at R.kind 103 (by omega)⟩
 have hk2:=HK.out
 unfold aheadB at hk2
 rw [← kb.1,← kb.2.1,← kb.2.2.1,← kb.2.2.2] at hk2
 clear h0 hR hL ho hB0 hz hhr hk hZ kb
 unfold rawV at CH
 go_enter Tryz.func47,Tryz.ntmps47
 go_upto_region 7 with (first
  |(go_at_call 84;(with_reducible refine CT.out.mono ?_);rintro q w2 ⟨rfl,g1,g2⟩;have HB2:=Lib.hid (((Bar.of_below HB0.out).trans (g2.cut HB0.out.size):Bar w.heap.size [b] w w2));have HR2:=Lib.hid g1;have HE2:=Lib.hid (g2.row HE0.out (Array.getElem?_eq_some_iff.1 HE0.out).1 (by have:=HLt.out;simp;omega));clear g1 g2)
  |(go_at_call 45;(with_reducible refine (CZ.out _).mono ?_);rintro q wz ⟨rfl,g⟩;replace g:=g.symm;subst g)
  |(go_at_call 85;(with_reducible refine (CH.out _).mono ?_);rintro q w3 ⟨⟨d,rfl⟩,g⟩;have HB3:=Lib.hid (HB2.out.trans (Bar.of_below (g.mono HB2.out.size)));have HR3:=Lib.hid (HR2.out.below g);have HE3:=Lib.hid ((g.block _ (Array.getElem?_eq_some_iff.1 HE2.out).1).trans HE2.out);clear g)
  | fail)
 have hb3:=(Below.refl w3.heap.size w3).alloc (Nat.le_refl _) (.cells (rawC R) 117)
 have HB4:=Lib.hid (HB3.out.trans (Bar.of_below (hb3.mono HB3.out.size)))
 have HR4:=Lib.hid (HR3.out.below hb3)
 have HE4:=Lib.hid ((hb3.block _ (Array.getElem?_eq_some_iff.1 HE3.out).1).trans HE3.out)
 have HW4:=Lib.hid (RawAt.of_row (heap_alloc_new w3 (.cells (rawC R) 117)))
 clear hb3
 unfold rawC at HB4 HR4 HE4 HW4
 have CA:=Lib.hid (ahead_any b s { st with at_:=st.at_+512 } np lp gv ov R HS.out HO.out _ HR4.out (fun W hW=>HLd.out W (HB4.out.trans (hW.cut HB4.out.size))) HK.out)
 rw [HZ.out] at CA
 replace CA:=Lib.hid (CA.out.mono fun r W (h:AhOut b s { st with at_:=st.at_+512 } gv Z _ r W)=>show Bar _ [b] _ W∧∃ ev,r=.returned ev∧((∃ k,Z=.err k∧k≠0∧ErrIs W ev k)∨(∃ st' np' lp' gv' ov',Z=.ahead st'∧ev=.nilIface∧RdrAt W b s st' np' lp' gv' ov'∧((gv'=gv∧st'.G=st.G)∨∀ p∈st'.G,p.2≠[]))) from
  ⟨h.1,by
   rcases h.2 with ⟨k,ev,h1,h2,h3,h4⟩|⟨st',np',lp',gv',ov',h1,h2,h3⟩
   ·exact ⟨ev,h3,.inl ⟨k,h1,h2,h4⟩⟩
   ·exact ⟨.nilIface,h2,.inr ⟨st',np',lp',gv',ov',h1,rfl,h3⟩⟩⟩)
 unfold rawV at CA
 generalize (w3.alloc (.cells _ 117))=w4 at *
 obtain ⟨c0,c1,c2,c3,c4,c5,c6,c7,c8,c9,c10,c11,c12⟩:=id HW4.out
 clear CT CZ CH
 generalize hq1:((R.kind.toNat:Int)==76)=q1 at hk2
 generalize hq2:((R.kind.toNat:Int)==75)=q2 at hk2
 generalize hq3:((R.kind.toNat:Int)==120)=q3 at hk2
 generalize hq4:((R.kind.toNat:Int)==103)=q4 at hk2
 cases q1 with
 | true =>
  clear hk2 hq2 hq3 hq4
  go_wp2_with (first
   |(go_at_call 86;(with_reducible refine CA.out.mono ?_);rintro q w5 ⟨g1,ev,rfl,g2⟩;have HE5:=Lib.hid (g1.row HE4.out (Array.getElem?_eq_some_iff.1 HE4.out).1 (by have:=HLt.out;simp;omega));have HB5:=Lib.hid (HB4.out.trans (g1.cut HB4.out.size));have HG:=Lib.hid g2;clear g1 g2 c0 c1 c2 c3 c4 c5 c6 c7 c8 c9 c10 c11 c12)
   |(refine wpList_store_row rfl _ _ _ rfl w.heap.size zeroC rfl rfl _ _ HE5.out (by kernel_rfl) rfl zeroC_all ?_;rw [setRow_id HE5.out])
   | fail)
  refine bodyPost_ret (results_row3 rfl _ _ w.heap.size _ _ _ _ rfl HE5.out Tryz.underlying26 rfl entInfo) rfl ?_
  rcases HG.out with ⟨k,g1,g2,g3⟩|⟨st',np',lp',gv',ov',g1,g2,g3⟩
  ·exact ⟨HB5.out,.inl ⟨k,ev,false,g1,g2,rfl,g3⟩⟩
  ·exact ⟨HB5.out,.inr (.inl ⟨st',np',lp',gv',ov',g1,by rw [g2];rfl,g3⟩)⟩
 | false =>
  cases q2 with
  | true =>
   clear hk2 hq3 hq4
   go_wp2_with (first
    |(go_at_call 86;(with_reducible refine CA.out.mono ?_);rintro q w5 ⟨g1,ev,rfl,g2⟩;have HE5:=Lib.hid (g1.row HE4.out (Array.getElem?_eq_some_iff.1 HE4.out).1 (by have:=HLt.out;simp;omega));have HB5:=Lib.hid (HB4.out.trans (g1.cut HB4.out.size));have HG:=Lib.hid g2;clear g1 g2 c0 c1 c2 c3 c4 c5 c6 c7 c8 c9 c10 c11 c12)
    |(refine wpList_store_row rfl _ _ _ rfl w.heap.size zeroC rfl rfl _ _ HE5.out (by kernel_rfl) rfl zeroC_all ?_;rw [setRow_id HE5.out])
    | fail)
   refine bodyPost_ret (results_row3 rfl _ _ w.heap.size _ _ _ _ rfl HE5.out Tryz.underlying26 rfl entInfo) rfl ?_
   rcases HG.out with ⟨k,g1,g2,g3⟩|⟨st',np',lp',gv',ov',g1,g2,g3⟩
   ·exact ⟨HB5.out,.inl ⟨k,ev,false,g1,g2,rfl,g3⟩⟩
   ·exact ⟨HB5.out,.inr (.inl ⟨st',np',lp',gv',ov',g1,by rw [g2];rfl,g3⟩)⟩
  | false =>
   cases q3 with
   | true =>
    clear hk2 hq4
    go_wp2_with (first
     |(go_at_call 86;(with_reducible refine CA.out.mono ?_);rintro q w5 ⟨g1,ev,rfl,g2⟩;have HE5:=Lib.hid (g1.row HE4.out (Array.getElem?_eq_some_iff.1 HE4.out).1 (by have:=HLt.out;simp;omega));have HB5:=Lib.hid (HB4.out.trans (g1.cut HB4.out.size));have HG:=Lib.hid g2;clear g1 g2 c0 c1 c2 c3 c4 c5 c6 c7 c8 c9 c10 c11 c12)
     |(refine wpList_store_row rfl _ _ _ rfl w.heap.size zeroC rfl rfl _ _ HE5.out (by kernel_rfl) rfl zeroC_all ?_;rw [setRow_id HE5.out])
     | fail)
    refine bodyPost_ret (results_row3 rfl _ _ w.heap.size _ _ _ _ rfl HE5.out Tryz.underlying26 rfl entInfo) rfl ?_
    rcases HG.out with ⟨k,g1,g2,g3⟩|⟨st',np',lp',gv',ov',g1,g2,g3⟩
    ·exact ⟨HB5.out,.inl ⟨k,ev,false,g1,g2,rfl,g3⟩⟩
    ·exact ⟨HB5.out,.inr (.inl ⟨st',np',lp',gv',ov',g1,by rw [g2];rfl,g3⟩)⟩
   | false =>
    cases q4 with
    | true =>
     clear hk2
     go_wp2_with (first
      |(go_at_call 86;(with_reducible refine CA.out.mono ?_);rintro q w5 ⟨g1,ev,rfl,g2⟩;have HE5:=Lib.hid (g1.row HE4.out (Array.getElem?_eq_some_iff.1 HE4.out).1 (by have:=HLt.out;simp;omega));have HB5:=Lib.hid (HB4.out.trans (g1.cut HB4.out.size));have HG:=Lib.hid g2;clear g1 g2 c0 c1 c2 c3 c4 c5 c6 c7 c8 c9 c10 c11 c12)
      |(refine wpList_store_row rfl _ _ _ rfl w.heap.size zeroC rfl rfl _ _ HE5.out (by kernel_rfl) rfl zeroC_all ?_;rw [setRow_id HE5.out])
      | fail)
     refine bodyPost_ret (results_row3 rfl _ _ w.heap.size _ _ _ _ rfl HE5.out Tryz.underlying26 rfl entInfo) rfl ?_
     rcases HG.out with ⟨k,g1,g2,g3⟩|⟨st',np',lp',gv',ov',g1,g2,g3⟩
     ·exact ⟨HB5.out,.inl ⟨k,ev,false,g1,g2,rfl,g3⟩⟩
     ·exact ⟨HB5.out,.inr (.inl ⟨st',np',lp',gv',ov',g1,by rw [g2];rfl,g3⟩)⟩
    | false=>exact absurd hk2 (by decide)
set_option maxRecDepth 100000 in
set_option maxHeartbeats 8000000 in
theorem next_merr (b:Nat) (s:List UInt8) (st:RSt) (np lp:Option Addr) (gv ov:Value) (hs:s.length≤100000) (ho:StOk s st) (w:World) (hR:RdrAt w b s st np lp gv ov) (hL:∀ W,Bar w.heap.size [b] w W→Laid W) (h0:¬ s.length<st.at_+512) (hz:(sub s st.at_ 512).all (·==0)=false) (hh:(headF (sub s st.at_ 512)).1=0) (hk:aheadB (rawAt (sub s st.at_ 512)).kind=false) (k0:Int) (hm:memberR s { st with at_:=st.at_+512 } (rawAt (sub s st.at_ 512)) (sub s st.at_ 512)=.err k0) :
  Calls Tryz.prog 47 #[.pointer (some ⟨b,0,none⟩)] w (NxOut b s st np lp gv ov (nextR s st) w):=by
 rw [show nextR s st=_ from (nextR_member h0 hz hh hk).trans hm]
 have hB0:=below_alloc1 w (.cells zeroC 26)
 have HB0:=Lib.hid hB0
 have HR0:=Lib.hid (hR.below hB0)
 have HE0:=Lib.hid (heap_alloc_new w (.cells zeroC 26))
 have HLt:=Lib.hid hR.lt
 have CT:=Lib.hid (take_any s st b np lp gv ov 512 512 hs ho.at_ (by omega) _ (hR.below hB0))
 simp only [take512] at CT
 rw [if_neg h0] at CT
 simp only at CT
 rw [show errV 0=.nilIface from rfl] at CT
 have hlen:(sub s st.at_ 512).length=512:=by unfold sub;rw [List.length_take,List.length_drop];omega
 have CZ:=Lib.hid (fun w=>zeroB_any (sub s st.at_ 512) hlen w)
 have CH:=Lib.hid (fun w=>head_any (sub s st.at_ 512) (by omega) w)
 rw [hz] at CZ
 have hhr:=headF_raw _ hh
 have HO:=Lib.hid (ho.on h0)
 have HS:=Lib.hid hs
 have HLd:=Lib.hid hL
 have HK:=Lib.hid hk
 have hgood:=entry_good (sub s st.at_ 512) (ho.on h0)
 have hsum:=rawAt_sum (sub s st.at_ 512)
 generalize sub s st.at_ 512=hd at *
 generalize headF hd=Q at *
 obtain ⟨k,R⟩:=Q
 simp only at CH hh hhr
 subst hh
 rw [← hhr] at HK hgood hsum hm
 have HM:=Lib.hid (And.intro hgood (And.intro hsum hlen))
 have hm:=Lib.hid hm
 rw [show errV 0=.nilIface from rfl] at CH
 have kb:((R.kind.toNat:Int)==76)=(R.kind==76)∧((R.kind.toNat:Int)==75)=(R.kind==75)∧((R.kind.toNat:Int)==120)=(R.kind==120)∧((R.kind.toNat:Int)==103)=(R.kind==103):=⟨u8_at R.kind 76 (by omega),u8_at R.kind 75 (by omega),u8_at R.kind 120 (by omega),u8_at R.kind 103 (by omega)⟩
 have hk2:=HK.out
 unfold aheadB at hk2
 rw [← kb.1,← kb.2.1,← kb.2.2.1,← kb.2.2.2] at hk2
 simp only [Bool.or_eq_false_iff] at hk2
 obtain ⟨hq1,hq2,hq3,hq4⟩:=hk2
 clear h0 hR hL ho hB0 hz hhr hk kb hgood hsum hlen
 unfold rawV at CH
 go_enter Tryz.func47,Tryz.ntmps47
 go_upto_region 7 with (first
  |(go_at_call 84;(with_reducible refine CT.out.mono ?_);rintro q w2 ⟨rfl,g1,g2⟩;have HB2:=Lib.hid (((Bar.of_below HB0.out).trans (g2.cut HB0.out.size):Bar w.heap.size [b] w w2));have HR2:=Lib.hid g1;have HE2:=Lib.hid (g2.row HE0.out (Array.getElem?_eq_some_iff.1 HE0.out).1 (by have:=HLt.out;simp;omega));clear g1 g2)
  |(go_at_call 45;(with_reducible refine (CZ.out _).mono ?_);rintro q wz ⟨rfl,g⟩;replace g:=g.symm;subst g)
  |(go_at_call 85;(with_reducible refine (CH.out _).mono ?_);rintro q w3 ⟨⟨d,rfl⟩,g⟩;have HB3:=Lib.hid (HB2.out.trans (Bar.of_below (g.mono HB2.out.size)));have HR3:=Lib.hid (HR2.out.below g);have HE3:=Lib.hid ((g.block _ (Array.getElem?_eq_some_iff.1 HE2.out).1).trans HE2.out);clear g)
  | fail)
 have hb3:=(Below.refl w3.heap.size w3).alloc (Nat.le_refl _) (.cells (rawC R) 117)
 have HB4:=Lib.hid (HB3.out.trans (Bar.of_below (hb3.mono HB3.out.size)))
 have HR4:=Lib.hid (HR3.out.below hb3)
 have HE4:=Lib.hid ((hb3.block _ (Array.getElem?_eq_some_iff.1 HE3.out).1).trans HE3.out)
 have HW4:=Lib.hid (RawAt.of_row (heap_alloc_new w3 (.cells (rawC R) 117)))
 clear hb3
 unfold rawC at HB4 HR4 HE4 HW4
 have CA:=Lib.hid (member_any b s { st with at_:=st.at_+512 } np lp gv ov R hd HM.out.2.2 HS.out HO.out.at_ HM.out.2.1 HM.out.1 _ HR4.out (HLd.out _ HB4.out).2 (by have:=HO.out.lG;omega) (by have:=HO.out.lO;omega) (fun p hp=>by
  rcases List.mem_append.1 hp with hp|hp
  ·exact HO.out.tG p hp
  ·exact HO.out.tO p hp) _ rfl ⟨by have h1:=mergeF_len (st.G++st.O);have h2:=HO.out.lG;have h3:=HO.out.lO;rw [List.length_append] at h1;simp only at h2 h3 ⊢;omega,fun p hp=>by
  rcases List.mem_append.1 (mergeF_mem hp) with hp|hp
  ·exact HO.out.tG p hp
  ·exact HO.out.tO p hp⟩)
 rw [hm.out] at CA
 replace CA:=Lib.hid (CA.out.mono fun r W (h:MbOut b s np lp gv ov (.err k0) _ r W)=>show Bar _ [b] _ W∧r=.returned (.tuple #[.agg zeroC,.iface 68 (.int .i64 k0)])∧k0≠0 from
  ⟨h.1,by
   rcases h.2 with ⟨k,h1,h2,h3⟩|⟨e,a,v,h1,_⟩
   ·cases h1
    rw [show errV k0=.iface 68 (.int .i64 k0) from if_neg h2] at h3
    exact ⟨h3,h2⟩
   ·cases h1⟩)
 unfold rawV at CA
 generalize (w3.alloc (.cells _ 117))=w4 at *
 obtain ⟨c0,c1,c2,c3,c4,c5,c6,c7,c8,c9,c10,c11,c12⟩:=id HW4.out
 clear CT CZ CH
 go_upto_region 16 with (first
  |(go_at_call 87;(with_reducible refine CA.out.mono ?_);rintro q w5 ⟨g1,rfl,g2⟩;have HE5:=Lib.hid (((Below.refl w5.heap.size w5).alloc (Nat.le_refl _) (.cells zeroC 26)).block _ (Array.getElem?_eq_some_iff.1 (g1.row HE4.out (Array.getElem?_eq_some_iff.1 HE4.out).1 (by have:=HLt.out;simp;omega))).1 |>.trans (g1.row HE4.out (Array.getElem?_eq_some_iff.1 HE4.out).1 (by have:=HLt.out;simp;omega)));have HB5:=Lib.hid ((HB4.out.trans (g1.cut HB4.out.size)).alloc (Nat.le_trans HB4.out.size g1.size) (.cells zeroC 26));have HG:=Lib.hid g2;clear g1 g2 c0 c1 c2 c3 c4 c5 c6 c7 c8 c9 c10 c11 c12)
  | fail)
 have HN5:=Lib.hid (EntAt.of_row (e:=⟨[],0,0,0,0,0,0,0,[],[],[],0,0,[],[]⟩) (v:=.slice none 0 0) (heap_alloc_new w5 (.cells zeroC 26)))
 unfold zeroC at HE5 HB5
 generalize (w5.alloc (.cells _ 26))=w6 at *
 obtain ⟨c0,c1,c2,c3,c4,c5,c6,c7,c8,c9,c10,c11,c12,c13,c14⟩:=id HN5.out
 simp only [show mkS []=⟨#[]⟩ from rfl] at c0 c8 c9 c10 c13
 change _=some (Value.int .u8 0) at c1
 go_wp2_with (first
  |(refine wpList_store_row rfl _ _ _ rfl w.heap.size zeroC rfl rfl _ _ HE5.out (by kernel_rfl) rfl zeroC_all ?_;rw [setRow_id HE5.out])
  | fail)
 refine bodyPost_ret (results_row3 rfl _ _ w.heap.size _ _ _ _ rfl HE5.out Tryz.underlying26 rfl entInfo) rfl ?_
 exact ⟨HB5.out,.inl ⟨k0,_,true,rfl,HG.out,rfl,.inl rfl⟩⟩
set_option maxRecDepth 100000 in
set_option maxHeartbeats 8000000 in
theorem next_mok (b:Nat) (s:List UInt8) (st:RSt) (np lp:Option Addr) (gv ov:Value) (hs:s.length≤100000) (ho:StOk s st) (w:World) (hR:RdrAt w b s st np lp gv ov) (hL:∀ W,Bar w.heap.size [b] w W→Laid W) (h0:¬ s.length<st.at_+512) (hz:(sub s st.at_ 512).all (·==0)=false) (hh:(headF (sub s st.at_ 512)).1=0) (hk:aheadB (rawAt (sub s st.at_ 512)).kind=false) (e0:EntL) (a0:Nat) (hm:memberR s { st with at_:=st.at_+512 } (rawAt (sub s st.at_ 512)) (sub s st.at_ 512)=.found e0 a0) :
  Calls Tryz.prog 47 #[.pointer (some ⟨b,0,none⟩)] w (NxOut b s st np lp gv ov (nextR s st) w):=by
 rw [show nextR s st=_ from (nextR_member h0 hz hh hk).trans hm]
 have hB0:=below_alloc1 w (.cells zeroC 26)
 have HB0:=Lib.hid hB0
 have HR0:=Lib.hid (hR.below hB0)
 have HE0:=Lib.hid (heap_alloc_new w (.cells zeroC 26))
 have HLt:=Lib.hid hR.lt
 have CT:=Lib.hid (take_any s st b np lp gv ov 512 512 hs ho.at_ (by omega) _ (hR.below hB0))
 simp only [take512] at CT
 rw [if_neg h0] at CT
 simp only at CT
 rw [show errV 0=.nilIface from rfl] at CT
 have hlen:(sub s st.at_ 512).length=512:=by unfold sub;rw [List.length_take,List.length_drop];omega
 have CZ:=Lib.hid (fun w=>zeroB_any (sub s st.at_ 512) hlen w)
 have CH:=Lib.hid (fun w=>head_any (sub s st.at_ 512) (by omega) w)
 rw [hz] at CZ
 have hhr:=headF_raw _ hh
 have HO:=Lib.hid (ho.on h0)
 have HS:=Lib.hid hs
 have HLd:=Lib.hid hL
 have HK:=Lib.hid hk
 have hgood:=entry_good (sub s st.at_ 512) (ho.on h0)
 have hsum:=rawAt_sum (sub s st.at_ 512)
 generalize sub s st.at_ 512=hd at *
 generalize headF hd=Q at *
 obtain ⟨k,R⟩:=Q
 simp only at CH hh hhr
 subst hh
 rw [← hhr] at HK hgood hsum hm
 have HM:=Lib.hid (And.intro hgood (And.intro hsum hlen))
 have hm:=Lib.hid hm
 rw [show errV 0=.nilIface from rfl] at CH
 have kb:((R.kind.toNat:Int)==76)=(R.kind==76)∧((R.kind.toNat:Int)==75)=(R.kind==75)∧((R.kind.toNat:Int)==120)=(R.kind==120)∧((R.kind.toNat:Int)==103)=(R.kind==103):=⟨u8_at R.kind 76 (by omega),u8_at R.kind 75 (by omega),u8_at R.kind 120 (by omega),u8_at R.kind 103 (by omega)⟩
 have hk2:=HK.out
 unfold aheadB at hk2
 rw [← kb.1,← kb.2.1,← kb.2.2.1,← kb.2.2.2] at hk2
 simp only [Bool.or_eq_false_iff] at hk2
 obtain ⟨hq1,hq2,hq3,hq4⟩:=hk2
 have hR':=hR
 clear h0 hR hL ho hB0 hz hhr hk kb hgood hsum hlen
 unfold rawV at CH
 go_enter Tryz.func47,Tryz.ntmps47
 go_upto_region 7 with (first
  |(go_at_call 84;(with_reducible refine CT.out.mono ?_);rintro q w2 ⟨rfl,g1,g2⟩;have HB2:=Lib.hid (((Bar.of_below HB0.out).trans (g2.cut HB0.out.size):Bar w.heap.size [b] w w2));have HR2:=Lib.hid g1;have HE2:=Lib.hid (g2.row HE0.out (Array.getElem?_eq_some_iff.1 HE0.out).1 (by have:=HLt.out;simp;omega));clear g1 g2)
  |(go_at_call 45;(with_reducible refine (CZ.out _).mono ?_);rintro q wz ⟨rfl,g⟩;replace g:=g.symm;subst g)
  |(go_at_call 85;(with_reducible refine (CH.out _).mono ?_);rintro q w3 ⟨⟨d,rfl⟩,g⟩;have HB3:=Lib.hid (HB2.out.trans (Bar.of_below (g.mono HB2.out.size)));have HR3:=Lib.hid (HR2.out.below g);have HE3:=Lib.hid ((g.block _ (Array.getElem?_eq_some_iff.1 HE2.out).1).trans HE2.out);clear g)
  | fail)
 have hb3:=(Below.refl w3.heap.size w3).alloc (Nat.le_refl _) (.cells (rawC R) 117)
 have HB4:=Lib.hid (HB3.out.trans (Bar.of_below (hb3.mono HB3.out.size)))
 have HR4:=Lib.hid (HR3.out.below hb3)
 have HE4:=Lib.hid ((hb3.block _ (Array.getElem?_eq_some_iff.1 HE3.out).1).trans HE3.out)
 have HW4:=Lib.hid (RawAt.of_row (heap_alloc_new w3 (.cells (rawC R) 117)))
 clear hb3
 unfold rawC at HB4 HR4 HE4 HW4
 have CA:=Lib.hid (member_any b s { st with at_:=st.at_+512 } np lp gv ov R hd HM.out.2.2 HS.out HO.out.at_ HM.out.2.1 HM.out.1 _ HR4.out (HLd.out _ HB4.out).2 (by have:=HO.out.lG;omega) (by have:=HO.out.lO;omega) (fun p hp=>by
  rcases List.mem_append.1 hp with hp|hp
  ·exact HO.out.tG p hp
  ·exact HO.out.tO p hp) _ rfl ⟨by have h1:=mergeF_len (st.G++st.O);have h2:=HO.out.lG;have h3:=HO.out.lO;rw [List.length_append] at h1;simp only at h2 h3 ⊢;omega,fun p hp=>by
  rcases List.mem_append.1 (mergeF_mem hp) with hp|hp
  ·exact HO.out.tG p hp
  ·exact HO.out.tO p hp⟩)
 rw [hm.out] at CA
 replace CA:=Lib.hid (CA.out.mono fun r W (h:MbOut b s np lp gv ov (.found e0 a0) _ r W)=>show Bar _ [b] _ W∧∃ ad n cap,r=.returned (.tuple #[entV e0 (.slice ad n cap),.nilIface])∧PcNew _ W (.slice ad n cap) e0.map∧GoodE e0∧a0≤s.length∧W.heap[b]?=some (.cells (rdrC s a0 np lp gv ov) 82 (0,0)) from
  ⟨h.1,by
   rcases h.2 with ⟨k,h1,_⟩|⟨e,a,v,h1,h2,h3,h4⟩
   ·cases h1
   ·cases h1
    obtain ⟨ad,n,cap,hv⟩:=h3.shape
    subst hv
    exact ⟨ad,n,cap,h2,h3,h4⟩⟩)
 unfold entV at CA
 unfold rawV at CA
 have HW3:=Lib.hid (show w.heap.size≤(w3.alloc (.cells (rawC R) 117)).heap.size from HB4.out.size)
 unfold rawC at HW3
 generalize (w3.alloc (.cells _ 117))=w4 at *
 obtain ⟨c0,c1,c2,c3,c4,c5,c6,c7,c8,c9,c10,c11,c12⟩:=id HW4.out
 have HRw:=Lib.hid hR'
 clear CT CZ CH hR'
 go_upto_region 16 with (first
  |(go_at_call 87;(with_reducible refine CA.out.mono ?_);rintro q w5 ⟨g1,ad,n,cap,rfl,g2,g3,g4,g5⟩;have hx:=g1.row HE4.out (Array.getElem?_eq_some_iff.1 HE4.out).1 (by have:=HLt.out;simp;omega);have hbl:=(Below.refl w5.heap.size w5).alloc (Nat.le_refl _) (.cells (entC e0 (.slice ad n cap)) 26);have HE5:=Lib.hid ((hbl.block _ (Array.getElem?_eq_some_iff.1 hx).1).trans hx);have HB5:=Lib.hid ((HB4.out.trans (g1.cut HB4.out.size)).alloc (Nat.le_trans HB4.out.size g1.size) (.cells (entC e0 (.slice ad n cap)) 26));have HP5:=Lib.hid (g2.bar (X:=[]) (Bar.of_below hbl) (fun x hx=>by cases hx));have HD5:=Lib.hid ((hbl.block _ (Array.getElem?_eq_some_iff.1 g5).1).trans g5);have HG:=Lib.hid (And.intro g3 g4);clear g1 g2 g3 g4 g5 hx hbl c0 c1 c2 c3 c4 c5 c6 c7 c8 c9 c10 c11 c12)
  | fail)
 have HN5:=Lib.hid (EntAt.of_row (heap_alloc_new w5 (.cells (entC e0 (.slice ad n cap)) 26)))
 unfold entC at HE5 HB5 HP5 HD5
 have HSz:=Lib.hid (show w.heap.size<w4.heap.size from (Array.getElem?_eq_some_iff.1 HE4.out).1)
 generalize (w5.alloc (.cells _ 26))=w6 at *
 obtain ⟨c0,c1,c2,c3,c4,c5,c6,c7,c8,c9,c10,c11,c12,c13,c14⟩:=id HN5.out
 go_wp2_with (first
  |(refine wpList_store_row rfl _ _ _ rfl w.heap.size (entC e0 (.slice ad n cap)) rfl rfl _ _ HE5.out (by kernel_rfl) rfl (entC_all _ _ rfl) ?_;have HR7:=Lib.hid (setRow_heap _ _ _ (entC e0 (.slice ad n cap)) _ _ HE5.out);have HB7:=Lib.hid (HB5.out.setRow (b:=w.heap.size) (.inr (Nat.le_refl _)) (entC e0 (.slice ad n cap)));have HD7:=Lib.hid ((setRow_other _ w.heap.size b (entC e0 (.slice ad n cap)) (by have:=HLt.out;omega)).trans HD5.out);have HP7:=Lib.hid (HP5.out.bar (X:=[w.heap.size]) ((Bar.refl _ _ _).setRow (b:=w.heap.size) (.inl (by simp)) (entC e0 (.slice ad n cap))) (fun x hx=>by have:=HSz.out;simp at hx;omega));generalize (World.setRow _ _ _)=w7 at *)
  | fail)
 refine bodyPost_ret (results_row3 rfl _ _ w.heap.size _ _ _ _ rfl HR7.out Tryz.underlying26 rfl entInfo) rfl ?_
 exact ⟨HB7.out,.inr (.inr ⟨e0,a0,_,rfl,rfl,HP7.out.mono (Nat.le_of_lt HSz.out),HG.out.1,HG.out.2,HRw.out.bar HB7.out (fun x hx _=>by simpa using hx) HD7.out⟩)⟩
end Go.Proofs.YtdjcjaidklgamaaGreatDoor
end
