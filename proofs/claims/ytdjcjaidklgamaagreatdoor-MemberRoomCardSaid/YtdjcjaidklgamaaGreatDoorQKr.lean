import Derived.Test.YtdjcjaidklgamaaGreatDoorQEv
import Derived.Test.YtdjcjaidklgamaaGreatDoorQHw
set_option linter.unusedSimpArgs false
set_option linter.unusedVariables false
section
namespace Go.Proofs.YtdjcjaidklgamaaGreatDoor
open Go.RowKit Go.Joins
set_option maxRecDepth 100000 in
set_option maxHeartbeats 8000000 in
theorem room_t (e:EntL) (ad:Option Addr) (cap:Nat) (ho:EntOk e) (hc:e.map.length≤cap) (w:World) (hM:PiecesAt w ad e.map) (hg:ErrLaid w) (hp:Px.PowLaid w) (ha:Px.AtoiLaid w) (hL:∀ w,Calls Tryz.prog 18 #[entV e (.slice ad e.map.length cap)] w fun r w'=>r=.returned (.bool true)∧Below w.heap.size w w') :
  Calls Tryz.prog 7 #[entV e (.slice ad e.map.length cap)] w fun r w'=>r=.returned (.bool true)∧Below w.heap.size w w':=by
 have hE0:=EntAt.new w e (.slice ad e.map.length cap) 26
 have hB0:=Lib.hid (below_alloc1 w (.cells (entC e (.slice ad e.map.length cap)) 26))
 have hEc0:=Lib.hid hE0
 have HM:=Lib.hid (fun W (h:Below w.heap.size w W)=>hM.below h)
 have KT:=Lib.hid (fun W (h:Below w.heap.size w W)=>told_any W (hp.below h) ⟨hp.below h,ha.below h⟩ (hg.below h))
 have KL:=Lib.hid (fun W (h:Below w.heap.size w W)=>hL W)
 have KR:=Lib.hid (fun W (h:Below w.heap.size w W)=>rightM_any e ad cap ho W (hM.below h))
 clear hE0 hL
 unfold entC at hEc0 hB0
 unfold entV at KL KR ⊢
 clear hM hc ho hg hp ha
 generalize e.map.length=n at *
 go_enter Tryz.func7,Tryz.ntmps7
 go_wp2_with (first
  |(go_at_call 17;(with_reducible refine (KT.out _ hB0.out).mono ?_);rintro r w1 ⟨rfl,h1⟩;have hB1:=Lib.hid (hB0.out.trans (h1.mono hB0.out.size));have hEc1:=Lib.hid (hEc0.out.below h1 hEc0.out.lt);clear h1;(try clear c0 c1 c2 c3 c4 c5 c6 c7 c8 c9 c10 c11 c12 c13 c14);obtain ⟨c0,c1,c2,c3,c4,c5,c6,c7,c8,c9,c10,c11,c12,c13,c14⟩:=id hEc1.out)
  |(go_at_call 18;(with_reducible refine (KL.out _ hB1.out).mono ?_);rintro r w2 ⟨rfl,h2⟩;have hB2:=Lib.hid (hB1.out.trans (h2.mono hB1.out.size));have hEc2:=Lib.hid (hEc1.out.below h2 hEc1.out.lt);clear h2;(try clear c0 c1 c2 c3 c4 c5 c6 c7 c8 c9 c10 c11 c12 c13 c14);obtain ⟨c0,c1,c2,c3,c4,c5,c6,c7,c8,c9,c10,c11,c12,c13,c14⟩:=id hEc2.out)
  | fail)
 go_ret
 exact ⟨rfl,hB2.out⟩
set_option maxRecDepth 100000 in
set_option maxHeartbeats 8000000 in
theorem room_w (e:EntL) (ad:Option Addr) (cap:Nat) (ho:EntOk e) (hc:e.map.length≤cap) (w:World) (hM:PiecesAt w ad e.map) (hg:ErrLaid w) (hp:Px.PowLaid w) (ha:Px.AtoiLaid w) (hL:∀ w,Calls Tryz.prog 18 #[entV e (.slice ad e.map.length cap)] w fun r w'=>r=.returned (.bool false)∧Below w.heap.size w w') (hr:rightE e=false) :
  Calls Tryz.prog 7 #[entV e (.slice ad e.map.length cap)] w fun r w'=>r=.returned (.bool true)∧Below w.heap.size w w':=by
 have hE0:=EntAt.new w e (.slice ad e.map.length cap) 26
 have hB0:=Lib.hid (below_alloc1 w (.cells (entC e (.slice ad e.map.length cap)) 26))
 have hEc0:=Lib.hid hE0
 have HM:=Lib.hid (fun W (h:Below w.heap.size w W)=>hM.below h)
 have KT:=Lib.hid (fun W (h:Below w.heap.size w W)=>told_any W (hp.below h) ⟨hp.below h,ha.below h⟩ (hg.below h))
 have KL:=Lib.hid (fun W (h:Below w.heap.size w W)=>hL W)
 have KR:=Lib.hid (fun W (h:Below w.heap.size w W)=>rightM_any e ad cap ho W (hM.below h))
 clear hE0 hL
 rw [hr] at KR
 unfold entC at hEc0 hB0
 unfold entV at KL KR ⊢
 clear hM hc ho hg hp ha hr
 generalize e.map.length=n at *
 go_enter Tryz.func7,Tryz.ntmps7
 go_wp2_with (first
  |(go_at_call 17;(with_reducible refine (KT.out _ hB0.out).mono ?_);rintro r w1 ⟨rfl,h1⟩;have hB1:=Lib.hid (hB0.out.trans (h1.mono hB0.out.size));have hEc1:=Lib.hid (hEc0.out.below h1 hEc0.out.lt);clear h1;(try clear c0 c1 c2 c3 c4 c5 c6 c7 c8 c9 c10 c11 c12 c13 c14);obtain ⟨c0,c1,c2,c3,c4,c5,c6,c7,c8,c9,c10,c11,c12,c13,c14⟩:=id hEc1.out)
  |(go_at_call 18;(with_reducible refine (KL.out _ hB1.out).mono ?_);rintro r w2 ⟨rfl,h2⟩;have hB2:=Lib.hid (hB1.out.trans (h2.mono hB1.out.size));have hEc2:=Lib.hid (hEc1.out.below h2 hEc1.out.lt);clear h2;(try clear c0 c1 c2 c3 c4 c5 c6 c7 c8 c9 c10 c11 c12 c13 c14);obtain ⟨c0,c1,c2,c3,c4,c5,c6,c7,c8,c9,c10,c11,c12,c13,c14⟩:=id hEc2.out)
  |(go_at_call 23;(with_reducible refine (KR.out _ hB2.out).mono ?_);rintro r w3 ⟨rfl,h3⟩;have hB3:=Lib.hid (hB2.out.trans (h3.mono hB2.out.size));have hEc3:=Lib.hid (hEc2.out.below h3 hEc2.out.lt);clear h3;(try clear c0 c1 c2 c3 c4 c5 c6 c7 c8 c9 c10 c11 c12 c13 c14);obtain ⟨c0,c1,c2,c3,c4,c5,c6,c7,c8,c9,c10,c11,c12,c13,c14⟩:=id hEc3.out)
  | fail)
 go_ret
 exact ⟨rfl,hB3.out⟩
set_option maxRecDepth 100000 in
set_option maxHeartbeats 8000000 in
theorem room_111 (e:EntL) (ad:Option Addr) (cap:Nat) (ho:EntOk e) (hc:e.map.length≤cap) (w:World) (hM:PiecesAt w ad e.map) (hg:ErrLaid w) (hp:Px.PowLaid w) (ha:Px.AtoiLaid w) (hL:∀ w,Calls Tryz.prog 18 #[entV e (.slice ad e.map.length cap)] w fun r w'=>r=.returned (.bool false)∧Below w.heap.size w w') (hs:Small e) (hr:rightE e=true) (hn:e.nano=0) (k4:(eWriteF 4 e).2=0) (k2:(eWriteF 2 e).2=0) (k1:(eWriteF 1 e).2=0) (k3:(eWriteF 3 e).2=0) :
  Calls Tryz.prog 7 #[entV e (.slice ad e.map.length cap)] w fun r w'=>r=.returned (.bool true)∧Below w.heap.size w w':=by
 have hE0:=EntAt.new w e (.slice ad e.map.length cap) 26
 have hB0:=Lib.hid (below_alloc1 w (.cells (entC e (.slice ad e.map.length cap)) 26))
 have hEc0:=Lib.hid hE0
 have HM:=Lib.hid (fun W (h:Below w.heap.size w W)=>hM.below h)
 have KT:=Lib.hid (fun W (h:Below w.heap.size w W)=>told_any W (hp.below h) ⟨hp.below h,ha.below h⟩ (hg.below h))
 have KL:=Lib.hid (fun W (h:Below w.heap.size w W)=>hL W)
 have KR:=Lib.hid (fun W (h:Below w.heap.size w W)=>rightM_any e ad cap ho W (hM.below h))
 clear hE0 hL
 rw [hr] at KR
 have KW4:=Lib.hid (fun W (h:Below w.heap.size w W)=>memWrite_all 4 e ad cap ho hs hc W (hp.below h) (HM.out W h))
 rw [k4,errV_z] at KW4
 generalize (eWriteF 4 e).1=s4 at KW4
 have KW2:=Lib.hid (fun W (h:Below w.heap.size w W)=>memWrite_all 2 e ad cap ho hs hc W (hp.below h) (HM.out W h))
 rw [k2,errV_z] at KW2
 generalize (eWriteF 2 e).1=s2 at KW2
 have KW1:=Lib.hid (fun W (h:Below w.heap.size w W)=>memWrite_all 1 e ad cap ho hs hc W (hp.below h) (HM.out W h))
 rw [k1,errV_z] at KW1
 generalize (eWriteF 1 e).1=s1 at KW1
 have KW3:=Lib.hid (fun W (h:Below w.heap.size w W)=>memWrite_all 3 e ad cap ho hs hc W (hp.below h) (HM.out W h))
 rw [k3,errV_z] at KW3
 generalize (eWriteF 3 e).1=s3 at KW3
 have q:(e.nano==0)=true:=by rw [hn];rfl
 unfold entC at hEc0 hB0
 unfold entV at KL KR KW4 KW2 KW1 KW3 ⊢
 clear hM hc ho hg hp ha hs hr hn k4 k2 k1 k3 HM
 generalize e.map.length=n at *
 go_enter Tryz.func7,Tryz.ntmps7
 go_wp2_with (first
  |(go_at_call 17;(with_reducible refine (KT.out _ hB0.out).mono ?_);rintro r w1 ⟨rfl,h1⟩;have hB1:=Lib.hid (hB0.out.trans (h1.mono hB0.out.size));have hEc1:=Lib.hid (hEc0.out.below h1 hEc0.out.lt);clear h1;(try clear c0 c1 c2 c3 c4 c5 c6 c7 c8 c9 c10 c11 c12 c13 c14);obtain ⟨c0,c1,c2,c3,c4,c5,c6,c7,c8,c9,c10,c11,c12,c13,c14⟩:=id hEc1.out)
  |(go_at_call 18;(with_reducible refine (KL.out _ hB1.out).mono ?_);rintro r w2 ⟨rfl,h2⟩;have hB2:=Lib.hid (hB1.out.trans (h2.mono hB1.out.size));have hEc2:=Lib.hid (hEc1.out.below h2 hEc1.out.lt);clear h2;(try clear c0 c1 c2 c3 c4 c5 c6 c7 c8 c9 c10 c11 c12 c13 c14);obtain ⟨c0,c1,c2,c3,c4,c5,c6,c7,c8,c9,c10,c11,c12,c13,c14⟩:=id hEc2.out)
  |(go_at_call 23;(with_reducible refine (KR.out _ hB2.out).mono ?_);rintro r w3 ⟨rfl,h3⟩;have hB3:=Lib.hid (hB2.out.trans (h3.mono hB2.out.size));have hEc3:=Lib.hid (hEc2.out.below h3 hEc2.out.lt);clear h3;(try clear c0 c1 c2 c3 c4 c5 c6 c7 c8 c9 c10 c11 c12 c13 c14);obtain ⟨c0,c1,c2,c3,c4,c5,c6,c7,c8,c9,c10,c11,c12,c13,c14⟩:=id hEc3.out)
  |(go_at_call 20;(with_reducible refine (KW4.out _ hB3.out).mono ?_);rintro r w4 ⟨rfl,h4⟩;have hB4:=Lib.hid (hB3.out.trans (h4.mono hB3.out.size));have hEc4:=Lib.hid (hEc3.out.below h4 hEc3.out.lt);clear h4;(try clear c0 c1 c2 c3 c4 c5 c6 c7 c8 c9 c10 c11 c12 c13 c14);obtain ⟨c0,c1,c2,c3,c4,c5,c6,c7,c8,c9,c10,c11,c12,c13,c14⟩:=id hEc4.out)
  |(go_at_call 20;(with_reducible refine (KW2.out _ hB4.out).mono ?_);rintro r w5 ⟨rfl,h5⟩;have hB5:=Lib.hid (hB4.out.trans (h5.mono hB4.out.size));have hEc5:=Lib.hid (hEc4.out.below h5 hEc4.out.lt);clear h5;(try clear c0 c1 c2 c3 c4 c5 c6 c7 c8 c9 c10 c11 c12 c13 c14);obtain ⟨c0,c1,c2,c3,c4,c5,c6,c7,c8,c9,c10,c11,c12,c13,c14⟩:=id hEc5.out)
  |(go_at_call 20;(with_reducible refine (KW1.out _ hB5.out).mono ?_);rintro r w6 ⟨rfl,h6⟩;have hB6:=Lib.hid (hB5.out.trans (h6.mono hB5.out.size));have hEc6:=Lib.hid (hEc5.out.below h6 hEc5.out.lt);clear h6;(try clear c0 c1 c2 c3 c4 c5 c6 c7 c8 c9 c10 c11 c12 c13 c14);obtain ⟨c0,c1,c2,c3,c4,c5,c6,c7,c8,c9,c10,c11,c12,c13,c14⟩:=id hEc6.out)
  |(go_at_call 20;(with_reducible refine (KW3.out _ hB6.out).mono ?_);rintro r w7 ⟨rfl,h7⟩;have hB7:=Lib.hid (hB6.out.trans (h7.mono hB6.out.size));have hEc7:=Lib.hid (hEc6.out.below h7 hEc6.out.lt);clear h7;(try clear c0 c1 c2 c3 c4 c5 c6 c7 c8 c9 c10 c11 c12 c13 c14);obtain ⟨c0,c1,c2,c3,c4,c5,c6,c7,c8,c9,c10,c11,c12,c13,c14⟩:=id hEc7.out)
  | fail)
 go_quiet (fail)
 go_wp2
 go_ret
 exact ⟨by first|rfl|simp,hB7.out.trans (below_draws _ _ _)⟩
set_option maxRecDepth 100000 in
set_option maxHeartbeats 8000000 in
theorem room_110 (e:EntL) (ad:Option Addr) (cap:Nat) (ho:EntOk e) (hc:e.map.length≤cap) (w:World) (hM:PiecesAt w ad e.map) (hg:ErrLaid w) (hp:Px.PowLaid w) (ha:Px.AtoiLaid w) (hL:∀ w,Calls Tryz.prog 18 #[entV e (.slice ad e.map.length cap)] w fun r w'=>r=.returned (.bool false)∧Below w.heap.size w w') (hs:Small e) (hr:rightE e=true) (hn:e.nano=0) (k4:(eWriteF 4 e).2=0) (k2:(eWriteF 2 e).2=0) (k1:(eWriteF 1 e).2≠0) (k3:(eWriteF 3 e).2=0) :
  Calls Tryz.prog 7 #[entV e (.slice ad e.map.length cap)] w fun r w'=>r=.returned (.bool true)∧Below w.heap.size w w':=by
 have hE0:=EntAt.new w e (.slice ad e.map.length cap) 26
 have hB0:=Lib.hid (below_alloc1 w (.cells (entC e (.slice ad e.map.length cap)) 26))
 have hEc0:=Lib.hid hE0
 have HM:=Lib.hid (fun W (h:Below w.heap.size w W)=>hM.below h)
 have KT:=Lib.hid (fun W (h:Below w.heap.size w W)=>told_any W (hp.below h) ⟨hp.below h,ha.below h⟩ (hg.below h))
 have KL:=Lib.hid (fun W (h:Below w.heap.size w W)=>hL W)
 have KR:=Lib.hid (fun W (h:Below w.heap.size w W)=>rightM_any e ad cap ho W (hM.below h))
 clear hE0 hL
 rw [hr] at KR
 have KW4:=Lib.hid (fun W (h:Below w.heap.size w W)=>memWrite_all 4 e ad cap ho hs hc W (hp.below h) (HM.out W h))
 rw [k4,errV_z] at KW4
 generalize (eWriteF 4 e).1=s4 at KW4
 have KW2:=Lib.hid (fun W (h:Below w.heap.size w W)=>memWrite_all 2 e ad cap ho hs hc W (hp.below h) (HM.out W h))
 rw [k2,errV_z] at KW2
 generalize (eWriteF 2 e).1=s2 at KW2
 have KW1:=Lib.hid (fun W (h:Below w.heap.size w W)=>memWrite_all 1 e ad cap ho hs hc W (hp.below h) (HM.out W h))
 obtain ⟨v1,hv1⟩:=errV_nz k1
 rw [hv1] at KW1
 clear hv1
 generalize (eWriteF 1 e).1=s1 at KW1
 have KW3:=Lib.hid (fun W (h:Below w.heap.size w W)=>memWrite_all 3 e ad cap ho hs hc W (hp.below h) (HM.out W h))
 rw [k3,errV_z] at KW3
 generalize (eWriteF 3 e).1=s3 at KW3
 have q:(e.nano==0)=true:=by rw [hn];rfl
 unfold entC at hEc0 hB0
 unfold entV at KL KR KW4 KW2 KW1 KW3 ⊢
 clear hM hc ho hg hp ha hs hr hn k4 k2 k1 k3 HM
 generalize e.map.length=n at *
 go_enter Tryz.func7,Tryz.ntmps7
 go_wp2_with (first
  |(go_at_call 17;(with_reducible refine (KT.out _ hB0.out).mono ?_);rintro r w1 ⟨rfl,h1⟩;have hB1:=Lib.hid (hB0.out.trans (h1.mono hB0.out.size));have hEc1:=Lib.hid (hEc0.out.below h1 hEc0.out.lt);clear h1;(try clear c0 c1 c2 c3 c4 c5 c6 c7 c8 c9 c10 c11 c12 c13 c14);obtain ⟨c0,c1,c2,c3,c4,c5,c6,c7,c8,c9,c10,c11,c12,c13,c14⟩:=id hEc1.out)
  |(go_at_call 18;(with_reducible refine (KL.out _ hB1.out).mono ?_);rintro r w2 ⟨rfl,h2⟩;have hB2:=Lib.hid (hB1.out.trans (h2.mono hB1.out.size));have hEc2:=Lib.hid (hEc1.out.below h2 hEc1.out.lt);clear h2;(try clear c0 c1 c2 c3 c4 c5 c6 c7 c8 c9 c10 c11 c12 c13 c14);obtain ⟨c0,c1,c2,c3,c4,c5,c6,c7,c8,c9,c10,c11,c12,c13,c14⟩:=id hEc2.out)
  |(go_at_call 23;(with_reducible refine (KR.out _ hB2.out).mono ?_);rintro r w3 ⟨rfl,h3⟩;have hB3:=Lib.hid (hB2.out.trans (h3.mono hB2.out.size));have hEc3:=Lib.hid (hEc2.out.below h3 hEc2.out.lt);clear h3;(try clear c0 c1 c2 c3 c4 c5 c6 c7 c8 c9 c10 c11 c12 c13 c14);obtain ⟨c0,c1,c2,c3,c4,c5,c6,c7,c8,c9,c10,c11,c12,c13,c14⟩:=id hEc3.out)
  |(go_at_call 20;(with_reducible refine (KW4.out _ hB3.out).mono ?_);rintro r w4 ⟨rfl,h4⟩;have hB4:=Lib.hid (hB3.out.trans (h4.mono hB3.out.size));have hEc4:=Lib.hid (hEc3.out.below h4 hEc3.out.lt);clear h4;(try clear c0 c1 c2 c3 c4 c5 c6 c7 c8 c9 c10 c11 c12 c13 c14);obtain ⟨c0,c1,c2,c3,c4,c5,c6,c7,c8,c9,c10,c11,c12,c13,c14⟩:=id hEc4.out)
  |(go_at_call 20;(with_reducible refine (KW2.out _ hB4.out).mono ?_);rintro r w5 ⟨rfl,h5⟩;have hB5:=Lib.hid (hB4.out.trans (h5.mono hB4.out.size));have hEc5:=Lib.hid (hEc4.out.below h5 hEc4.out.lt);clear h5;(try clear c0 c1 c2 c3 c4 c5 c6 c7 c8 c9 c10 c11 c12 c13 c14);obtain ⟨c0,c1,c2,c3,c4,c5,c6,c7,c8,c9,c10,c11,c12,c13,c14⟩:=id hEc5.out)
  |(go_at_call 20;(with_reducible refine (KW1.out _ hB5.out).mono ?_);rintro r w6 ⟨rfl,h6⟩;have hB6:=Lib.hid (hB5.out.trans (h6.mono hB5.out.size));have hEc6:=Lib.hid (hEc5.out.below h6 hEc5.out.lt);clear h6;(try clear c0 c1 c2 c3 c4 c5 c6 c7 c8 c9 c10 c11 c12 c13 c14);obtain ⟨c0,c1,c2,c3,c4,c5,c6,c7,c8,c9,c10,c11,c12,c13,c14⟩:=id hEc6.out)
  |(go_at_call 20;(with_reducible refine (KW3.out _ hB6.out).mono ?_);rintro r w7 ⟨rfl,h7⟩;have hB7:=Lib.hid (hB6.out.trans (h7.mono hB6.out.size));have hEc7:=Lib.hid (hEc6.out.below h7 hEc6.out.lt);clear h7;(try clear c0 c1 c2 c3 c4 c5 c6 c7 c8 c9 c10 c11 c12 c13 c14);obtain ⟨c0,c1,c2,c3,c4,c5,c6,c7,c8,c9,c10,c11,c12,c13,c14⟩:=id hEc7.out)
  | fail)
 go_quiet (fail)
 go_wp2
 go_ret
 exact ⟨by first|rfl|simp,hB7.out.trans (below_draws _ _ _)⟩
set_option maxRecDepth 100000 in
set_option maxHeartbeats 8000000 in
theorem room_101 (e:EntL) (ad:Option Addr) (cap:Nat) (ho:EntOk e) (hc:e.map.length≤cap) (w:World) (hM:PiecesAt w ad e.map) (hg:ErrLaid w) (hp:Px.PowLaid w) (ha:Px.AtoiLaid w) (hL:∀ w,Calls Tryz.prog 18 #[entV e (.slice ad e.map.length cap)] w fun r w'=>r=.returned (.bool false)∧Below w.heap.size w w') (hs:Small e) (hr:rightE e=true) (hn:e.nano=0) (k4:(eWriteF 4 e).2=0) (k2:(eWriteF 2 e).2≠0) (k1:(eWriteF 1 e).2=0) (k3:(eWriteF 3 e).2=0) :
  Calls Tryz.prog 7 #[entV e (.slice ad e.map.length cap)] w fun r w'=>r=.returned (.bool true)∧Below w.heap.size w w':=by
 have hE0:=EntAt.new w e (.slice ad e.map.length cap) 26
 have hB0:=Lib.hid (below_alloc1 w (.cells (entC e (.slice ad e.map.length cap)) 26))
 have hEc0:=Lib.hid hE0
 have HM:=Lib.hid (fun W (h:Below w.heap.size w W)=>hM.below h)
 have KT:=Lib.hid (fun W (h:Below w.heap.size w W)=>told_any W (hp.below h) ⟨hp.below h,ha.below h⟩ (hg.below h))
 have KL:=Lib.hid (fun W (h:Below w.heap.size w W)=>hL W)
 have KR:=Lib.hid (fun W (h:Below w.heap.size w W)=>rightM_any e ad cap ho W (hM.below h))
 clear hE0 hL
 rw [hr] at KR
 have KW4:=Lib.hid (fun W (h:Below w.heap.size w W)=>memWrite_all 4 e ad cap ho hs hc W (hp.below h) (HM.out W h))
 rw [k4,errV_z] at KW4
 generalize (eWriteF 4 e).1=s4 at KW4
 have KW2:=Lib.hid (fun W (h:Below w.heap.size w W)=>memWrite_all 2 e ad cap ho hs hc W (hp.below h) (HM.out W h))
 obtain ⟨v2,hv2⟩:=errV_nz k2
 rw [hv2] at KW2
 clear hv2
 generalize (eWriteF 2 e).1=s2 at KW2
 have KW1:=Lib.hid (fun W (h:Below w.heap.size w W)=>memWrite_all 1 e ad cap ho hs hc W (hp.below h) (HM.out W h))
 rw [k1,errV_z] at KW1
 generalize (eWriteF 1 e).1=s1 at KW1
 have KW3:=Lib.hid (fun W (h:Below w.heap.size w W)=>memWrite_all 3 e ad cap ho hs hc W (hp.below h) (HM.out W h))
 rw [k3,errV_z] at KW3
 generalize (eWriteF 3 e).1=s3 at KW3
 have q:(e.nano==0)=true:=by rw [hn];rfl
 unfold entC at hEc0 hB0
 unfold entV at KL KR KW4 KW2 KW1 KW3 ⊢
 clear hM hc ho hg hp ha hs hr hn k4 k2 k1 k3 HM
 generalize e.map.length=n at *
 go_enter Tryz.func7,Tryz.ntmps7
 go_wp2_with (first
  |(go_at_call 17;(with_reducible refine (KT.out _ hB0.out).mono ?_);rintro r w1 ⟨rfl,h1⟩;have hB1:=Lib.hid (hB0.out.trans (h1.mono hB0.out.size));have hEc1:=Lib.hid (hEc0.out.below h1 hEc0.out.lt);clear h1;(try clear c0 c1 c2 c3 c4 c5 c6 c7 c8 c9 c10 c11 c12 c13 c14);obtain ⟨c0,c1,c2,c3,c4,c5,c6,c7,c8,c9,c10,c11,c12,c13,c14⟩:=id hEc1.out)
  |(go_at_call 18;(with_reducible refine (KL.out _ hB1.out).mono ?_);rintro r w2 ⟨rfl,h2⟩;have hB2:=Lib.hid (hB1.out.trans (h2.mono hB1.out.size));have hEc2:=Lib.hid (hEc1.out.below h2 hEc1.out.lt);clear h2;(try clear c0 c1 c2 c3 c4 c5 c6 c7 c8 c9 c10 c11 c12 c13 c14);obtain ⟨c0,c1,c2,c3,c4,c5,c6,c7,c8,c9,c10,c11,c12,c13,c14⟩:=id hEc2.out)
  |(go_at_call 23;(with_reducible refine (KR.out _ hB2.out).mono ?_);rintro r w3 ⟨rfl,h3⟩;have hB3:=Lib.hid (hB2.out.trans (h3.mono hB2.out.size));have hEc3:=Lib.hid (hEc2.out.below h3 hEc2.out.lt);clear h3;(try clear c0 c1 c2 c3 c4 c5 c6 c7 c8 c9 c10 c11 c12 c13 c14);obtain ⟨c0,c1,c2,c3,c4,c5,c6,c7,c8,c9,c10,c11,c12,c13,c14⟩:=id hEc3.out)
  |(go_at_call 20;(with_reducible refine (KW4.out _ hB3.out).mono ?_);rintro r w4 ⟨rfl,h4⟩;have hB4:=Lib.hid (hB3.out.trans (h4.mono hB3.out.size));have hEc4:=Lib.hid (hEc3.out.below h4 hEc3.out.lt);clear h4;(try clear c0 c1 c2 c3 c4 c5 c6 c7 c8 c9 c10 c11 c12 c13 c14);obtain ⟨c0,c1,c2,c3,c4,c5,c6,c7,c8,c9,c10,c11,c12,c13,c14⟩:=id hEc4.out)
  |(go_at_call 20;(with_reducible refine (KW2.out _ hB4.out).mono ?_);rintro r w5 ⟨rfl,h5⟩;have hB5:=Lib.hid (hB4.out.trans (h5.mono hB4.out.size));have hEc5:=Lib.hid (hEc4.out.below h5 hEc4.out.lt);clear h5;(try clear c0 c1 c2 c3 c4 c5 c6 c7 c8 c9 c10 c11 c12 c13 c14);obtain ⟨c0,c1,c2,c3,c4,c5,c6,c7,c8,c9,c10,c11,c12,c13,c14⟩:=id hEc5.out)
  |(go_at_call 20;(with_reducible refine (KW1.out _ hB5.out).mono ?_);rintro r w6 ⟨rfl,h6⟩;have hB6:=Lib.hid (hB5.out.trans (h6.mono hB5.out.size));have hEc6:=Lib.hid (hEc5.out.below h6 hEc5.out.lt);clear h6;(try clear c0 c1 c2 c3 c4 c5 c6 c7 c8 c9 c10 c11 c12 c13 c14);obtain ⟨c0,c1,c2,c3,c4,c5,c6,c7,c8,c9,c10,c11,c12,c13,c14⟩:=id hEc6.out)
  |(go_at_call 20;(with_reducible refine (KW3.out _ hB6.out).mono ?_);rintro r w7 ⟨rfl,h7⟩;have hB7:=Lib.hid (hB6.out.trans (h7.mono hB6.out.size));have hEc7:=Lib.hid (hEc6.out.below h7 hEc6.out.lt);clear h7;(try clear c0 c1 c2 c3 c4 c5 c6 c7 c8 c9 c10 c11 c12 c13 c14);obtain ⟨c0,c1,c2,c3,c4,c5,c6,c7,c8,c9,c10,c11,c12,c13,c14⟩:=id hEc7.out)
  | fail)
 go_quiet (fail)
 go_wp2
 go_ret
 exact ⟨by first|rfl|simp,hB7.out.trans (below_draws _ _ _)⟩
set_option maxRecDepth 100000 in
set_option maxHeartbeats 8000000 in
theorem room_100 (e:EntL) (ad:Option Addr) (cap:Nat) (ho:EntOk e) (hc:e.map.length≤cap) (w:World) (hM:PiecesAt w ad e.map) (hg:ErrLaid w) (hp:Px.PowLaid w) (ha:Px.AtoiLaid w) (hL:∀ w,Calls Tryz.prog 18 #[entV e (.slice ad e.map.length cap)] w fun r w'=>r=.returned (.bool false)∧Below w.heap.size w w') (hs:Small e) (hr:rightE e=true) (hn:e.nano=0) (k4:(eWriteF 4 e).2=0) (k2:(eWriteF 2 e).2≠0) (k1:(eWriteF 1 e).2≠0) (k3:(eWriteF 3 e).2=0) :
  Calls Tryz.prog 7 #[entV e (.slice ad e.map.length cap)] w fun r w'=>r=.returned (.bool true)∧Below w.heap.size w w':=by
 have hE0:=EntAt.new w e (.slice ad e.map.length cap) 26
 have hB0:=Lib.hid (below_alloc1 w (.cells (entC e (.slice ad e.map.length cap)) 26))
 have hEc0:=Lib.hid hE0
 have HM:=Lib.hid (fun W (h:Below w.heap.size w W)=>hM.below h)
 have KT:=Lib.hid (fun W (h:Below w.heap.size w W)=>told_any W (hp.below h) ⟨hp.below h,ha.below h⟩ (hg.below h))
 have KL:=Lib.hid (fun W (h:Below w.heap.size w W)=>hL W)
 have KR:=Lib.hid (fun W (h:Below w.heap.size w W)=>rightM_any e ad cap ho W (hM.below h))
 clear hE0 hL
 rw [hr] at KR
 have KW4:=Lib.hid (fun W (h:Below w.heap.size w W)=>memWrite_all 4 e ad cap ho hs hc W (hp.below h) (HM.out W h))
 rw [k4,errV_z] at KW4
 generalize (eWriteF 4 e).1=s4 at KW4
 have KW2:=Lib.hid (fun W (h:Below w.heap.size w W)=>memWrite_all 2 e ad cap ho hs hc W (hp.below h) (HM.out W h))
 obtain ⟨v2,hv2⟩:=errV_nz k2
 rw [hv2] at KW2
 clear hv2
 generalize (eWriteF 2 e).1=s2 at KW2
 have KW1:=Lib.hid (fun W (h:Below w.heap.size w W)=>memWrite_all 1 e ad cap ho hs hc W (hp.below h) (HM.out W h))
 obtain ⟨v1,hv1⟩:=errV_nz k1
 rw [hv1] at KW1
 clear hv1
 generalize (eWriteF 1 e).1=s1 at KW1
 have KW3:=Lib.hid (fun W (h:Below w.heap.size w W)=>memWrite_all 3 e ad cap ho hs hc W (hp.below h) (HM.out W h))
 rw [k3,errV_z] at KW3
 generalize (eWriteF 3 e).1=s3 at KW3
 have q:(e.nano==0)=true:=by rw [hn];rfl
 unfold entC at hEc0 hB0
 unfold entV at KL KR KW4 KW2 KW1 KW3 ⊢
 clear hM hc ho hg hp ha hs hr hn k4 k2 k1 k3 HM
 generalize e.map.length=n at *
 go_enter Tryz.func7,Tryz.ntmps7
 go_wp2_with (first
  |(go_at_call 17;(with_reducible refine (KT.out _ hB0.out).mono ?_);rintro r w1 ⟨rfl,h1⟩;have hB1:=Lib.hid (hB0.out.trans (h1.mono hB0.out.size));have hEc1:=Lib.hid (hEc0.out.below h1 hEc0.out.lt);clear h1;(try clear c0 c1 c2 c3 c4 c5 c6 c7 c8 c9 c10 c11 c12 c13 c14);obtain ⟨c0,c1,c2,c3,c4,c5,c6,c7,c8,c9,c10,c11,c12,c13,c14⟩:=id hEc1.out)
  |(go_at_call 18;(with_reducible refine (KL.out _ hB1.out).mono ?_);rintro r w2 ⟨rfl,h2⟩;have hB2:=Lib.hid (hB1.out.trans (h2.mono hB1.out.size));have hEc2:=Lib.hid (hEc1.out.below h2 hEc1.out.lt);clear h2;(try clear c0 c1 c2 c3 c4 c5 c6 c7 c8 c9 c10 c11 c12 c13 c14);obtain ⟨c0,c1,c2,c3,c4,c5,c6,c7,c8,c9,c10,c11,c12,c13,c14⟩:=id hEc2.out)
  |(go_at_call 23;(with_reducible refine (KR.out _ hB2.out).mono ?_);rintro r w3 ⟨rfl,h3⟩;have hB3:=Lib.hid (hB2.out.trans (h3.mono hB2.out.size));have hEc3:=Lib.hid (hEc2.out.below h3 hEc2.out.lt);clear h3;(try clear c0 c1 c2 c3 c4 c5 c6 c7 c8 c9 c10 c11 c12 c13 c14);obtain ⟨c0,c1,c2,c3,c4,c5,c6,c7,c8,c9,c10,c11,c12,c13,c14⟩:=id hEc3.out)
  |(go_at_call 20;(with_reducible refine (KW4.out _ hB3.out).mono ?_);rintro r w4 ⟨rfl,h4⟩;have hB4:=Lib.hid (hB3.out.trans (h4.mono hB3.out.size));have hEc4:=Lib.hid (hEc3.out.below h4 hEc3.out.lt);clear h4;(try clear c0 c1 c2 c3 c4 c5 c6 c7 c8 c9 c10 c11 c12 c13 c14);obtain ⟨c0,c1,c2,c3,c4,c5,c6,c7,c8,c9,c10,c11,c12,c13,c14⟩:=id hEc4.out)
  |(go_at_call 20;(with_reducible refine (KW2.out _ hB4.out).mono ?_);rintro r w5 ⟨rfl,h5⟩;have hB5:=Lib.hid (hB4.out.trans (h5.mono hB4.out.size));have hEc5:=Lib.hid (hEc4.out.below h5 hEc4.out.lt);clear h5;(try clear c0 c1 c2 c3 c4 c5 c6 c7 c8 c9 c10 c11 c12 c13 c14);obtain ⟨c0,c1,c2,c3,c4,c5,c6,c7,c8,c9,c10,c11,c12,c13,c14⟩:=id hEc5.out)
  |(go_at_call 20;(with_reducible refine (KW1.out _ hB5.out).mono ?_);rintro r w6 ⟨rfl,h6⟩;have hB6:=Lib.hid (hB5.out.trans (h6.mono hB5.out.size));have hEc6:=Lib.hid (hEc5.out.below h6 hEc5.out.lt);clear h6;(try clear c0 c1 c2 c3 c4 c5 c6 c7 c8 c9 c10 c11 c12 c13 c14);obtain ⟨c0,c1,c2,c3,c4,c5,c6,c7,c8,c9,c10,c11,c12,c13,c14⟩:=id hEc6.out)
  |(go_at_call 20;(with_reducible refine (KW3.out _ hB6.out).mono ?_);rintro r w7 ⟨rfl,h7⟩;have hB7:=Lib.hid (hB6.out.trans (h7.mono hB6.out.size));have hEc7:=Lib.hid (hEc6.out.below h7 hEc6.out.lt);clear h7;(try clear c0 c1 c2 c3 c4 c5 c6 c7 c8 c9 c10 c11 c12 c13 c14);obtain ⟨c0,c1,c2,c3,c4,c5,c6,c7,c8,c9,c10,c11,c12,c13,c14⟩:=id hEc7.out)
  | fail)
 go_quiet (fail)
 go_wp2
 go_ret
 exact ⟨by first|rfl|simp,hB7.out.trans (below_draws _ _ _)⟩
set_option maxRecDepth 100000 in
set_option maxHeartbeats 8000000 in
theorem room_000 (e:EntL) (ad:Option Addr) (cap:Nat) (ho:EntOk e) (hc:e.map.length≤cap) (w:World) (hM:PiecesAt w ad e.map) (hg:ErrLaid w) (hp:Px.PowLaid w) (ha:Px.AtoiLaid w) (hL:∀ w,Calls Tryz.prog 18 #[entV e (.slice ad e.map.length cap)] w fun r w'=>r=.returned (.bool false)∧Below w.heap.size w w') (hs:Small e) (hr:rightE e=true) (hn:e.nano≠0) (k4:(eWriteF 4 e).2=0) (k2:(eWriteF 2 e).2≠0) (k1:(eWriteF 1 e).2≠0) (k3:(eWriteF 3 e).2≠0) :
  Calls Tryz.prog 7 #[entV e (.slice ad e.map.length cap)] w fun r w'=>r=.returned (.bool true)∧Below w.heap.size w w':=by
 have hE0:=EntAt.new w e (.slice ad e.map.length cap) 26
 have hB0:=Lib.hid (below_alloc1 w (.cells (entC e (.slice ad e.map.length cap)) 26))
 have hEc0:=Lib.hid hE0
 have HM:=Lib.hid (fun W (h:Below w.heap.size w W)=>hM.below h)
 have KT:=Lib.hid (fun W (h:Below w.heap.size w W)=>told_any W (hp.below h) ⟨hp.below h,ha.below h⟩ (hg.below h))
 have KL:=Lib.hid (fun W (h:Below w.heap.size w W)=>hL W)
 have KR:=Lib.hid (fun W (h:Below w.heap.size w W)=>rightM_any e ad cap ho W (hM.below h))
 clear hE0 hL
 rw [hr] at KR
 have KW4:=Lib.hid (fun W (h:Below w.heap.size w W)=>memWrite_all 4 e ad cap ho hs hc W (hp.below h) (HM.out W h))
 rw [k4,errV_z] at KW4
 generalize (eWriteF 4 e).1=s4 at KW4
 have KW2:=Lib.hid (fun W (h:Below w.heap.size w W)=>memWrite_all 2 e ad cap ho hs hc W (hp.below h) (HM.out W h))
 obtain ⟨v2,hv2⟩:=errV_nz k2
 rw [hv2] at KW2
 clear hv2
 generalize (eWriteF 2 e).1=s2 at KW2
 have KW1:=Lib.hid (fun W (h:Below w.heap.size w W)=>memWrite_all 1 e ad cap ho hs hc W (hp.below h) (HM.out W h))
 obtain ⟨v1,hv1⟩:=errV_nz k1
 rw [hv1] at KW1
 clear hv1
 generalize (eWriteF 1 e).1=s1 at KW1
 have KW3:=Lib.hid (fun W (h:Below w.heap.size w W)=>memWrite_all 3 e ad cap ho hs hc W (hp.below h) (HM.out W h))
 obtain ⟨v3,hv3⟩:=errV_nz k3
 rw [hv3] at KW3
 clear hv3
 generalize (eWriteF 3 e).1=s3 at KW3
 have q:(e.nano==0)=false:=by rw [beq_eq_false_iff_ne];exact hn
 unfold entC at hEc0 hB0
 unfold entV at KL KR KW4 KW2 KW1 KW3 ⊢
 clear hM hc ho hg hp ha hs hr hn k4 k2 k1 k3 HM
 generalize e.map.length=n at *
 go_enter Tryz.func7,Tryz.ntmps7
 go_wp2_with (first
  |(go_at_call 17;(with_reducible refine (KT.out _ hB0.out).mono ?_);rintro r w1 ⟨rfl,h1⟩;have hB1:=Lib.hid (hB0.out.trans (h1.mono hB0.out.size));have hEc1:=Lib.hid (hEc0.out.below h1 hEc0.out.lt);clear h1;(try clear c0 c1 c2 c3 c4 c5 c6 c7 c8 c9 c10 c11 c12 c13 c14);obtain ⟨c0,c1,c2,c3,c4,c5,c6,c7,c8,c9,c10,c11,c12,c13,c14⟩:=id hEc1.out)
  |(go_at_call 18;(with_reducible refine (KL.out _ hB1.out).mono ?_);rintro r w2 ⟨rfl,h2⟩;have hB2:=Lib.hid (hB1.out.trans (h2.mono hB1.out.size));have hEc2:=Lib.hid (hEc1.out.below h2 hEc1.out.lt);clear h2;(try clear c0 c1 c2 c3 c4 c5 c6 c7 c8 c9 c10 c11 c12 c13 c14);obtain ⟨c0,c1,c2,c3,c4,c5,c6,c7,c8,c9,c10,c11,c12,c13,c14⟩:=id hEc2.out)
  |(go_at_call 23;(with_reducible refine (KR.out _ hB2.out).mono ?_);rintro r w3 ⟨rfl,h3⟩;have hB3:=Lib.hid (hB2.out.trans (h3.mono hB2.out.size));have hEc3:=Lib.hid (hEc2.out.below h3 hEc2.out.lt);clear h3;(try clear c0 c1 c2 c3 c4 c5 c6 c7 c8 c9 c10 c11 c12 c13 c14);obtain ⟨c0,c1,c2,c3,c4,c5,c6,c7,c8,c9,c10,c11,c12,c13,c14⟩:=id hEc3.out)
  |(go_at_call 20;(with_reducible refine (KW4.out _ hB3.out).mono ?_);rintro r w4 ⟨rfl,h4⟩;have hB4:=Lib.hid (hB3.out.trans (h4.mono hB3.out.size));have hEc4:=Lib.hid (hEc3.out.below h4 hEc3.out.lt);clear h4;(try clear c0 c1 c2 c3 c4 c5 c6 c7 c8 c9 c10 c11 c12 c13 c14);obtain ⟨c0,c1,c2,c3,c4,c5,c6,c7,c8,c9,c10,c11,c12,c13,c14⟩:=id hEc4.out)
  |(go_at_call 20;(with_reducible refine (KW2.out _ hB4.out).mono ?_);rintro r w5 ⟨rfl,h5⟩;have hB5:=Lib.hid (hB4.out.trans (h5.mono hB4.out.size));have hEc5:=Lib.hid (hEc4.out.below h5 hEc4.out.lt);clear h5;(try clear c0 c1 c2 c3 c4 c5 c6 c7 c8 c9 c10 c11 c12 c13 c14);obtain ⟨c0,c1,c2,c3,c4,c5,c6,c7,c8,c9,c10,c11,c12,c13,c14⟩:=id hEc5.out)
  |(go_at_call 20;(with_reducible refine (KW1.out _ hB5.out).mono ?_);rintro r w6 ⟨rfl,h6⟩;have hB6:=Lib.hid (hB5.out.trans (h6.mono hB5.out.size));have hEc6:=Lib.hid (hEc5.out.below h6 hEc5.out.lt);clear h6;(try clear c0 c1 c2 c3 c4 c5 c6 c7 c8 c9 c10 c11 c12 c13 c14);obtain ⟨c0,c1,c2,c3,c4,c5,c6,c7,c8,c9,c10,c11,c12,c13,c14⟩:=id hEc6.out)
  |(go_at_call 20;(with_reducible refine (KW3.out _ hB6.out).mono ?_);rintro r w7 ⟨rfl,h7⟩;have hB7:=Lib.hid (hB6.out.trans (h7.mono hB6.out.size));have hEc7:=Lib.hid (hEc6.out.below h7 hEc6.out.lt);clear h7;(try clear c0 c1 c2 c3 c4 c5 c6 c7 c8 c9 c10 c11 c12 c13 c14);obtain ⟨c0,c1,c2,c3,c4,c5,c6,c7,c8,c9,c10,c11,c12,c13,c14⟩:=id hEc7.out)
  | fail)
 go_quiet (fail)
 go_wp2
 go_ret
 exact ⟨by first|rfl|simp,hB7.out.trans (below_draws _ _ _)⟩
set_option maxRecDepth 100000 in
set_option maxHeartbeats 8000000 in
theorem memberRoom_walk (e:EntL) (ad:Option Addr) (cap:Nat) (ho:EntOk e) (hc:e.map.length≤cap) (w:World) (hM:PiecesAt w ad e.map) (hg:ErrLaid w) (hp:Px.PowLaid w) (ha:Px.AtoiLaid w) :
  Calls Tryz.prog 7 #[entV e (.slice ad e.map.length cap)] w fun r w'=>r=.returned (.bool true)∧Below w.heap.size w w':=by
 obtain ⟨b,hb,hL⟩:=large_keep e ho ad cap
 cases b with
 | true=>exact room_t e ad cap ho hc w hM hg hp ha hL
 | false =>
  have hs:=hb rfl
  cases hr:rightE e with
  | false=>exact room_w e ad cap ho hc w hM hg hp ha hL hr
  | true =>
   have f4:=ewrite_4 hs hr
   have f3:=ewrite_3 hs hr
   have f2:=ewrite_old (e:=e) 2 (.inr rfl) hr
   have f1:=ewrite_old (e:=e) 1 (.inl rfl) hr
   by_cases hn:e.nano=0
   ·rw [if_pos hn] at f3
    by_cases k2:(eWriteF 2 e).2=0
    ·by_cases k1:(eWriteF 1 e).2=0
     ·exact room_111 e ad cap ho hc w hM hg hp ha hL hs hr hn f4 k2 k1 f3
     ·exact room_110 e ad cap ho hc w hM hg hp ha hL hs hr hn f4 k2 k1 f3
    ·by_cases k1:(eWriteF 1 e).2=0
     ·exact room_101 e ad cap ho hc w hM hg hp ha hL hs hr hn f4 k2 k1 f3
     ·exact room_100 e ad cap ho hc w hM hg hp ha hL hs hr hn f4 k2 k1 f3
   ·rw [if_neg hn] at f3
    exact room_000 e ad cap ho hc w hM hg hp ha hL hs hr hn f4 (fun h=>hn (f2 h)) (fun h=>hn (f1 h)) (by rw [f3];decide)
end Go.Proofs.YtdjcjaidklgamaaGreatDoor
end
