import Derived.Test.YtdjcjaidklgamaaGreatDoorQEv
import Derived.Test.YtdjcjaidklgamaaGreatDoorQHw
set_option linter.unusedSimpArgs false
set_option linter.unusedVariables false
section
namespace Go.Proofs.YtdjcjaidklgamaaGreatDoor
open Go.RowKit Go.Joins
set_option maxRecDepth 100000 in
set_option maxHeartbeats 8000000 in
theorem one_t (a0:Int) (w0:(Lit.int .i64 a0).wf=true) (e:EntL) (ad:Option Addr) (cap:Nat) (ho:EntOk e) (hc:e.map.length≤cap) (f:EntL) (ad2:Option Addr) (cap2:Nat) (ho2:EntOk f) (hc2:f.map.length≤cap2) (w:World) (hM:PiecesAt w ad e.map) (hN:PiecesAt w ad2 f.map) (hg:ErrLaid w) (hp:Px.PowLaid w) (ha:Px.AtoiLaid w) (hL:∀ w,Calls Tryz.prog 18 #[entV e (.slice ad e.map.length cap)] w fun r w'=>r=.returned (.bool true)∧Below w.heap.size w w') :
  Calls Tryz.prog 3 #[.int .i64 a0,entV e (.slice ad e.map.length cap),entV f (.slice ad2 f.map.length cap2)] w fun r w'=>r=.returned (.bool true)∧Below w.heap.size w w':=by
 have hsz:(w.alloc (.cells (entC e (.slice ad e.map.length cap)) 26)).heap.size=w.heap.size+1:=Array.size_push ..
 have hB0:=Lib.hid (below_alloc2 w (.cells (entC e (.slice ad e.map.length cap)) 26) (.cells (entC f (.slice ad2 f.map.length cap2)) 26))
 have hEc0:=Lib.hid ((EntAt.new w e (.slice ad e.map.length cap) 26).below (B:=w.heap.size+1) ((Below.refl _ _).alloc (Nat.le_of_eq hsz.symm) (.cells (entC f (.slice ad2 f.map.length cap2)) 26)) (Nat.lt_succ_self _))
 have hEd0:=EntAt.new (w.alloc (.cells (entC e (.slice ad e.map.length cap)) 26)) f (.slice ad2 f.map.length cap2) 26
 rw [hsz] at hEd0
 replace hEd0:=Lib.hid hEd0
 have HM:=Lib.hid (fun W (h:Below w.heap.size w W)=>hM.below h)
 have HN:=Lib.hid (fun W (h:Below w.heap.size w W)=>hN.below h)
 have KT:=Lib.hid (fun W (h:Below w.heap.size w W)=>told_any W (hp.below h) ⟨hp.below h,ha.below h⟩ (hg.below h))
 have KL:=Lib.hid (fun W (h:Below w.heap.size w W)=>hL W)
 clear hL hsz
 unfold entC at hEc0 hEd0 hB0
 unfold entV at KL ⊢
 clear hM hN hc hc2 ho ho2 hg hp ha
 generalize e.map.length=n at *
 generalize f.map.length=m at *
 go_enter Tryz.func3,Tryz.ntmps3
 go_wp2_with (first
  |(go_at_call 17;(with_reducible refine (KT.out _ hB0.out).mono ?_);rintro r w1 ⟨rfl,h1⟩;have hB1:=Lib.hid (hB0.out.trans (h1.mono hB0.out.size));have hEc1:=Lib.hid (hEc0.out.below h1 hEc0.out.lt);have hEd1:=Lib.hid (hEd0.out.below h1 hEd0.out.lt);clear h1;(try clear c0 c1 c2 c3 c4 c5 c6 c7 c8 c9 c10 c11 c12 c13 c14);obtain ⟨c0,c1,c2,c3,c4,c5,c6,c7,c8,c9,c10,c11,c12,c13,c14⟩:=id hEc1.out;(try clear d0 d1 d2 d3 d4 d5 d6 d7 d8 d9 d10 d11 d12 d13 d14);obtain ⟨d0,d1,d2,d3,d4,d5,d6,d7,d8,d9,d10,d11,d12,d13,d14⟩:=id hEd1.out)
  |(go_at_call 18;(with_reducible refine (KL.out _ hB1.out).mono ?_);rintro r w2 ⟨rfl,h2⟩;have hB2:=Lib.hid (hB1.out.trans (h2.mono hB1.out.size));have hEc2:=Lib.hid (hEc1.out.below h2 hEc1.out.lt);have hEd2:=Lib.hid (hEd1.out.below h2 hEd1.out.lt);clear h2;(try clear c0 c1 c2 c3 c4 c5 c6 c7 c8 c9 c10 c11 c12 c13 c14);obtain ⟨c0,c1,c2,c3,c4,c5,c6,c7,c8,c9,c10,c11,c12,c13,c14⟩:=id hEc2.out;(try clear d0 d1 d2 d3 d4 d5 d6 d7 d8 d9 d10 d11 d12 d13 d14);obtain ⟨d0,d1,d2,d3,d4,d5,d6,d7,d8,d9,d10,d11,d12,d13,d14⟩:=id hEd2.out)
  | fail)
 go_ret
 exact ⟨by first|rfl|simp,hB2.out⟩
set_option maxRecDepth 100000 in
set_option maxHeartbeats 8000000 in
theorem one_t2 (a0:Int) (w0:(Lit.int .i64 a0).wf=true) (e:EntL) (ad:Option Addr) (cap:Nat) (ho:EntOk e) (hc:e.map.length≤cap) (f:EntL) (ad2:Option Addr) (cap2:Nat) (ho2:EntOk f) (hc2:f.map.length≤cap2) (w:World) (hM:PiecesAt w ad e.map) (hN:PiecesAt w ad2 f.map) (hg:ErrLaid w) (hp:Px.PowLaid w) (ha:Px.AtoiLaid w) (hL:∀ w,Calls Tryz.prog 18 #[entV e (.slice ad e.map.length cap)] w fun r w'=>r=.returned (.bool false)∧Below w.heap.size w w') (hL2:∀ w,Calls Tryz.prog 18 #[entV f (.slice ad2 f.map.length cap2)] w fun r w'=>r=.returned (.bool true)∧Below w.heap.size w w') :
  Calls Tryz.prog 3 #[.int .i64 a0,entV e (.slice ad e.map.length cap),entV f (.slice ad2 f.map.length cap2)] w fun r w'=>r=.returned (.bool true)∧Below w.heap.size w w':=by
 have hsz:(w.alloc (.cells (entC e (.slice ad e.map.length cap)) 26)).heap.size=w.heap.size+1:=Array.size_push ..
 have hB0:=Lib.hid (below_alloc2 w (.cells (entC e (.slice ad e.map.length cap)) 26) (.cells (entC f (.slice ad2 f.map.length cap2)) 26))
 have hEc0:=Lib.hid ((EntAt.new w e (.slice ad e.map.length cap) 26).below (B:=w.heap.size+1) ((Below.refl _ _).alloc (Nat.le_of_eq hsz.symm) (.cells (entC f (.slice ad2 f.map.length cap2)) 26)) (Nat.lt_succ_self _))
 have hEd0:=EntAt.new (w.alloc (.cells (entC e (.slice ad e.map.length cap)) 26)) f (.slice ad2 f.map.length cap2) 26
 rw [hsz] at hEd0
 replace hEd0:=Lib.hid hEd0
 have HM:=Lib.hid (fun W (h:Below w.heap.size w W)=>hM.below h)
 have HN:=Lib.hid (fun W (h:Below w.heap.size w W)=>hN.below h)
 have KT:=Lib.hid (fun W (h:Below w.heap.size w W)=>told_any W (hp.below h) ⟨hp.below h,ha.below h⟩ (hg.below h))
 have KL:=Lib.hid (fun W (h:Below w.heap.size w W)=>hL W)
 clear hL hsz
 have KL2:=Lib.hid (fun W (h:Below w.heap.size w W)=>hL2 W)
 clear hL2
 unfold entC at hEc0 hEd0 hB0
 unfold entV at KL KL2 ⊢
 clear hM hN hc hc2 ho ho2 hg hp ha
 generalize e.map.length=n at *
 generalize f.map.length=m at *
 go_enter Tryz.func3,Tryz.ntmps3
 go_wp2_with (first
  |(go_at_call 17;(with_reducible refine (KT.out _ hB0.out).mono ?_);rintro r w1 ⟨rfl,h1⟩;have hB1:=Lib.hid (hB0.out.trans (h1.mono hB0.out.size));have hEc1:=Lib.hid (hEc0.out.below h1 hEc0.out.lt);have hEd1:=Lib.hid (hEd0.out.below h1 hEd0.out.lt);clear h1;(try clear c0 c1 c2 c3 c4 c5 c6 c7 c8 c9 c10 c11 c12 c13 c14);obtain ⟨c0,c1,c2,c3,c4,c5,c6,c7,c8,c9,c10,c11,c12,c13,c14⟩:=id hEc1.out;(try clear d0 d1 d2 d3 d4 d5 d6 d7 d8 d9 d10 d11 d12 d13 d14);obtain ⟨d0,d1,d2,d3,d4,d5,d6,d7,d8,d9,d10,d11,d12,d13,d14⟩:=id hEd1.out)
  |(go_at_call 18;(with_reducible refine (KL.out _ hB1.out).mono ?_);rintro r w2 ⟨rfl,h2⟩;have hB2:=Lib.hid (hB1.out.trans (h2.mono hB1.out.size));have hEc2:=Lib.hid (hEc1.out.below h2 hEc1.out.lt);have hEd2:=Lib.hid (hEd1.out.below h2 hEd1.out.lt);clear h2;(try clear c0 c1 c2 c3 c4 c5 c6 c7 c8 c9 c10 c11 c12 c13 c14);obtain ⟨c0,c1,c2,c3,c4,c5,c6,c7,c8,c9,c10,c11,c12,c13,c14⟩:=id hEc2.out;(try clear d0 d1 d2 d3 d4 d5 d6 d7 d8 d9 d10 d11 d12 d13 d14);obtain ⟨d0,d1,d2,d3,d4,d5,d6,d7,d8,d9,d10,d11,d12,d13,d14⟩:=id hEd2.out)
  |(go_at_call 18;(with_reducible refine (KL2.out _ hB2.out).mono ?_);rintro r w3 ⟨rfl,h3⟩;have hB3:=Lib.hid (hB2.out.trans (h3.mono hB2.out.size));have hEc3:=Lib.hid (hEc2.out.below h3 hEc2.out.lt);have hEd3:=Lib.hid (hEd2.out.below h3 hEd2.out.lt);clear h3;(try clear c0 c1 c2 c3 c4 c5 c6 c7 c8 c9 c10 c11 c12 c13 c14);obtain ⟨c0,c1,c2,c3,c4,c5,c6,c7,c8,c9,c10,c11,c12,c13,c14⟩:=id hEc3.out;(try clear d0 d1 d2 d3 d4 d5 d6 d7 d8 d9 d10 d11 d12 d13 d14);obtain ⟨d0,d1,d2,d3,d4,d5,d6,d7,d8,d9,d10,d11,d12,d13,d14⟩:=id hEd3.out)
  | fail)
 go_ret
 exact ⟨by first|rfl|simp,hB3.out⟩
set_option maxRecDepth 100000 in
set_option maxHeartbeats 8000000 in
theorem one_eq (a0:Int) (w0:(Lit.int .i64 a0).wf=true) (e:EntL) (ad:Option Addr) (cap:Nat) (ho:EntOk e) (hc:e.map.length≤cap) (f:EntL) (ad2:Option Addr) (cap2:Nat) (ho2:EntOk f) (hc2:f.map.length≤cap2) (hs:Small e) (hs2:Small f) (p:Nat) (hpp:(p:Int)≤3) (hP:∀ w,Calls Tryz.prog 19 #[.int .i64 a0,.int .i64 4] w (fun e w'=>e=.returned (.int .i64 (p:Int))∧w'=w)) (s t:List UInt8) (k k2:Int) (hS:eWriteF (1+(p:Int)) e=(s,k)) (hS2:eWriteF (1+(p:Int)) f=(t,k2)) (w:World) (hM:PiecesAt w ad e.map) (hN:PiecesAt w ad2 f.map) (hg:ErrLaid w) (hp:Px.PowLaid w) (ha:Px.AtoiLaid w) (hL:∀ w,Calls Tryz.prog 18 #[entV e (.slice ad e.map.length cap)] w fun r w'=>r=.returned (.bool false)∧Below w.heap.size w w') (hL2:∀ w,Calls Tryz.prog 18 #[entV f (.slice ad2 f.map.length cap2)] w fun r w'=>r=.returned (.bool false)∧Below w.heap.size w w') (k0:k=0) (k20:k2=0) (hef:e=f) (hst:s=t) :
  Calls Tryz.prog 3 #[.int .i64 a0,entV e (.slice ad e.map.length cap),entV f (.slice ad2 f.map.length cap2)] w fun r w'=>r=.returned (.bool true)∧Below w.heap.size w w':=by
 have hsz:(w.alloc (.cells (entC e (.slice ad e.map.length cap)) 26)).heap.size=w.heap.size+1:=Array.size_push ..
 have hB0:=Lib.hid (below_alloc2 w (.cells (entC e (.slice ad e.map.length cap)) 26) (.cells (entC f (.slice ad2 f.map.length cap2)) 26))
 have hEc0:=Lib.hid ((EntAt.new w e (.slice ad e.map.length cap) 26).below (B:=w.heap.size+1) ((Below.refl _ _).alloc (Nat.le_of_eq hsz.symm) (.cells (entC f (.slice ad2 f.map.length cap2)) 26)) (Nat.lt_succ_self _))
 have hEd0:=EntAt.new (w.alloc (.cells (entC e (.slice ad e.map.length cap)) 26)) f (.slice ad2 f.map.length cap2) 26
 rw [hsz] at hEd0
 replace hEd0:=Lib.hid hEd0
 have HM:=Lib.hid (fun W (h:Below w.heap.size w W)=>hM.below h)
 have HN:=Lib.hid (fun W (h:Below w.heap.size w W)=>hN.below h)
 have KT:=Lib.hid (fun W (h:Below w.heap.size w W)=>told_any W (hp.below h) ⟨hp.below h,ha.below h⟩ (hg.below h))
 have KL:=Lib.hid (fun W (h:Below w.heap.size w W)=>hL W)
 clear hL hsz
 have KL2:=Lib.hid (fun W (h:Below w.heap.size w W)=>hL2 W)
 clear hL2
 have P:=Lib.hid hP
 have hw1:IntKind.i64.wrap (1+(p:Int))=1+(p:Int):=IntWalk.i64_in _ ⟨by omega,by omega⟩
 have KW:=Lib.hid (fun W (h:Below w.heap.size w W)=>memWrite_all (1+(p:Int)) e ad cap ho hs hc W (hp.below h) (HM.out W h))
 have KW2:=Lib.hid (fun W (h:Below w.heap.size w W)=>memWrite_all (1+(p:Int)) f ad2 cap2 ho2 hs2 hc2 W (hp.below h) (HN.out W h))
 rw [hS] at KW
 rw [hS2] at KW2
 dsimp only at KW KW2
 clear hP
 rw [k0,errV_z] at KW
 rw [k20,errV_z] at KW2
 have hml:=hs.map
 have hml2:=hs2.map
 have KS:=Lib.hid (fun W (h:Below w.heap.size w W)=>same_any e f ad ad2 cap cap2 (by omega) (by omega) W (HM.out W h) (HN.out W h))
 have q:((mkS s).toList==(mkS t).toList)=true:=by rw [textE_beq,decide_eq_true hst]
 rw [decide_eq_true hef] at KS
 unfold entC at hEc0 hEd0 hB0
 unfold entV at KL KL2 KW KW2 KS ⊢
 clear hM hN hc hc2 ho ho2 hg hp ha hs hs2 hS hS2 hml hml2 hef hst k0 k20 HM HN
 generalize e.map.length=n at *
 generalize f.map.length=m at *
 go_enter Tryz.func3,Tryz.ntmps3
 go_wp2_with (first
  |(go_at_call 17;(with_reducible refine (KT.out _ hB0.out).mono ?_);rintro r w1 ⟨rfl,h1⟩;have hB1:=Lib.hid (hB0.out.trans (h1.mono hB0.out.size));have hEc1:=Lib.hid (hEc0.out.below h1 hEc0.out.lt);have hEd1:=Lib.hid (hEd0.out.below h1 hEd0.out.lt);clear h1;(try clear c0 c1 c2 c3 c4 c5 c6 c7 c8 c9 c10 c11 c12 c13 c14);obtain ⟨c0,c1,c2,c3,c4,c5,c6,c7,c8,c9,c10,c11,c12,c13,c14⟩:=id hEc1.out;(try clear d0 d1 d2 d3 d4 d5 d6 d7 d8 d9 d10 d11 d12 d13 d14);obtain ⟨d0,d1,d2,d3,d4,d5,d6,d7,d8,d9,d10,d11,d12,d13,d14⟩:=id hEd1.out)
  |(go_at_call 18;(with_reducible refine (KL.out _ hB1.out).mono ?_);rintro r w2 ⟨rfl,h2⟩;have hB2:=Lib.hid (hB1.out.trans (h2.mono hB1.out.size));have hEc2:=Lib.hid (hEc1.out.below h2 hEc1.out.lt);have hEd2:=Lib.hid (hEd1.out.below h2 hEd1.out.lt);clear h2;(try clear c0 c1 c2 c3 c4 c5 c6 c7 c8 c9 c10 c11 c12 c13 c14);obtain ⟨c0,c1,c2,c3,c4,c5,c6,c7,c8,c9,c10,c11,c12,c13,c14⟩:=id hEc2.out;(try clear d0 d1 d2 d3 d4 d5 d6 d7 d8 d9 d10 d11 d12 d13 d14);obtain ⟨d0,d1,d2,d3,d4,d5,d6,d7,d8,d9,d10,d11,d12,d13,d14⟩:=id hEd2.out)
  |(go_at_call 18;(with_reducible refine (KL2.out _ hB2.out).mono ?_);rintro r w3 ⟨rfl,h3⟩;have hB3:=Lib.hid (hB2.out.trans (h3.mono hB2.out.size));have hEc3:=Lib.hid (hEc2.out.below h3 hEc2.out.lt);have hEd3:=Lib.hid (hEd2.out.below h3 hEd2.out.lt);clear h3;(try clear c0 c1 c2 c3 c4 c5 c6 c7 c8 c9 c10 c11 c12 c13 c14);obtain ⟨c0,c1,c2,c3,c4,c5,c6,c7,c8,c9,c10,c11,c12,c13,c14⟩:=id hEc3.out;(try clear d0 d1 d2 d3 d4 d5 d6 d7 d8 d9 d10 d11 d12 d13 d14);obtain ⟨d0,d1,d2,d3,d4,d5,d6,d7,d8,d9,d10,d11,d12,d13,d14⟩:=id hEd3.out)
  |(go_at_call 19;(with_reducible refine (P.out _).mono ?_);rintro e w' ⟨rfl,hw⟩;replace hw:=hw.symm;subst hw)
  |(go_at_call 20;(with_reducible refine (KW.out _ hB3.out).mono ?_);rintro r w4 ⟨rfl,h4⟩;have hB4:=Lib.hid (hB3.out.trans (h4.mono hB3.out.size));have hEc4:=Lib.hid (hEc3.out.below h4 hEc3.out.lt);have hEd4:=Lib.hid (hEd3.out.below h4 hEd3.out.lt);clear h4;(try clear c0 c1 c2 c3 c4 c5 c6 c7 c8 c9 c10 c11 c12 c13 c14);obtain ⟨c0,c1,c2,c3,c4,c5,c6,c7,c8,c9,c10,c11,c12,c13,c14⟩:=id hEc4.out;(try clear d0 d1 d2 d3 d4 d5 d6 d7 d8 d9 d10 d11 d12 d13 d14);obtain ⟨d0,d1,d2,d3,d4,d5,d6,d7,d8,d9,d10,d11,d12,d13,d14⟩:=id hEd4.out)
  |(go_at_call 20;(with_reducible refine (KW2.out _ hB4.out).mono ?_);rintro r w5 ⟨rfl,h5⟩;have hB5:=Lib.hid (hB4.out.trans (h5.mono hB4.out.size));have hEc5:=Lib.hid (hEc4.out.below h5 hEc4.out.lt);have hEd5:=Lib.hid (hEd4.out.below h5 hEd4.out.lt);clear h5;(try clear c0 c1 c2 c3 c4 c5 c6 c7 c8 c9 c10 c11 c12 c13 c14);obtain ⟨c0,c1,c2,c3,c4,c5,c6,c7,c8,c9,c10,c11,c12,c13,c14⟩:=id hEc5.out;(try clear d0 d1 d2 d3 d4 d5 d6 d7 d8 d9 d10 d11 d12 d13 d14);obtain ⟨d0,d1,d2,d3,d4,d5,d6,d7,d8,d9,d10,d11,d12,d13,d14⟩:=id hEd5.out)
  |(go_at_call 21;(with_reducible refine (KS.out _ hB5.out).mono ?_);rintro r w6 ⟨rfl,h6⟩;have hB6:=Lib.hid (hB5.out.trans (h6.mono hB5.out.size));have hEc6:=Lib.hid (hEc5.out.below h6 hEc5.out.lt);have hEd6:=Lib.hid (hEd5.out.below h6 hEd5.out.lt);clear h6;(try clear c0 c1 c2 c3 c4 c5 c6 c7 c8 c9 c10 c11 c12 c13 c14);obtain ⟨c0,c1,c2,c3,c4,c5,c6,c7,c8,c9,c10,c11,c12,c13,c14⟩:=id hEc6.out;(try clear d0 d1 d2 d3 d4 d5 d6 d7 d8 d9 d10 d11 d12 d13 d14);obtain ⟨d0,d1,d2,d3,d4,d5,d6,d7,d8,d9,d10,d11,d12,d13,d14⟩:=id hEd6.out)
  | fail)
 go_ret
 exact ⟨by first|rfl|simp,hB6.out⟩
set_option maxRecDepth 100000 in
set_option maxHeartbeats 8000000 in
theorem one_ne (a0:Int) (w0:(Lit.int .i64 a0).wf=true) (e:EntL) (ad:Option Addr) (cap:Nat) (ho:EntOk e) (hc:e.map.length≤cap) (f:EntL) (ad2:Option Addr) (cap2:Nat) (ho2:EntOk f) (hc2:f.map.length≤cap2) (hs:Small e) (hs2:Small f) (p:Nat) (hpp:(p:Int)≤3) (hP:∀ w,Calls Tryz.prog 19 #[.int .i64 a0,.int .i64 4] w (fun e w'=>e=.returned (.int .i64 (p:Int))∧w'=w)) (s t:List UInt8) (k k2:Int) (hS:eWriteF (1+(p:Int)) e=(s,k)) (hS2:eWriteF (1+(p:Int)) f=(t,k2)) (w:World) (hM:PiecesAt w ad e.map) (hN:PiecesAt w ad2 f.map) (hg:ErrLaid w) (hp:Px.PowLaid w) (ha:Px.AtoiLaid w) (hL:∀ w,Calls Tryz.prog 18 #[entV e (.slice ad e.map.length cap)] w fun r w'=>r=.returned (.bool false)∧Below w.heap.size w w') (hL2:∀ w,Calls Tryz.prog 18 #[entV f (.slice ad2 f.map.length cap2)] w fun r w'=>r=.returned (.bool false)∧Below w.heap.size w w') (k0:k=0) (k20:k2=0) (hef:e≠f) (hst:s≠t) :
  Calls Tryz.prog 3 #[.int .i64 a0,entV e (.slice ad e.map.length cap),entV f (.slice ad2 f.map.length cap2)] w fun r w'=>r=.returned (.bool true)∧Below w.heap.size w w':=by
 have hsz:(w.alloc (.cells (entC e (.slice ad e.map.length cap)) 26)).heap.size=w.heap.size+1:=Array.size_push ..
 have hB0:=Lib.hid (below_alloc2 w (.cells (entC e (.slice ad e.map.length cap)) 26) (.cells (entC f (.slice ad2 f.map.length cap2)) 26))
 have hEc0:=Lib.hid ((EntAt.new w e (.slice ad e.map.length cap) 26).below (B:=w.heap.size+1) ((Below.refl _ _).alloc (Nat.le_of_eq hsz.symm) (.cells (entC f (.slice ad2 f.map.length cap2)) 26)) (Nat.lt_succ_self _))
 have hEd0:=EntAt.new (w.alloc (.cells (entC e (.slice ad e.map.length cap)) 26)) f (.slice ad2 f.map.length cap2) 26
 rw [hsz] at hEd0
 replace hEd0:=Lib.hid hEd0
 have HM:=Lib.hid (fun W (h:Below w.heap.size w W)=>hM.below h)
 have HN:=Lib.hid (fun W (h:Below w.heap.size w W)=>hN.below h)
 have KT:=Lib.hid (fun W (h:Below w.heap.size w W)=>told_any W (hp.below h) ⟨hp.below h,ha.below h⟩ (hg.below h))
 have KL:=Lib.hid (fun W (h:Below w.heap.size w W)=>hL W)
 clear hL hsz
 have KL2:=Lib.hid (fun W (h:Below w.heap.size w W)=>hL2 W)
 clear hL2
 have P:=Lib.hid hP
 have hw1:IntKind.i64.wrap (1+(p:Int))=1+(p:Int):=IntWalk.i64_in _ ⟨by omega,by omega⟩
 have KW:=Lib.hid (fun W (h:Below w.heap.size w W)=>memWrite_all (1+(p:Int)) e ad cap ho hs hc W (hp.below h) (HM.out W h))
 have KW2:=Lib.hid (fun W (h:Below w.heap.size w W)=>memWrite_all (1+(p:Int)) f ad2 cap2 ho2 hs2 hc2 W (hp.below h) (HN.out W h))
 rw [hS] at KW
 rw [hS2] at KW2
 dsimp only at KW KW2
 clear hP
 rw [k0,errV_z] at KW
 rw [k20,errV_z] at KW2
 have hml:=hs.map
 have hml2:=hs2.map
 have KS:=Lib.hid (fun W (h:Below w.heap.size w W)=>same_any e f ad ad2 cap cap2 (by omega) (by omega) W (HM.out W h) (HN.out W h))
 have q:((mkS s).toList==(mkS t).toList)=false:=by rw [textE_beq,decide_eq_false hst]
 rw [decide_eq_false hef] at KS
 unfold entC at hEc0 hEd0 hB0
 unfold entV at KL KL2 KW KW2 KS ⊢
 clear hM hN hc hc2 ho ho2 hg hp ha hs hs2 hS hS2 hml hml2 hef hst k0 k20 HM HN
 generalize e.map.length=n at *
 generalize f.map.length=m at *
 go_enter Tryz.func3,Tryz.ntmps3
 go_wp2_with (first
  |(go_at_call 17;(with_reducible refine (KT.out _ hB0.out).mono ?_);rintro r w1 ⟨rfl,h1⟩;have hB1:=Lib.hid (hB0.out.trans (h1.mono hB0.out.size));have hEc1:=Lib.hid (hEc0.out.below h1 hEc0.out.lt);have hEd1:=Lib.hid (hEd0.out.below h1 hEd0.out.lt);clear h1;(try clear c0 c1 c2 c3 c4 c5 c6 c7 c8 c9 c10 c11 c12 c13 c14);obtain ⟨c0,c1,c2,c3,c4,c5,c6,c7,c8,c9,c10,c11,c12,c13,c14⟩:=id hEc1.out;(try clear d0 d1 d2 d3 d4 d5 d6 d7 d8 d9 d10 d11 d12 d13 d14);obtain ⟨d0,d1,d2,d3,d4,d5,d6,d7,d8,d9,d10,d11,d12,d13,d14⟩:=id hEd1.out)
  |(go_at_call 18;(with_reducible refine (KL.out _ hB1.out).mono ?_);rintro r w2 ⟨rfl,h2⟩;have hB2:=Lib.hid (hB1.out.trans (h2.mono hB1.out.size));have hEc2:=Lib.hid (hEc1.out.below h2 hEc1.out.lt);have hEd2:=Lib.hid (hEd1.out.below h2 hEd1.out.lt);clear h2;(try clear c0 c1 c2 c3 c4 c5 c6 c7 c8 c9 c10 c11 c12 c13 c14);obtain ⟨c0,c1,c2,c3,c4,c5,c6,c7,c8,c9,c10,c11,c12,c13,c14⟩:=id hEc2.out;(try clear d0 d1 d2 d3 d4 d5 d6 d7 d8 d9 d10 d11 d12 d13 d14);obtain ⟨d0,d1,d2,d3,d4,d5,d6,d7,d8,d9,d10,d11,d12,d13,d14⟩:=id hEd2.out)
  |(go_at_call 18;(with_reducible refine (KL2.out _ hB2.out).mono ?_);rintro r w3 ⟨rfl,h3⟩;have hB3:=Lib.hid (hB2.out.trans (h3.mono hB2.out.size));have hEc3:=Lib.hid (hEc2.out.below h3 hEc2.out.lt);have hEd3:=Lib.hid (hEd2.out.below h3 hEd2.out.lt);clear h3;(try clear c0 c1 c2 c3 c4 c5 c6 c7 c8 c9 c10 c11 c12 c13 c14);obtain ⟨c0,c1,c2,c3,c4,c5,c6,c7,c8,c9,c10,c11,c12,c13,c14⟩:=id hEc3.out;(try clear d0 d1 d2 d3 d4 d5 d6 d7 d8 d9 d10 d11 d12 d13 d14);obtain ⟨d0,d1,d2,d3,d4,d5,d6,d7,d8,d9,d10,d11,d12,d13,d14⟩:=id hEd3.out)
  |(go_at_call 19;(with_reducible refine (P.out _).mono ?_);rintro e w' ⟨rfl,hw⟩;replace hw:=hw.symm;subst hw)
  |(go_at_call 20;(with_reducible refine (KW.out _ hB3.out).mono ?_);rintro r w4 ⟨rfl,h4⟩;have hB4:=Lib.hid (hB3.out.trans (h4.mono hB3.out.size));have hEc4:=Lib.hid (hEc3.out.below h4 hEc3.out.lt);have hEd4:=Lib.hid (hEd3.out.below h4 hEd3.out.lt);clear h4;(try clear c0 c1 c2 c3 c4 c5 c6 c7 c8 c9 c10 c11 c12 c13 c14);obtain ⟨c0,c1,c2,c3,c4,c5,c6,c7,c8,c9,c10,c11,c12,c13,c14⟩:=id hEc4.out;(try clear d0 d1 d2 d3 d4 d5 d6 d7 d8 d9 d10 d11 d12 d13 d14);obtain ⟨d0,d1,d2,d3,d4,d5,d6,d7,d8,d9,d10,d11,d12,d13,d14⟩:=id hEd4.out)
  |(go_at_call 20;(with_reducible refine (KW2.out _ hB4.out).mono ?_);rintro r w5 ⟨rfl,h5⟩;have hB5:=Lib.hid (hB4.out.trans (h5.mono hB4.out.size));have hEc5:=Lib.hid (hEc4.out.below h5 hEc4.out.lt);have hEd5:=Lib.hid (hEd4.out.below h5 hEd4.out.lt);clear h5;(try clear c0 c1 c2 c3 c4 c5 c6 c7 c8 c9 c10 c11 c12 c13 c14);obtain ⟨c0,c1,c2,c3,c4,c5,c6,c7,c8,c9,c10,c11,c12,c13,c14⟩:=id hEc5.out;(try clear d0 d1 d2 d3 d4 d5 d6 d7 d8 d9 d10 d11 d12 d13 d14);obtain ⟨d0,d1,d2,d3,d4,d5,d6,d7,d8,d9,d10,d11,d12,d13,d14⟩:=id hEd5.out)
  |(go_at_call 21;(with_reducible refine (KS.out _ hB5.out).mono ?_);rintro r w6 ⟨rfl,h6⟩;have hB6:=Lib.hid (hB5.out.trans (h6.mono hB5.out.size));have hEc6:=Lib.hid (hEc5.out.below h6 hEc5.out.lt);have hEd6:=Lib.hid (hEd5.out.below h6 hEd5.out.lt);clear h6;(try clear c0 c1 c2 c3 c4 c5 c6 c7 c8 c9 c10 c11 c12 c13 c14);obtain ⟨c0,c1,c2,c3,c4,c5,c6,c7,c8,c9,c10,c11,c12,c13,c14⟩:=id hEc6.out;(try clear d0 d1 d2 d3 d4 d5 d6 d7 d8 d9 d10 d11 d12 d13 d14);obtain ⟨d0,d1,d2,d3,d4,d5,d6,d7,d8,d9,d10,d11,d12,d13,d14⟩:=id hEd6.out)
  | fail)
 go_ret
 exact ⟨by first|rfl|simp,hB6.out⟩
set_option maxRecDepth 100000 in
set_option maxHeartbeats 8000000 in
theorem one_k2 (a0:Int) (w0:(Lit.int .i64 a0).wf=true) (e:EntL) (ad:Option Addr) (cap:Nat) (ho:EntOk e) (hc:e.map.length≤cap) (f:EntL) (ad2:Option Addr) (cap2:Nat) (ho2:EntOk f) (hc2:f.map.length≤cap2) (hs:Small e) (hs2:Small f) (p:Nat) (hpp:(p:Int)≤3) (hP:∀ w,Calls Tryz.prog 19 #[.int .i64 a0,.int .i64 4] w (fun e w'=>e=.returned (.int .i64 (p:Int))∧w'=w)) (s t:List UInt8) (k k2:Int) (hS:eWriteF (1+(p:Int)) e=(s,k)) (hS2:eWriteF (1+(p:Int)) f=(t,k2)) (w:World) (hM:PiecesAt w ad e.map) (hN:PiecesAt w ad2 f.map) (hg:ErrLaid w) (hp:Px.PowLaid w) (ha:Px.AtoiLaid w) (hL:∀ w,Calls Tryz.prog 18 #[entV e (.slice ad e.map.length cap)] w fun r w'=>r=.returned (.bool false)∧Below w.heap.size w w') (hL2:∀ w,Calls Tryz.prog 18 #[entV f (.slice ad2 f.map.length cap2)] w fun r w'=>r=.returned (.bool false)∧Below w.heap.size w w') (k0:k=0) (k20:k2≠0) :
  Calls Tryz.prog 3 #[.int .i64 a0,entV e (.slice ad e.map.length cap),entV f (.slice ad2 f.map.length cap2)] w fun r w'=>r=.returned (.bool true)∧Below w.heap.size w w':=by
 have hsz:(w.alloc (.cells (entC e (.slice ad e.map.length cap)) 26)).heap.size=w.heap.size+1:=Array.size_push ..
 have hB0:=Lib.hid (below_alloc2 w (.cells (entC e (.slice ad e.map.length cap)) 26) (.cells (entC f (.slice ad2 f.map.length cap2)) 26))
 have hEc0:=Lib.hid ((EntAt.new w e (.slice ad e.map.length cap) 26).below (B:=w.heap.size+1) ((Below.refl _ _).alloc (Nat.le_of_eq hsz.symm) (.cells (entC f (.slice ad2 f.map.length cap2)) 26)) (Nat.lt_succ_self _))
 have hEd0:=EntAt.new (w.alloc (.cells (entC e (.slice ad e.map.length cap)) 26)) f (.slice ad2 f.map.length cap2) 26
 rw [hsz] at hEd0
 replace hEd0:=Lib.hid hEd0
 have HM:=Lib.hid (fun W (h:Below w.heap.size w W)=>hM.below h)
 have HN:=Lib.hid (fun W (h:Below w.heap.size w W)=>hN.below h)
 have KT:=Lib.hid (fun W (h:Below w.heap.size w W)=>told_any W (hp.below h) ⟨hp.below h,ha.below h⟩ (hg.below h))
 have KL:=Lib.hid (fun W (h:Below w.heap.size w W)=>hL W)
 clear hL hsz
 have KL2:=Lib.hid (fun W (h:Below w.heap.size w W)=>hL2 W)
 clear hL2
 have P:=Lib.hid hP
 have hw1:IntKind.i64.wrap (1+(p:Int))=1+(p:Int):=IntWalk.i64_in _ ⟨by omega,by omega⟩
 have KW:=Lib.hid (fun W (h:Below w.heap.size w W)=>memWrite_all (1+(p:Int)) e ad cap ho hs hc W (hp.below h) (HM.out W h))
 have KW2:=Lib.hid (fun W (h:Below w.heap.size w W)=>memWrite_all (1+(p:Int)) f ad2 cap2 ho2 hs2 hc2 W (hp.below h) (HN.out W h))
 rw [hS] at KW
 rw [hS2] at KW2
 dsimp only at KW KW2
 clear hP
 rw [k0,errV_z] at KW
 obtain ⟨v2,hv2⟩:=errV_nz k20
 rw [hv2] at KW2
 unfold entC at hEc0 hEd0 hB0
 unfold entV at KL KL2 KW KW2 ⊢
 clear hM hN hc hc2 ho ho2 hg hp ha hs hs2 hS hS2 hv2 k0 k20 HM HN
 generalize e.map.length=n at *
 generalize f.map.length=m at *
 go_enter Tryz.func3,Tryz.ntmps3
 go_wp2_with (first
  |(go_at_call 17;(with_reducible refine (KT.out _ hB0.out).mono ?_);rintro r w1 ⟨rfl,h1⟩;have hB1:=Lib.hid (hB0.out.trans (h1.mono hB0.out.size));have hEc1:=Lib.hid (hEc0.out.below h1 hEc0.out.lt);have hEd1:=Lib.hid (hEd0.out.below h1 hEd0.out.lt);clear h1;(try clear c0 c1 c2 c3 c4 c5 c6 c7 c8 c9 c10 c11 c12 c13 c14);obtain ⟨c0,c1,c2,c3,c4,c5,c6,c7,c8,c9,c10,c11,c12,c13,c14⟩:=id hEc1.out;(try clear d0 d1 d2 d3 d4 d5 d6 d7 d8 d9 d10 d11 d12 d13 d14);obtain ⟨d0,d1,d2,d3,d4,d5,d6,d7,d8,d9,d10,d11,d12,d13,d14⟩:=id hEd1.out)
  |(go_at_call 18;(with_reducible refine (KL.out _ hB1.out).mono ?_);rintro r w2 ⟨rfl,h2⟩;have hB2:=Lib.hid (hB1.out.trans (h2.mono hB1.out.size));have hEc2:=Lib.hid (hEc1.out.below h2 hEc1.out.lt);have hEd2:=Lib.hid (hEd1.out.below h2 hEd1.out.lt);clear h2;(try clear c0 c1 c2 c3 c4 c5 c6 c7 c8 c9 c10 c11 c12 c13 c14);obtain ⟨c0,c1,c2,c3,c4,c5,c6,c7,c8,c9,c10,c11,c12,c13,c14⟩:=id hEc2.out;(try clear d0 d1 d2 d3 d4 d5 d6 d7 d8 d9 d10 d11 d12 d13 d14);obtain ⟨d0,d1,d2,d3,d4,d5,d6,d7,d8,d9,d10,d11,d12,d13,d14⟩:=id hEd2.out)
  |(go_at_call 18;(with_reducible refine (KL2.out _ hB2.out).mono ?_);rintro r w3 ⟨rfl,h3⟩;have hB3:=Lib.hid (hB2.out.trans (h3.mono hB2.out.size));have hEc3:=Lib.hid (hEc2.out.below h3 hEc2.out.lt);have hEd3:=Lib.hid (hEd2.out.below h3 hEd2.out.lt);clear h3;(try clear c0 c1 c2 c3 c4 c5 c6 c7 c8 c9 c10 c11 c12 c13 c14);obtain ⟨c0,c1,c2,c3,c4,c5,c6,c7,c8,c9,c10,c11,c12,c13,c14⟩:=id hEc3.out;(try clear d0 d1 d2 d3 d4 d5 d6 d7 d8 d9 d10 d11 d12 d13 d14);obtain ⟨d0,d1,d2,d3,d4,d5,d6,d7,d8,d9,d10,d11,d12,d13,d14⟩:=id hEd3.out)
  |(go_at_call 19;(with_reducible refine (P.out _).mono ?_);rintro e w' ⟨rfl,hw⟩;replace hw:=hw.symm;subst hw)
  |(go_at_call 20;(with_reducible refine (KW.out _ hB3.out).mono ?_);rintro r w4 ⟨rfl,h4⟩;have hB4:=Lib.hid (hB3.out.trans (h4.mono hB3.out.size));have hEc4:=Lib.hid (hEc3.out.below h4 hEc3.out.lt);have hEd4:=Lib.hid (hEd3.out.below h4 hEd3.out.lt);clear h4;(try clear c0 c1 c2 c3 c4 c5 c6 c7 c8 c9 c10 c11 c12 c13 c14);obtain ⟨c0,c1,c2,c3,c4,c5,c6,c7,c8,c9,c10,c11,c12,c13,c14⟩:=id hEc4.out;(try clear d0 d1 d2 d3 d4 d5 d6 d7 d8 d9 d10 d11 d12 d13 d14);obtain ⟨d0,d1,d2,d3,d4,d5,d6,d7,d8,d9,d10,d11,d12,d13,d14⟩:=id hEd4.out)
  |(go_at_call 20;(with_reducible refine (KW2.out _ hB4.out).mono ?_);rintro r w5 ⟨rfl,h5⟩;have hB5:=Lib.hid (hB4.out.trans (h5.mono hB4.out.size));have hEc5:=Lib.hid (hEc4.out.below h5 hEc4.out.lt);have hEd5:=Lib.hid (hEd4.out.below h5 hEd4.out.lt);clear h5;(try clear c0 c1 c2 c3 c4 c5 c6 c7 c8 c9 c10 c11 c12 c13 c14);obtain ⟨c0,c1,c2,c3,c4,c5,c6,c7,c8,c9,c10,c11,c12,c13,c14⟩:=id hEc5.out;(try clear d0 d1 d2 d3 d4 d5 d6 d7 d8 d9 d10 d11 d12 d13 d14);obtain ⟨d0,d1,d2,d3,d4,d5,d6,d7,d8,d9,d10,d11,d12,d13,d14⟩:=id hEd5.out)
  | fail)
 go_ret
 exact ⟨by first|rfl|simp,hB5.out⟩
set_option maxRecDepth 100000 in
set_option maxHeartbeats 8000000 in
theorem one_k (a0:Int) (w0:(Lit.int .i64 a0).wf=true) (e:EntL) (ad:Option Addr) (cap:Nat) (ho:EntOk e) (hc:e.map.length≤cap) (f:EntL) (ad2:Option Addr) (cap2:Nat) (ho2:EntOk f) (hc2:f.map.length≤cap2) (hs:Small e) (hs2:Small f) (p:Nat) (hpp:(p:Int)≤3) (hP:∀ w,Calls Tryz.prog 19 #[.int .i64 a0,.int .i64 4] w (fun e w'=>e=.returned (.int .i64 (p:Int))∧w'=w)) (s t:List UInt8) (k k2:Int) (hS:eWriteF (1+(p:Int)) e=(s,k)) (hS2:eWriteF (1+(p:Int)) f=(t,k2)) (w:World) (hM:PiecesAt w ad e.map) (hN:PiecesAt w ad2 f.map) (hg:ErrLaid w) (hp:Px.PowLaid w) (ha:Px.AtoiLaid w) (hL:∀ w,Calls Tryz.prog 18 #[entV e (.slice ad e.map.length cap)] w fun r w'=>r=.returned (.bool false)∧Below w.heap.size w w') (hL2:∀ w,Calls Tryz.prog 18 #[entV f (.slice ad2 f.map.length cap2)] w fun r w'=>r=.returned (.bool false)∧Below w.heap.size w w') (k0:k≠0) :
  Calls Tryz.prog 3 #[.int .i64 a0,entV e (.slice ad e.map.length cap),entV f (.slice ad2 f.map.length cap2)] w fun r w'=>r=.returned (.bool true)∧Below w.heap.size w w':=by
 have hsz:(w.alloc (.cells (entC e (.slice ad e.map.length cap)) 26)).heap.size=w.heap.size+1:=Array.size_push ..
 have hB0:=Lib.hid (below_alloc2 w (.cells (entC e (.slice ad e.map.length cap)) 26) (.cells (entC f (.slice ad2 f.map.length cap2)) 26))
 have hEc0:=Lib.hid ((EntAt.new w e (.slice ad e.map.length cap) 26).below (B:=w.heap.size+1) ((Below.refl _ _).alloc (Nat.le_of_eq hsz.symm) (.cells (entC f (.slice ad2 f.map.length cap2)) 26)) (Nat.lt_succ_self _))
 have hEd0:=EntAt.new (w.alloc (.cells (entC e (.slice ad e.map.length cap)) 26)) f (.slice ad2 f.map.length cap2) 26
 rw [hsz] at hEd0
 replace hEd0:=Lib.hid hEd0
 have HM:=Lib.hid (fun W (h:Below w.heap.size w W)=>hM.below h)
 have HN:=Lib.hid (fun W (h:Below w.heap.size w W)=>hN.below h)
 have KT:=Lib.hid (fun W (h:Below w.heap.size w W)=>told_any W (hp.below h) ⟨hp.below h,ha.below h⟩ (hg.below h))
 have KL:=Lib.hid (fun W (h:Below w.heap.size w W)=>hL W)
 clear hL hsz
 have KL2:=Lib.hid (fun W (h:Below w.heap.size w W)=>hL2 W)
 clear hL2
 have P:=Lib.hid hP
 have hw1:IntKind.i64.wrap (1+(p:Int))=1+(p:Int):=IntWalk.i64_in _ ⟨by omega,by omega⟩
 have KW:=Lib.hid (fun W (h:Below w.heap.size w W)=>memWrite_all (1+(p:Int)) e ad cap ho hs hc W (hp.below h) (HM.out W h))
 have KW2:=Lib.hid (fun W (h:Below w.heap.size w W)=>memWrite_all (1+(p:Int)) f ad2 cap2 ho2 hs2 hc2 W (hp.below h) (HN.out W h))
 rw [hS] at KW
 rw [hS2] at KW2
 dsimp only at KW KW2
 clear hP
 obtain ⟨v,hv⟩:=errV_nz k0
 rw [hv] at KW
 generalize errV k2=E2 at KW2
 unfold entC at hEc0 hEd0 hB0
 unfold entV at KL KL2 KW KW2 ⊢
 clear hM hN hc hc2 ho ho2 hg hp ha hs hs2 hS hS2 hv k0 HM HN
 generalize e.map.length=n at *
 generalize f.map.length=m at *
 go_enter Tryz.func3,Tryz.ntmps3
 go_wp2_with (first
  |(go_at_call 17;(with_reducible refine (KT.out _ hB0.out).mono ?_);rintro r w1 ⟨rfl,h1⟩;have hB1:=Lib.hid (hB0.out.trans (h1.mono hB0.out.size));have hEc1:=Lib.hid (hEc0.out.below h1 hEc0.out.lt);have hEd1:=Lib.hid (hEd0.out.below h1 hEd0.out.lt);clear h1;(try clear c0 c1 c2 c3 c4 c5 c6 c7 c8 c9 c10 c11 c12 c13 c14);obtain ⟨c0,c1,c2,c3,c4,c5,c6,c7,c8,c9,c10,c11,c12,c13,c14⟩:=id hEc1.out;(try clear d0 d1 d2 d3 d4 d5 d6 d7 d8 d9 d10 d11 d12 d13 d14);obtain ⟨d0,d1,d2,d3,d4,d5,d6,d7,d8,d9,d10,d11,d12,d13,d14⟩:=id hEd1.out)
  |(go_at_call 18;(with_reducible refine (KL.out _ hB1.out).mono ?_);rintro r w2 ⟨rfl,h2⟩;have hB2:=Lib.hid (hB1.out.trans (h2.mono hB1.out.size));have hEc2:=Lib.hid (hEc1.out.below h2 hEc1.out.lt);have hEd2:=Lib.hid (hEd1.out.below h2 hEd1.out.lt);clear h2;(try clear c0 c1 c2 c3 c4 c5 c6 c7 c8 c9 c10 c11 c12 c13 c14);obtain ⟨c0,c1,c2,c3,c4,c5,c6,c7,c8,c9,c10,c11,c12,c13,c14⟩:=id hEc2.out;(try clear d0 d1 d2 d3 d4 d5 d6 d7 d8 d9 d10 d11 d12 d13 d14);obtain ⟨d0,d1,d2,d3,d4,d5,d6,d7,d8,d9,d10,d11,d12,d13,d14⟩:=id hEd2.out)
  |(go_at_call 18;(with_reducible refine (KL2.out _ hB2.out).mono ?_);rintro r w3 ⟨rfl,h3⟩;have hB3:=Lib.hid (hB2.out.trans (h3.mono hB2.out.size));have hEc3:=Lib.hid (hEc2.out.below h3 hEc2.out.lt);have hEd3:=Lib.hid (hEd2.out.below h3 hEd2.out.lt);clear h3;(try clear c0 c1 c2 c3 c4 c5 c6 c7 c8 c9 c10 c11 c12 c13 c14);obtain ⟨c0,c1,c2,c3,c4,c5,c6,c7,c8,c9,c10,c11,c12,c13,c14⟩:=id hEc3.out;(try clear d0 d1 d2 d3 d4 d5 d6 d7 d8 d9 d10 d11 d12 d13 d14);obtain ⟨d0,d1,d2,d3,d4,d5,d6,d7,d8,d9,d10,d11,d12,d13,d14⟩:=id hEd3.out)
  |(go_at_call 19;(with_reducible refine (P.out _).mono ?_);rintro e w' ⟨rfl,hw⟩;replace hw:=hw.symm;subst hw)
  |(go_at_call 20;(with_reducible refine (KW.out _ hB3.out).mono ?_);rintro r w4 ⟨rfl,h4⟩;have hB4:=Lib.hid (hB3.out.trans (h4.mono hB3.out.size));have hEc4:=Lib.hid (hEc3.out.below h4 hEc3.out.lt);have hEd4:=Lib.hid (hEd3.out.below h4 hEd3.out.lt);clear h4;(try clear c0 c1 c2 c3 c4 c5 c6 c7 c8 c9 c10 c11 c12 c13 c14);obtain ⟨c0,c1,c2,c3,c4,c5,c6,c7,c8,c9,c10,c11,c12,c13,c14⟩:=id hEc4.out;(try clear d0 d1 d2 d3 d4 d5 d6 d7 d8 d9 d10 d11 d12 d13 d14);obtain ⟨d0,d1,d2,d3,d4,d5,d6,d7,d8,d9,d10,d11,d12,d13,d14⟩:=id hEd4.out)
  |(go_at_call 20;(with_reducible refine (KW2.out _ hB4.out).mono ?_);rintro r w5 ⟨rfl,h5⟩;have hB5:=Lib.hid (hB4.out.trans (h5.mono hB4.out.size));have hEc5:=Lib.hid (hEc4.out.below h5 hEc4.out.lt);have hEd5:=Lib.hid (hEd4.out.below h5 hEd4.out.lt);clear h5;(try clear c0 c1 c2 c3 c4 c5 c6 c7 c8 c9 c10 c11 c12 c13 c14);obtain ⟨c0,c1,c2,c3,c4,c5,c6,c7,c8,c9,c10,c11,c12,c13,c14⟩:=id hEc5.out;(try clear d0 d1 d2 d3 d4 d5 d6 d7 d8 d9 d10 d11 d12 d13 d14);obtain ⟨d0,d1,d2,d3,d4,d5,d6,d7,d8,d9,d10,d11,d12,d13,d14⟩:=id hEd5.out)
  | fail)
 go_ret
 exact ⟨by first|rfl|simp,hB5.out⟩
set_option maxRecDepth 100000 in
set_option maxHeartbeats 8000000 in
theorem memberOne_walk (a0:Int) (w0:(Lit.int .i64 a0).wf=true) (e:EntL) (ad:Option Addr) (cap:Nat) (ho:EntOk e) (hc:e.map.length≤cap) (f:EntL) (ad2:Option Addr) (cap2:Nat) (ho2:EntOk f) (hc2:f.map.length≤cap2) (w:World) (hM:PiecesAt w ad e.map) (hN:PiecesAt w ad2 f.map) (hg:ErrLaid w) (hp:Px.PowLaid w) (ha:Px.AtoiLaid w) :
  Calls Tryz.prog 3 #[.int .i64 a0,entV e (.slice ad e.map.length cap),entV f (.slice ad2 f.map.length cap2)] w fun r w'=>r=.returned (.bool true)∧Below w.heap.size w w':=by
 obtain ⟨b,hb,hL⟩:=large_keep e ho ad cap
 obtain ⟨b2,hb2,hL2⟩:=large_keep f ho2 ad2 cap2
 cases b with
 | true=>exact one_t a0 w0 e ad cap ho hc f ad2 cap2 ho2 hc2 w hM hN hg hp ha hL
 | false =>
  have hs:=hb rfl
  cases b2 with
  | true=>exact one_t2 a0 w0 e ad cap ho hc f ad2 cap2 ho2 hc2 w hM hN hg hp ha hL hL2
  | false =>
   have hs2:=hb2 rfl
   have hd:=hs.data
   have hd2:=hs2.data
   obtain ⟨p,hp4,hP⟩:=pick_nat a0 4 (by decide) (by decide)
   obtain ⟨⟨s,k⟩,hS⟩:∃ q,eWriteF (1+(p:Int)) e=q:=⟨_,rfl⟩
   obtain ⟨⟨t,k2⟩,hS2⟩:∃ q,eWriteF (1+(p:Int)) f=q:=⟨_,rfl⟩
   by_cases hk:k=0
   ·by_cases hk2:k2=0
    ·by_cases hef:e=f
     ·have hst:s=t:=by
       rw [hef] at hS
       rw [hS] at hS2
       exact (Prod.mk.inj hS2).1
      exact one_eq a0 w0 e ad cap ho hc f ad2 cap2 ho2 hc2 hs hs2 p (by omega) hP s t k k2 hS hS2 w hM hN hg hp ha hL hL2 hk hk2 hef hst
     ·have hst:s≠t:=fun h=>by
       subst h hk hk2
       exact hef (write_one (by omega) (by omega) hS hS2)
      exact one_ne a0 w0 e ad cap ho hc f ad2 cap2 ho2 hc2 hs hs2 p (by omega) hP s t k k2 hS hS2 w hM hN hg hp ha hL hL2 hk hk2 hef hst
    ·exact one_k2 a0 w0 e ad cap ho hc f ad2 cap2 ho2 hc2 hs hs2 p (by omega) hP s t k k2 hS hS2 w hM hN hg hp ha hL hL2 hk hk2
   ·exact one_k a0 w0 e ad cap ho hc f ad2 cap2 ho2 hc2 hs hs2 p (by omega) hP s t k k2 hS hS2 w hM hN hg hp ha hL hL2 hk
end Go.Proofs.YtdjcjaidklgamaaGreatDoor
end
