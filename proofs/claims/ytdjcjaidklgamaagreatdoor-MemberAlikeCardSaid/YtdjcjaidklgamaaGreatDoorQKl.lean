import Derived.Test.YtdjcjaidklgamaaGreatDoorQEv
import Derived.Test.YtdjcjaidklgamaaGreatDoorQHw
set_option linter.unusedSimpArgs false
set_option linter.unusedVariables false
section
namespace Go.Proofs.YtdjcjaidklgamaaGreatDoor
open Go.RowKit Go.Joins
set_option maxRecDepth 100000 in
set_option maxHeartbeats 8000000 in
theorem alike_t (a0:Int) (w0:(Lit.int .i64 a0).wf=true) (a1:Int) (w1:(Lit.int .i64 a1).wf=true) (e:EntL) (ad:Option Addr) (cap:Nat) (ho:EntOk e) (hc:e.map.length≤cap) (w:World) (hM:PiecesAt w ad e.map) (hg:ErrLaid w) (hp:Px.PowLaid w) (ha:Px.AtoiLaid w) (hL:∀ w,Calls Tryz.prog 18 #[entV e (.slice ad e.map.length cap)] w fun r w'=>r=.returned (.bool true)∧Below w.heap.size w w') :
  Calls Tryz.prog 4 #[.int .i64 a0,.int .i64 a1,entV e (.slice ad e.map.length cap)] w fun r w'=>r=.returned (.bool true)∧Below w.heap.size w w':=by
 have hE0:=EntAt.new w e (.slice ad e.map.length cap) 26
 have hB0:=Lib.hid (below_alloc1 w (.cells (entC e (.slice ad e.map.length cap)) 26))
 have hEc0:=Lib.hid hE0
 have hR0:=Lib.hid (heap_alloc_new w (.cells (entC e (.slice ad e.map.length cap)) 26))
 have HM:=Lib.hid (fun W (h:Below w.heap.size w W)=>hM.below h)
 have KT:=Lib.hid (fun W (h:Below w.heap.size w W)=>told_any W (hp.below h) ⟨hp.below h,ha.below h⟩ (hg.below h))
 have KL:=Lib.hid (fun W (h:Below w.heap.size w W)=>hL W)
 clear hE0 hL
 unfold entC at hEc0 hB0 hR0
 unfold entV at KL ⊢
 clear hM hc ho hg hp ha
 generalize e.map.length=n at *
 go_enter Tryz.func4,Tryz.ntmps4
 go_wp2_with (first
  |(go_at_call 17;(with_reducible refine (KT.out _ hB0.out).mono ?_);rintro r w1 ⟨rfl,h1⟩;have hB1:=Lib.hid (hB0.out.trans (h1.mono hB0.out.size));have hEc1:=Lib.hid (hEc0.out.below h1 hEc0.out.lt);have hR1:=Lib.hid ((h1.block _ hEc0.out.lt).trans hR0.out);clear h1;(try clear c0 c1 c2 c3 c4 c5 c6 c7 c8 c9 c10 c11 c12 c13 c14);obtain ⟨c0,c1,c2,c3,c4,c5,c6,c7,c8,c9,c10,c11,c12,c13,c14⟩:=id hEc1.out)
  |(go_at_call 18;(with_reducible refine (KL.out _ hB1.out).mono ?_);rintro r w2 ⟨rfl,h2⟩;have hB2:=Lib.hid (hB1.out.trans (h2.mono hB1.out.size));have hEc2:=Lib.hid (hEc1.out.below h2 hEc1.out.lt);have hR2:=Lib.hid ((h2.block _ hEc1.out.lt).trans hR1.out);clear h2;(try clear c0 c1 c2 c3 c4 c5 c6 c7 c8 c9 c10 c11 c12 c13 c14);obtain ⟨c0,c1,c2,c3,c4,c5,c6,c7,c8,c9,c10,c11,c12,c13,c14⟩:=id hEc2.out)
  | fail)
 go_ret
 exact ⟨rfl,hB2.out⟩
set_option maxRecDepth 100000 in
set_option maxHeartbeats 8000000 in
theorem alike_z (a0:Int) (w0:(Lit.int .i64 a0).wf=true) (a1:Int) (w1:(Lit.int .i64 a1).wf=true) (e:EntL) (ad:Option Addr) (cap:Nat) (ho:EntOk e) (hc:e.map.length≤cap) (hs:Small e) (p p2:Nat) (hpp:(p:Int)≤3) (hpp2:(p2:Int)≤3) (hP:∀ w,Calls Tryz.prog 19 #[.int .i64 a0,.int .i64 4] w (fun e w'=>e=.returned (.int .i64 (p:Int))∧w'=w)) (hP2:∀ w,Calls Tryz.prog 19 #[.int .i64 a1,.int .i64 4] w (fun e w'=>e=.returned (.int .i64 (p2:Int))∧w'=w)) (s t:List UInt8) (k k2:Int) (hS:eWriteF (1+(p:Int)) e=(s,k)) (hS2:eWriteF (1+(p2:Int)) e=(t,k2)) (w:World) (hM:PiecesAt w ad e.map) (hg:ErrLaid w) (hp:Px.PowLaid w) (ha:Px.AtoiLaid w) (hL:∀ w,Calls Tryz.prog 18 #[entV e (.slice ad e.map.length cap)] w fun r w'=>r=.returned (.bool false)∧Below w.heap.size w w') (k0:k=0) (k20:k2=0) :
  Calls Tryz.prog 4 #[.int .i64 a0,.int .i64 a1,entV e (.slice ad e.map.length cap)] w fun r w'=>r=.returned (.bool true)∧Below w.heap.size w w':=by
 have hE0:=EntAt.new w e (.slice ad e.map.length cap) 26
 have hB0:=Lib.hid (below_alloc1 w (.cells (entC e (.slice ad e.map.length cap)) 26))
 have hEc0:=Lib.hid hE0
 have hR0:=Lib.hid (heap_alloc_new w (.cells (entC e (.slice ad e.map.length cap)) 26))
 have HM:=Lib.hid (fun W (h:Below w.heap.size w W)=>hM.below h)
 have KT:=Lib.hid (fun W (h:Below w.heap.size w W)=>told_any W (hp.below h) ⟨hp.below h,ha.below h⟩ (hg.below h))
 have KL:=Lib.hid (fun W (h:Below w.heap.size w W)=>hL W)
 clear hE0 hL
 have P:=Lib.hid hP
 have P2:=Lib.hid hP2
 have hw1:IntKind.i64.wrap (1+(p:Int))=1+(p:Int):=IntWalk.i64_in _ ⟨by omega,by omega⟩
 have hw2:IntKind.i64.wrap (1+(p2:Int))=1+(p2:Int):=IntWalk.i64_in _ ⟨by omega,by omega⟩
 have KW:=Lib.hid (fun W (h:Below w.heap.size w W)=>memWrite_all (1+(p:Int)) e ad cap ho hs hc W (hp.below h) (HM.out W h))
 have KW2:=Lib.hid (fun W (h:Below w.heap.size w W)=>memWrite_all (1+(p2:Int)) e ad cap ho hs hc W (hp.below h) (HM.out W h))
 rw [hS] at KW
 rw [hS2] at KW2
 dsimp only at KW KW2
 clear hP hP2
 subst k0
 subst k20
 rw [errV_z] at KW KW2
 have hd:=hs.data
 have hml:=hs.map
 have KR:=Lib.hid (fun W (h:Below w.heap.size w W)=>show Calls Tryz.prog 22 #[.string (mkS s),.int .i64 0,.slice none 0 0] W (fun r W'=>∃ ad cap a2 c2,r=.returned (.tuple #[entV e (.slice ad e.map.length cap),.int .i64 (s.length:Nat),.slice a2 0 c2,.nilIface])∧PiecesAt W' ad e.map∧Below W.heap.size W W') from by
  have:=read_back (1+(p:Int)) e (by omega) s hS [] [] (by rw [List.nil_append,List.append_nil];have:=(write_blocks hs hS).2;omega) W ⟨hp.below h,ha.below h⟩ (hg.below h)
  rw [List.nil_append,List.append_nil,List.length_nil,Nat.zero_add] at this
  exact this)
 have KR2:=Lib.hid (fun W (h:Below w.heap.size w W)=>show Calls Tryz.prog 22 #[.string (mkS t),.int .i64 0,.slice none 0 0] W (fun r W'=>∃ ad cap a2 c2,r=.returned (.tuple #[entV e (.slice ad e.map.length cap),.int .i64 (t.length:Nat),.slice a2 0 c2,.nilIface])∧PiecesAt W' ad e.map∧Below W.heap.size W W') from by
  have:=read_back (1+(p2:Int)) e (by omega) t hS2 [] [] (by rw [List.nil_append,List.append_nil];have:=(write_blocks hs hS2).2;omega) W ⟨hp.below h,ha.below h⟩ (hg.below h)
  rw [List.nil_append,List.append_nil,List.length_nil,Nat.zero_add] at this
  exact this)
 have KS:=Lib.hid (fun (ad3 ad4:Option Addr) (cap3 cap4:Nat) (W:World) (h1:PiecesAt W ad3 e.map) (h2:PiecesAt W ad4 e.map)=>show Calls Tryz.prog 21 #[entV e (.slice ad3 e.map.length cap3),entV e (.slice ad4 e.map.length cap4)] W (fun r w'=>r=.returned (.bool true)∧Below W.heap.size W w') from by
  have:=same_any e e ad3 ad4 cap3 cap4 (by omega) (by omega) W h1 h2
  rwa [decide_eq_true rfl] at this)
 unfold entC at hEc0 hB0 hR0
 unfold entV at KL KW KW2 KR KR2 KS ⊢
 clear hM hc ho hg hp ha hs hS hS2 hd hml HM
 generalize e.map.length=n at *
 go_enter Tryz.func4,Tryz.ntmps4
 go_wp2_with (first
  |(go_at_call 17;(with_reducible refine (KT.out _ hB0.out).mono ?_);rintro r w1 ⟨rfl,h1⟩;have hB1:=Lib.hid (hB0.out.trans (h1.mono hB0.out.size));have hEc1:=Lib.hid (hEc0.out.below h1 hEc0.out.lt);have hR1:=Lib.hid ((h1.block _ hEc0.out.lt).trans hR0.out);clear h1;(try clear c0 c1 c2 c3 c4 c5 c6 c7 c8 c9 c10 c11 c12 c13 c14);obtain ⟨c0,c1,c2,c3,c4,c5,c6,c7,c8,c9,c10,c11,c12,c13,c14⟩:=id hEc1.out)
  |(go_at_call 18;(with_reducible refine (KL.out _ hB1.out).mono ?_);rintro r w2 ⟨rfl,h2⟩;have hB2:=Lib.hid (hB1.out.trans (h2.mono hB1.out.size));have hEc2:=Lib.hid (hEc1.out.below h2 hEc1.out.lt);have hR2:=Lib.hid ((h2.block _ hEc1.out.lt).trans hR1.out);clear h2;(try clear c0 c1 c2 c3 c4 c5 c6 c7 c8 c9 c10 c11 c12 c13 c14);obtain ⟨c0,c1,c2,c3,c4,c5,c6,c7,c8,c9,c10,c11,c12,c13,c14⟩:=id hEc2.out)
  | fail)
 have hdr:=(Below.refl w2.heap.size w2).drew
 have hRD:=(hdr.block _ hEc2.out.lt).trans hR2.out
 have hBD:=Lib.hid (hB2.out.trans (hdr.mono hB2.out.size))
 have hED:=Lib.hid (hEc2.out.below hdr hEc2.out.lt)
 clear c0 c1 c2 c3 c4 c5 c6 c7 c8 c9 c10 c11 c12 c13 c14
 refine wp_region_held_drew (S:=fun w'=>w'.heap[w.heap.size]?=some (.cells (entC e (.slice ad n cap)) 26 (0,0))) (by kernel_rfl) hRD (fun hHeld=>?_)
 refine take_to (i:=0) 24 (.int .i64 a0) rfl rfl (by kernel_rfl) (by kernel_rfl) (by kernel_rfl) (fun _ _ _ h=>h) (Or.inl ⟨by rfl,?_⟩) (by assumption) ?_
 ·intro w hSw;rfl
 simp only [List.setIfInBounds_toArray,List.set_cons_succ,List.set_cons_zero]
 refine take_to (i:=3) 27 (.agg #[.string (mkS e.name),.int .u8 (e.kind.toNat:Int),.int .i64 e.mode,.int .i64 e.uid,.int .i64 e.gid,.int .i64 e.size,.int .i64 e.sec,.int .i64 e.nano,.string (mkS e.link),.string (mkS e.user),.string (mkS e.group),.int .i64 e.major,.int .i64 e.minor,.string (mkS e.data),.slice ad n cap]) rfl rfl (by kernel_rfl) (by kernel_rfl) (by kernel_rfl) (fun _ _ _ h=>h) (Or.inl ⟨by rfl,?_⟩) (by assumption) ?_
 ·exact fun w1 h1=>exec_load_row _ _ rfl _ rfl h1 Tryz.underlying26 rfl entInfo
 simp only [List.setIfInBounds_toArray,List.set_cons_succ,List.set_cons_zero]
 refine wpAnyH_ready (rs:=[1]) (by kernel_rfl) (by simp) ?_
 refine AllReadyH.cons rfl (fun K hK=>?_) AllReadyH.nil
 rw [if_pos (by rfl)]
 refine call_at (R:=fun v V=>v=.int .i64 (p:Int)∧V=w2.drew) 25 rfl 19 #[.int .i64 a0,.int .i64 4] (by kernel_rfl) ((P.out _).mono (by rintro e V ⟨he,hx⟩;exact ⟨_,he,rfl,hx⟩)) ?_
 rintro _ V ⟨rfl,rfl⟩
 refine hK.out _ _ hHeld (fun hHeld2=>?_)
 clear hK hHeld2
 simp only [List.setIfInBounds_toArray,List.set_cons_succ,List.set_cons_zero]
 refine take_to (i:=2) 26 (.int .i64 (1+(p:Int))) rfl rfl (by kernel_rfl) (by kernel_rfl) (by kernel_rfl) (fun _ _ _ h=>h) (Or.inl ⟨by rfl,?_⟩) (by assumption) ?_
 ·(intro w hSw;(try dsimp only at hSw);go_simp;try with_reducible rfl)
 simp only [List.setIfInBounds_toArray,List.set_cons_succ,List.set_cons_zero]
 refine wpAnyH_ready (rs:=[4]) (by kernel_rfl) (by simp) ?_
 refine AllReadyH.cons rfl (fun K hK=>?_) AllReadyH.nil
 rw [if_pos (by rfl)]
 refine call_at (R:=fun u V=>u=.tuple #[.string (mkS s),.nilIface]∧Below w2.drew.heap.size w2.drew V) 28 rfl 20 #[.int .i64 (1+(p:Int)),.agg #[.string (mkS e.name),.int .u8 (e.kind.toNat:Int),.int .i64 e.mode,.int .i64 e.uid,.int .i64 e.gid,.int .i64 e.size,.int .i64 e.sec,.int .i64 e.nano,.string (mkS e.link),.string (mkS e.user),.string (mkS e.group),.int .i64 e.major,.int .i64 e.minor,.string (mkS e.data),.slice ad n cap]] (by kernel_rfl) ((KW.out _ hBD.out).mono (by rintro e V ⟨he,hx⟩;exact ⟨_,he,rfl,hx⟩)) ?_
 rintro _ w3 ⟨rfl,h3⟩
 have hB3:=Lib.hid (hBD.out.trans (h3.mono hBD.out.size))
 have hEc3:=Lib.hid (hED.out.below h3 hED.out.lt)
 have hR3:=Lib.hid ((h3.block _ (Array.getElem?_eq_some_iff.1 hRD).1).trans hRD)
 refine hK.out _ _ hR3.out (fun hHeld2=>?_)
 clear hK hHeld hRD hdr h3 hBD hED
 have hHeld:=hHeld2
 clear hHeld2
 simp only [List.setIfInBounds_toArray,List.set_cons_succ,List.set_cons_zero]
 refine take_to (i:=5) 23 (.tuple #[.string (mkS s),.nilIface]) rfl rfl (by kernel_rfl) (by kernel_rfl) (by kernel_rfl) (fun _ _ _ h=>h) (Or.inl ⟨by rfl,?_⟩) (by assumption) ?_
 ·intro w hSw;rfl
 simp only [List.setIfInBounds_toArray,List.set_cons_succ,List.set_cons_zero]
 refine take_to (i:=6) 29 (.string (mkS s)) rfl rfl (by kernel_rfl) (by kernel_rfl) (by kernel_rfl) (fun _ _ _ h=>h) (Or.inl ⟨by rfl,?_⟩) (by assumption) ?_
 ·(intro w hSw;(try dsimp only at hSw);go_simp;try with_reducible rfl)
 simp only [List.setIfInBounds_toArray,List.set_cons_succ,List.set_cons_zero]
 refine take_to (i:=7) 30 (.nilIface) rfl rfl (by kernel_rfl) (by kernel_rfl) (by kernel_rfl) (fun _ _ _ h=>h) (Or.inl ⟨by rfl,?_⟩) (by assumption) ?_
 ·(intro w hSw;(try dsimp only at hSw);go_simp;try with_reducible rfl)
 simp only [List.setIfInBounds_toArray,List.set_cons_succ,List.set_cons_zero]
 refine take_to (i:=8) 7 (.string (mkS s)) rfl rfl (by kernel_rfl) (by kernel_rfl) (by kernel_rfl) (fun _ _ _ h=>h) (Or.inl ⟨by rfl,?_⟩) (by assumption) ?_
 ·intro w hSw;rfl
 simp only [List.setIfInBounds_toArray,List.set_cons_succ,List.set_cons_zero]
 refine take_to (i:=9) 8 (.nilIface) rfl rfl (by kernel_rfl) (by kernel_rfl) (by kernel_rfl) (fun _ _ _ h=>h) (Or.inl ⟨by rfl,?_⟩) (by assumption) ?_
 ·intro w hSw;rfl
 simp only [List.setIfInBounds_toArray,List.set_cons_succ,List.set_cons_zero]
 refine wpAnyH_done (by kernel_rfl) ?_ _
 clear hHeld
 obtain ⟨c0,c1,c2,c3,c4,c5,c6,c7,c8,c9,c10,c11,c12,c13,c14⟩:=id hEc3.out
 go_wp2_with fail
 have hdr:=(Below.refl w3.heap.size w3).drew
 have hRD:=(hdr.block _ hEc3.out.lt).trans hR3.out
 have hBD:=Lib.hid (hB3.out.trans (hdr.mono hB3.out.size))
 have hED:=Lib.hid (hEc3.out.below hdr hEc3.out.lt)
 clear c0 c1 c2 c3 c4 c5 c6 c7 c8 c9 c10 c11 c12 c13 c14
 refine wp_region_held_drew (S:=fun w'=>w'.heap[w.heap.size]?=some (.cells (entC e (.slice ad n cap)) 26 (0,0))) (by kernel_rfl) hRD (fun hHeld=>?_)
 refine take_to (i:=0) 32 (.int .i64 a1) rfl rfl (by kernel_rfl) (by kernel_rfl) (by kernel_rfl) (fun _ _ _ h=>h) (Or.inl ⟨by rfl,?_⟩) (by assumption) ?_
 ·intro w hSw;rfl
 simp only [List.setIfInBounds_toArray,List.set_cons_succ,List.set_cons_zero]
 refine take_to (i:=3) 35 (.agg #[.string (mkS e.name),.int .u8 (e.kind.toNat:Int),.int .i64 e.mode,.int .i64 e.uid,.int .i64 e.gid,.int .i64 e.size,.int .i64 e.sec,.int .i64 e.nano,.string (mkS e.link),.string (mkS e.user),.string (mkS e.group),.int .i64 e.major,.int .i64 e.minor,.string (mkS e.data),.slice ad n cap]) rfl rfl (by kernel_rfl) (by kernel_rfl) (by kernel_rfl) (fun _ _ _ h=>h) (Or.inl ⟨by rfl,?_⟩) (by assumption) ?_
 ·exact fun w1 h1=>exec_load_row _ _ rfl _ rfl h1 Tryz.underlying26 rfl entInfo
 simp only [List.setIfInBounds_toArray,List.set_cons_succ,List.set_cons_zero]
 refine wpAnyH_ready (rs:=[1]) (by kernel_rfl) (by simp) ?_
 refine AllReadyH.cons rfl (fun K hK=>?_) AllReadyH.nil
 rw [if_pos (by rfl)]
 refine call_at (R:=fun v V=>v=.int .i64 (p2:Int)∧V=w3.drew) 33 rfl 19 #[.int .i64 a1,.int .i64 4] (by kernel_rfl) ((P2.out _).mono (by rintro e V ⟨he,hx⟩;exact ⟨_,he,rfl,hx⟩)) ?_
 rintro _ V ⟨rfl,rfl⟩
 refine hK.out _ _ hHeld (fun hHeld2=>?_)
 clear hK hHeld2
 simp only [List.setIfInBounds_toArray,List.set_cons_succ,List.set_cons_zero]
 refine take_to (i:=2) 34 (.int .i64 (1+(p2:Int))) rfl rfl (by kernel_rfl) (by kernel_rfl) (by kernel_rfl) (fun _ _ _ h=>h) (Or.inl ⟨by rfl,?_⟩) (by assumption) ?_
 ·(intro w hSw;(try dsimp only at hSw);go_simp;try with_reducible rfl)
 simp only [List.setIfInBounds_toArray,List.set_cons_succ,List.set_cons_zero]
 refine wpAnyH_ready (rs:=[4]) (by kernel_rfl) (by simp) ?_
 refine AllReadyH.cons rfl (fun K hK=>?_) AllReadyH.nil
 rw [if_pos (by rfl)]
 refine call_at (R:=fun u V=>u=.tuple #[.string (mkS t),.nilIface]∧Below w3.drew.heap.size w3.drew V) 36 rfl 20 #[.int .i64 (1+(p2:Int)),.agg #[.string (mkS e.name),.int .u8 (e.kind.toNat:Int),.int .i64 e.mode,.int .i64 e.uid,.int .i64 e.gid,.int .i64 e.size,.int .i64 e.sec,.int .i64 e.nano,.string (mkS e.link),.string (mkS e.user),.string (mkS e.group),.int .i64 e.major,.int .i64 e.minor,.string (mkS e.data),.slice ad n cap]] (by kernel_rfl) ((KW2.out _ hBD.out).mono (by rintro e V ⟨he,hx⟩;exact ⟨_,he,rfl,hx⟩)) ?_
 rintro _ w4 ⟨rfl,h4⟩
 have hB4:=Lib.hid (hBD.out.trans (h4.mono hBD.out.size))
 have hEc4:=Lib.hid (hED.out.below h4 hED.out.lt)
 have hR4:=Lib.hid ((h4.block _ (Array.getElem?_eq_some_iff.1 hRD).1).trans hRD)
 refine hK.out _ _ hR4.out (fun hHeld2=>?_)
 clear hK hHeld hRD hdr h4 hBD hED
 have hHeld:=hHeld2
 clear hHeld2
 simp only [List.setIfInBounds_toArray,List.set_cons_succ,List.set_cons_zero]
 refine take_to (i:=5) 31 (.tuple #[.string (mkS t),.nilIface]) rfl rfl (by kernel_rfl) (by kernel_rfl) (by kernel_rfl) (fun _ _ _ h=>h) (Or.inl ⟨by rfl,?_⟩) (by assumption) ?_
 ·intro w hSw;rfl
 simp only [List.setIfInBounds_toArray,List.set_cons_succ,List.set_cons_zero]
 refine take_to (i:=6) 37 (.string (mkS t)) rfl rfl (by kernel_rfl) (by kernel_rfl) (by kernel_rfl) (fun _ _ _ h=>h) (Or.inl ⟨by rfl,?_⟩) (by assumption) ?_
 ·(intro w hSw;(try dsimp only at hSw);go_simp;try with_reducible rfl)
 simp only [List.setIfInBounds_toArray,List.set_cons_succ,List.set_cons_zero]
 refine take_to (i:=7) 38 (.nilIface) rfl rfl (by kernel_rfl) (by kernel_rfl) (by kernel_rfl) (fun _ _ _ h=>h) (Or.inl ⟨by rfl,?_⟩) (by assumption) ?_
 ·(intro w hSw;(try dsimp only at hSw);go_simp;try with_reducible rfl)
 simp only [List.setIfInBounds_toArray,List.set_cons_succ,List.set_cons_zero]
 refine take_to (i:=8) 9 (.string (mkS t)) rfl rfl (by kernel_rfl) (by kernel_rfl) (by kernel_rfl) (fun _ _ _ h=>h) (Or.inl ⟨by rfl,?_⟩) (by assumption) ?_
 ·intro w hSw;rfl
 simp only [List.setIfInBounds_toArray,List.set_cons_succ,List.set_cons_zero]
 refine take_to (i:=9) 10 (.nilIface) rfl rfl (by kernel_rfl) (by kernel_rfl) (by kernel_rfl) (fun _ _ _ h=>h) (Or.inl ⟨by rfl,?_⟩) (by assumption) ?_
 ·intro w hSw;rfl
 simp only [List.setIfInBounds_toArray,List.set_cons_succ,List.set_cons_zero]
 refine wpAnyH_done (by kernel_rfl) ?_ _
 clear hHeld
 obtain ⟨c0,c1,c2,c3,c4,c5,c6,c7,c8,c9,c10,c11,c12,c13,c14⟩:=id hEc4.out
 go_wp2_with (first
  |(go_at_call 22;(with_reducible refine (KR.out _ hB4.out).mono ?_);rintro r w5 ⟨add,capd,a3d,cap3d,rfl,hP,h5⟩;have hbl:=(Below.refl w5.heap.size w5).alloc (Nat.le_refl _) (.cells (entC e (.slice add n capd)) 26);have hb5:=hB4.out.trans (h5.mono hB4.out.size);have hB5:=Lib.hid (hb5.trans (hbl.mono hb5.size));have hec:=hEc4.out.below h5 hEc4.out.lt;have hEc5:=Lib.hid (hec.below hbl hec.lt);have hEd5:=Lib.hid (EntAt.new w5 e (.slice add n capd) 26);have hPd5:=Lib.hid (hP.below hbl);clear hP hbl hb5 h5 hec;unfold entC at hB5 hEc5 hEd5  hPd5;(try clear c0 c1 c2 c3 c4 c5 c6 c7 c8 c9 c10 c11 c12 c13 c14);obtain ⟨c0,c1,c2,c3,c4,c5,c6,c7,c8,c9,c10,c11,c12,c13,c14⟩:=id hEc5.out;obtain ⟨d0,d1,d2,d3,d4,d5,d6,d7,d8,d9,d10,d11,d12,d13,d14⟩:=id hEd5.out)
  |(go_at_call 22;(with_reducible refine (KR2.out _ hB5.out).mono ?_);rintro r w6 ⟨adf,capf,a3f,cap3f,rfl,hP,h6⟩;have hbl:=(Below.refl w6.heap.size w6).alloc (Nat.le_refl _) (.cells (entC e (.slice adf n capf)) 26);have hb6:=hB5.out.trans (h6.mono hB5.out.size);have hB6:=Lib.hid (hb6.trans (hbl.mono hb6.size));have hec:=hEc5.out.below h6 hEc5.out.lt;have hEc6:=Lib.hid (hec.below hbl hec.lt);have hed:=hEd5.out.below h6 hEd5.out.lt;have hEd6:=Lib.hid (hed.below hbl hed.lt);have hPd6:=Lib.hid ((hPd5.out.below h6).below hbl);have hEf6:=Lib.hid (EntAt.new w6 e (.slice adf n capf) 26);have hPf6:=Lib.hid (hP.below hbl);clear hP hbl hb6 h6 hec hed;unfold entC at hB6 hEc6 hEd6 hEf6 hPd6 hPf6;(try clear c0 c1 c2 c3 c4 c5 c6 c7 c8 c9 c10 c11 c12 c13 c14);obtain ⟨c0,c1,c2,c3,c4,c5,c6,c7,c8,c9,c10,c11,c12,c13,c14⟩:=id hEc6.out;(try clear d0 d1 d2 d3 d4 d5 d6 d7 d8 d9 d10 d11 d12 d13 d14);obtain ⟨d0,d1,d2,d3,d4,d5,d6,d7,d8,d9,d10,d11,d12,d13,d14⟩:=id hEd6.out;obtain ⟨f0,f1,f2,f3,f4,f5,f6,f7,f8,f9,f10,f11,f12,f13,f14⟩:=id hEf6.out)
  |(go_at_call 21;(with_reducible refine (KS.out _ _ _ _ _ hPd6.out hPf6.out).mono ?_);rintro r w7 ⟨rfl,h7⟩;have hB7:=Lib.hid (hB6.out.trans (h7.mono hB6.out.size));clear h7)
  | fail)
 go_ret
 exact ⟨by first|rfl|simp,hB7.out⟩
set_option maxRecDepth 100000 in
set_option maxHeartbeats 8000000 in
theorem alike_k2 (a0:Int) (w0:(Lit.int .i64 a0).wf=true) (a1:Int) (w1:(Lit.int .i64 a1).wf=true) (e:EntL) (ad:Option Addr) (cap:Nat) (ho:EntOk e) (hc:e.map.length≤cap) (hs:Small e) (p p2:Nat) (hpp:(p:Int)≤3) (hpp2:(p2:Int)≤3) (hP:∀ w,Calls Tryz.prog 19 #[.int .i64 a0,.int .i64 4] w (fun e w'=>e=.returned (.int .i64 (p:Int))∧w'=w)) (hP2:∀ w,Calls Tryz.prog 19 #[.int .i64 a1,.int .i64 4] w (fun e w'=>e=.returned (.int .i64 (p2:Int))∧w'=w)) (s t:List UInt8) (k k2:Int) (hS:eWriteF (1+(p:Int)) e=(s,k)) (hS2:eWriteF (1+(p2:Int)) e=(t,k2)) (w:World) (hM:PiecesAt w ad e.map) (hg:ErrLaid w) (hp:Px.PowLaid w) (ha:Px.AtoiLaid w) (hL:∀ w,Calls Tryz.prog 18 #[entV e (.slice ad e.map.length cap)] w fun r w'=>r=.returned (.bool false)∧Below w.heap.size w w') (k0:k=0) (k20:k2≠0) :
  Calls Tryz.prog 4 #[.int .i64 a0,.int .i64 a1,entV e (.slice ad e.map.length cap)] w fun r w'=>r=.returned (.bool true)∧Below w.heap.size w w':=by
 have hE0:=EntAt.new w e (.slice ad e.map.length cap) 26
 have hB0:=Lib.hid (below_alloc1 w (.cells (entC e (.slice ad e.map.length cap)) 26))
 have hEc0:=Lib.hid hE0
 have hR0:=Lib.hid (heap_alloc_new w (.cells (entC e (.slice ad e.map.length cap)) 26))
 have HM:=Lib.hid (fun W (h:Below w.heap.size w W)=>hM.below h)
 have KT:=Lib.hid (fun W (h:Below w.heap.size w W)=>told_any W (hp.below h) ⟨hp.below h,ha.below h⟩ (hg.below h))
 have KL:=Lib.hid (fun W (h:Below w.heap.size w W)=>hL W)
 clear hE0 hL
 have P:=Lib.hid hP
 have P2:=Lib.hid hP2
 have hw1:IntKind.i64.wrap (1+(p:Int))=1+(p:Int):=IntWalk.i64_in _ ⟨by omega,by omega⟩
 have hw2:IntKind.i64.wrap (1+(p2:Int))=1+(p2:Int):=IntWalk.i64_in _ ⟨by omega,by omega⟩
 have KW:=Lib.hid (fun W (h:Below w.heap.size w W)=>memWrite_all (1+(p:Int)) e ad cap ho hs hc W (hp.below h) (HM.out W h))
 have KW2:=Lib.hid (fun W (h:Below w.heap.size w W)=>memWrite_all (1+(p2:Int)) e ad cap ho hs hc W (hp.below h) (HM.out W h))
 rw [hS] at KW
 rw [hS2] at KW2
 dsimp only at KW KW2
 clear hP hP2
 rw [k0,errV_z] at KW
 obtain ⟨v2,hv2⟩:=errV_nz k20
 rw [hv2] at KW2
 unfold entC at hEc0 hB0 hR0
 unfold entV at KL KW KW2 ⊢
 clear hM hc ho hg hp ha hs hS hS2 hv2 k0 k20 HM
 generalize e.map.length=n at *
 go_enter Tryz.func4,Tryz.ntmps4
 go_wp2_with (first
  |(go_at_call 17;(with_reducible refine (KT.out _ hB0.out).mono ?_);rintro r w1 ⟨rfl,h1⟩;have hB1:=Lib.hid (hB0.out.trans (h1.mono hB0.out.size));have hEc1:=Lib.hid (hEc0.out.below h1 hEc0.out.lt);have hR1:=Lib.hid ((h1.block _ hEc0.out.lt).trans hR0.out);clear h1;(try clear c0 c1 c2 c3 c4 c5 c6 c7 c8 c9 c10 c11 c12 c13 c14);obtain ⟨c0,c1,c2,c3,c4,c5,c6,c7,c8,c9,c10,c11,c12,c13,c14⟩:=id hEc1.out)
  |(go_at_call 18;(with_reducible refine (KL.out _ hB1.out).mono ?_);rintro r w2 ⟨rfl,h2⟩;have hB2:=Lib.hid (hB1.out.trans (h2.mono hB1.out.size));have hEc2:=Lib.hid (hEc1.out.below h2 hEc1.out.lt);have hR2:=Lib.hid ((h2.block _ hEc1.out.lt).trans hR1.out);clear h2;(try clear c0 c1 c2 c3 c4 c5 c6 c7 c8 c9 c10 c11 c12 c13 c14);obtain ⟨c0,c1,c2,c3,c4,c5,c6,c7,c8,c9,c10,c11,c12,c13,c14⟩:=id hEc2.out)
  | fail)
 have hdr:=(Below.refl w2.heap.size w2).drew
 have hRD:=(hdr.block _ hEc2.out.lt).trans hR2.out
 have hBD:=Lib.hid (hB2.out.trans (hdr.mono hB2.out.size))
 have hED:=Lib.hid (hEc2.out.below hdr hEc2.out.lt)
 clear c0 c1 c2 c3 c4 c5 c6 c7 c8 c9 c10 c11 c12 c13 c14
 refine wp_region_held_drew (S:=fun w'=>w'.heap[w.heap.size]?=some (.cells (entC e (.slice ad n cap)) 26 (0,0))) (by kernel_rfl) hRD (fun hHeld=>?_)
 refine take_to (i:=0) 24 (.int .i64 a0) rfl rfl (by kernel_rfl) (by kernel_rfl) (by kernel_rfl) (fun _ _ _ h=>h) (Or.inl ⟨by rfl,?_⟩) (by assumption) ?_
 ·intro w hSw;rfl
 simp only [List.setIfInBounds_toArray,List.set_cons_succ,List.set_cons_zero]
 refine take_to (i:=3) 27 (.agg #[.string (mkS e.name),.int .u8 (e.kind.toNat:Int),.int .i64 e.mode,.int .i64 e.uid,.int .i64 e.gid,.int .i64 e.size,.int .i64 e.sec,.int .i64 e.nano,.string (mkS e.link),.string (mkS e.user),.string (mkS e.group),.int .i64 e.major,.int .i64 e.minor,.string (mkS e.data),.slice ad n cap]) rfl rfl (by kernel_rfl) (by kernel_rfl) (by kernel_rfl) (fun _ _ _ h=>h) (Or.inl ⟨by rfl,?_⟩) (by assumption) ?_
 ·exact fun w1 h1=>exec_load_row _ _ rfl _ rfl h1 Tryz.underlying26 rfl entInfo
 simp only [List.setIfInBounds_toArray,List.set_cons_succ,List.set_cons_zero]
 refine wpAnyH_ready (rs:=[1]) (by kernel_rfl) (by simp) ?_
 refine AllReadyH.cons rfl (fun K hK=>?_) AllReadyH.nil
 rw [if_pos (by rfl)]
 refine call_at (R:=fun v V=>v=.int .i64 (p:Int)∧V=w2.drew) 25 rfl 19 #[.int .i64 a0,.int .i64 4] (by kernel_rfl) ((P.out _).mono (by rintro e V ⟨he,hx⟩;exact ⟨_,he,rfl,hx⟩)) ?_
 rintro _ V ⟨rfl,rfl⟩
 refine hK.out _ _ hHeld (fun hHeld2=>?_)
 clear hK hHeld2
 simp only [List.setIfInBounds_toArray,List.set_cons_succ,List.set_cons_zero]
 refine take_to (i:=2) 26 (.int .i64 (1+(p:Int))) rfl rfl (by kernel_rfl) (by kernel_rfl) (by kernel_rfl) (fun _ _ _ h=>h) (Or.inl ⟨by rfl,?_⟩) (by assumption) ?_
 ·(intro w hSw;(try dsimp only at hSw);go_simp;try with_reducible rfl)
 simp only [List.setIfInBounds_toArray,List.set_cons_succ,List.set_cons_zero]
 refine wpAnyH_ready (rs:=[4]) (by kernel_rfl) (by simp) ?_
 refine AllReadyH.cons rfl (fun K hK=>?_) AllReadyH.nil
 rw [if_pos (by rfl)]
 refine call_at (R:=fun u V=>u=.tuple #[.string (mkS s),.nilIface]∧Below w2.drew.heap.size w2.drew V) 28 rfl 20 #[.int .i64 (1+(p:Int)),.agg #[.string (mkS e.name),.int .u8 (e.kind.toNat:Int),.int .i64 e.mode,.int .i64 e.uid,.int .i64 e.gid,.int .i64 e.size,.int .i64 e.sec,.int .i64 e.nano,.string (mkS e.link),.string (mkS e.user),.string (mkS e.group),.int .i64 e.major,.int .i64 e.minor,.string (mkS e.data),.slice ad n cap]] (by kernel_rfl) ((KW.out _ hBD.out).mono (by rintro e V ⟨he,hx⟩;exact ⟨_,he,rfl,hx⟩)) ?_
 rintro _ w3 ⟨rfl,h3⟩
 have hB3:=Lib.hid (hBD.out.trans (h3.mono hBD.out.size))
 have hEc3:=Lib.hid (hED.out.below h3 hED.out.lt)
 have hR3:=Lib.hid ((h3.block _ (Array.getElem?_eq_some_iff.1 hRD).1).trans hRD)
 refine hK.out _ _ hR3.out (fun hHeld2=>?_)
 clear hK hHeld hRD hdr h3 hBD hED
 have hHeld:=hHeld2
 clear hHeld2
 simp only [List.setIfInBounds_toArray,List.set_cons_succ,List.set_cons_zero]
 refine take_to (i:=5) 23 (.tuple #[.string (mkS s),.nilIface]) rfl rfl (by kernel_rfl) (by kernel_rfl) (by kernel_rfl) (fun _ _ _ h=>h) (Or.inl ⟨by rfl,?_⟩) (by assumption) ?_
 ·intro w hSw;rfl
 simp only [List.setIfInBounds_toArray,List.set_cons_succ,List.set_cons_zero]
 refine take_to (i:=6) 29 (.string (mkS s)) rfl rfl (by kernel_rfl) (by kernel_rfl) (by kernel_rfl) (fun _ _ _ h=>h) (Or.inl ⟨by rfl,?_⟩) (by assumption) ?_
 ·(intro w hSw;(try dsimp only at hSw);go_simp;try with_reducible rfl)
 simp only [List.setIfInBounds_toArray,List.set_cons_succ,List.set_cons_zero]
 refine take_to (i:=7) 30 (.nilIface) rfl rfl (by kernel_rfl) (by kernel_rfl) (by kernel_rfl) (fun _ _ _ h=>h) (Or.inl ⟨by rfl,?_⟩) (by assumption) ?_
 ·(intro w hSw;(try dsimp only at hSw);go_simp;try with_reducible rfl)
 simp only [List.setIfInBounds_toArray,List.set_cons_succ,List.set_cons_zero]
 refine take_to (i:=8) 7 (.string (mkS s)) rfl rfl (by kernel_rfl) (by kernel_rfl) (by kernel_rfl) (fun _ _ _ h=>h) (Or.inl ⟨by rfl,?_⟩) (by assumption) ?_
 ·intro w hSw;rfl
 simp only [List.setIfInBounds_toArray,List.set_cons_succ,List.set_cons_zero]
 refine take_to (i:=9) 8 (.nilIface) rfl rfl (by kernel_rfl) (by kernel_rfl) (by kernel_rfl) (fun _ _ _ h=>h) (Or.inl ⟨by rfl,?_⟩) (by assumption) ?_
 ·intro w hSw;rfl
 simp only [List.setIfInBounds_toArray,List.set_cons_succ,List.set_cons_zero]
 refine wpAnyH_done (by kernel_rfl) ?_ _
 clear hHeld
 obtain ⟨c0,c1,c2,c3,c4,c5,c6,c7,c8,c9,c10,c11,c12,c13,c14⟩:=id hEc3.out
 go_wp2_with fail
 have hdr:=(Below.refl w3.heap.size w3).drew
 have hRD:=(hdr.block _ hEc3.out.lt).trans hR3.out
 have hBD:=Lib.hid (hB3.out.trans (hdr.mono hB3.out.size))
 have hED:=Lib.hid (hEc3.out.below hdr hEc3.out.lt)
 clear c0 c1 c2 c3 c4 c5 c6 c7 c8 c9 c10 c11 c12 c13 c14
 refine wp_region_held_drew (S:=fun w'=>w'.heap[w.heap.size]?=some (.cells (entC e (.slice ad n cap)) 26 (0,0))) (by kernel_rfl) hRD (fun hHeld=>?_)
 refine take_to (i:=0) 32 (.int .i64 a1) rfl rfl (by kernel_rfl) (by kernel_rfl) (by kernel_rfl) (fun _ _ _ h=>h) (Or.inl ⟨by rfl,?_⟩) (by assumption) ?_
 ·intro w hSw;rfl
 simp only [List.setIfInBounds_toArray,List.set_cons_succ,List.set_cons_zero]
 refine take_to (i:=3) 35 (.agg #[.string (mkS e.name),.int .u8 (e.kind.toNat:Int),.int .i64 e.mode,.int .i64 e.uid,.int .i64 e.gid,.int .i64 e.size,.int .i64 e.sec,.int .i64 e.nano,.string (mkS e.link),.string (mkS e.user),.string (mkS e.group),.int .i64 e.major,.int .i64 e.minor,.string (mkS e.data),.slice ad n cap]) rfl rfl (by kernel_rfl) (by kernel_rfl) (by kernel_rfl) (fun _ _ _ h=>h) (Or.inl ⟨by rfl,?_⟩) (by assumption) ?_
 ·exact fun w1 h1=>exec_load_row _ _ rfl _ rfl h1 Tryz.underlying26 rfl entInfo
 simp only [List.setIfInBounds_toArray,List.set_cons_succ,List.set_cons_zero]
 refine wpAnyH_ready (rs:=[1]) (by kernel_rfl) (by simp) ?_
 refine AllReadyH.cons rfl (fun K hK=>?_) AllReadyH.nil
 rw [if_pos (by rfl)]
 refine call_at (R:=fun v V=>v=.int .i64 (p2:Int)∧V=w3.drew) 33 rfl 19 #[.int .i64 a1,.int .i64 4] (by kernel_rfl) ((P2.out _).mono (by rintro e V ⟨he,hx⟩;exact ⟨_,he,rfl,hx⟩)) ?_
 rintro _ V ⟨rfl,rfl⟩
 refine hK.out _ _ hHeld (fun hHeld2=>?_)
 clear hK hHeld2
 simp only [List.setIfInBounds_toArray,List.set_cons_succ,List.set_cons_zero]
 refine take_to (i:=2) 34 (.int .i64 (1+(p2:Int))) rfl rfl (by kernel_rfl) (by kernel_rfl) (by kernel_rfl) (fun _ _ _ h=>h) (Or.inl ⟨by rfl,?_⟩) (by assumption) ?_
 ·(intro w hSw;(try dsimp only at hSw);go_simp;try with_reducible rfl)
 simp only [List.setIfInBounds_toArray,List.set_cons_succ,List.set_cons_zero]
 refine wpAnyH_ready (rs:=[4]) (by kernel_rfl) (by simp) ?_
 refine AllReadyH.cons rfl (fun K hK=>?_) AllReadyH.nil
 rw [if_pos (by rfl)]
 refine call_at (R:=fun u V=>u=.tuple #[.string (mkS t),.iface 68 v2]∧Below w3.drew.heap.size w3.drew V) 36 rfl 20 #[.int .i64 (1+(p2:Int)),.agg #[.string (mkS e.name),.int .u8 (e.kind.toNat:Int),.int .i64 e.mode,.int .i64 e.uid,.int .i64 e.gid,.int .i64 e.size,.int .i64 e.sec,.int .i64 e.nano,.string (mkS e.link),.string (mkS e.user),.string (mkS e.group),.int .i64 e.major,.int .i64 e.minor,.string (mkS e.data),.slice ad n cap]] (by kernel_rfl) ((KW2.out _ hBD.out).mono (by rintro e V ⟨he,hx⟩;exact ⟨_,he,rfl,hx⟩)) ?_
 rintro _ w4 ⟨rfl,h4⟩
 have hB4:=Lib.hid (hBD.out.trans (h4.mono hBD.out.size))
 have hEc4:=Lib.hid (hED.out.below h4 hED.out.lt)
 have hR4:=Lib.hid ((h4.block _ (Array.getElem?_eq_some_iff.1 hRD).1).trans hRD)
 refine hK.out _ _ hR4.out (fun hHeld2=>?_)
 clear hK hHeld hRD hdr h4 hBD hED
 have hHeld:=hHeld2
 clear hHeld2
 simp only [List.setIfInBounds_toArray,List.set_cons_succ,List.set_cons_zero]
 refine take_to (i:=5) 31 (.tuple #[.string (mkS t),.iface 68 v2]) rfl rfl (by kernel_rfl) (by kernel_rfl) (by kernel_rfl) (fun _ _ _ h=>h) (Or.inl ⟨by rfl,?_⟩) (by assumption) ?_
 ·intro w hSw;rfl
 simp only [List.setIfInBounds_toArray,List.set_cons_succ,List.set_cons_zero]
 refine take_to (i:=6) 37 (.string (mkS t)) rfl rfl (by kernel_rfl) (by kernel_rfl) (by kernel_rfl) (fun _ _ _ h=>h) (Or.inl ⟨by rfl,?_⟩) (by assumption) ?_
 ·(intro w hSw;(try dsimp only at hSw);go_simp;try with_reducible rfl)
 simp only [List.setIfInBounds_toArray,List.set_cons_succ,List.set_cons_zero]
 refine take_to (i:=7) 38 (.iface 68 v2) rfl rfl (by kernel_rfl) (by kernel_rfl) (by kernel_rfl) (fun _ _ _ h=>h) (Or.inl ⟨by rfl,?_⟩) (by assumption) ?_
 ·(intro w hSw;(try dsimp only at hSw);go_simp;try with_reducible rfl)
 simp only [List.setIfInBounds_toArray,List.set_cons_succ,List.set_cons_zero]
 refine take_to (i:=8) 9 (.string (mkS t)) rfl rfl (by kernel_rfl) (by kernel_rfl) (by kernel_rfl) (fun _ _ _ h=>h) (Or.inl ⟨by rfl,?_⟩) (by assumption) ?_
 ·intro w hSw;rfl
 simp only [List.setIfInBounds_toArray,List.set_cons_succ,List.set_cons_zero]
 refine take_to (i:=9) 10 (.iface 68 v2) rfl rfl (by kernel_rfl) (by kernel_rfl) (by kernel_rfl) (fun _ _ _ h=>h) (Or.inl ⟨by rfl,?_⟩) (by assumption) ?_
 ·intro w hSw;rfl
 simp only [List.setIfInBounds_toArray,List.set_cons_succ,List.set_cons_zero]
 refine wpAnyH_done (by kernel_rfl) ?_ _
 clear hHeld
 obtain ⟨c0,c1,c2,c3,c4,c5,c6,c7,c8,c9,c10,c11,c12,c13,c14⟩:=id hEc4.out
 go_wp2_with fail
 go_ret
 exact ⟨rfl,hB4.out⟩
set_option maxRecDepth 100000 in
set_option maxHeartbeats 8000000 in
theorem alike_k (a0:Int) (w0:(Lit.int .i64 a0).wf=true) (a1:Int) (w1:(Lit.int .i64 a1).wf=true) (e:EntL) (ad:Option Addr) (cap:Nat) (ho:EntOk e) (hc:e.map.length≤cap) (hs:Small e) (p p2:Nat) (hpp:(p:Int)≤3) (hpp2:(p2:Int)≤3) (hP:∀ w,Calls Tryz.prog 19 #[.int .i64 a0,.int .i64 4] w (fun e w'=>e=.returned (.int .i64 (p:Int))∧w'=w)) (hP2:∀ w,Calls Tryz.prog 19 #[.int .i64 a1,.int .i64 4] w (fun e w'=>e=.returned (.int .i64 (p2:Int))∧w'=w)) (s t:List UInt8) (k k2:Int) (hS:eWriteF (1+(p:Int)) e=(s,k)) (hS2:eWriteF (1+(p2:Int)) e=(t,k2)) (w:World) (hM:PiecesAt w ad e.map) (hg:ErrLaid w) (hp:Px.PowLaid w) (ha:Px.AtoiLaid w) (hL:∀ w,Calls Tryz.prog 18 #[entV e (.slice ad e.map.length cap)] w fun r w'=>r=.returned (.bool false)∧Below w.heap.size w w') (k0:k≠0) :
  Calls Tryz.prog 4 #[.int .i64 a0,.int .i64 a1,entV e (.slice ad e.map.length cap)] w fun r w'=>r=.returned (.bool true)∧Below w.heap.size w w':=by
 have hE0:=EntAt.new w e (.slice ad e.map.length cap) 26
 have hB0:=Lib.hid (below_alloc1 w (.cells (entC e (.slice ad e.map.length cap)) 26))
 have hEc0:=Lib.hid hE0
 have hR0:=Lib.hid (heap_alloc_new w (.cells (entC e (.slice ad e.map.length cap)) 26))
 have HM:=Lib.hid (fun W (h:Below w.heap.size w W)=>hM.below h)
 have KT:=Lib.hid (fun W (h:Below w.heap.size w W)=>told_any W (hp.below h) ⟨hp.below h,ha.below h⟩ (hg.below h))
 have KL:=Lib.hid (fun W (h:Below w.heap.size w W)=>hL W)
 clear hE0 hL
 have P:=Lib.hid hP
 have P2:=Lib.hid hP2
 have hw1:IntKind.i64.wrap (1+(p:Int))=1+(p:Int):=IntWalk.i64_in _ ⟨by omega,by omega⟩
 have hw2:IntKind.i64.wrap (1+(p2:Int))=1+(p2:Int):=IntWalk.i64_in _ ⟨by omega,by omega⟩
 have KW:=Lib.hid (fun W (h:Below w.heap.size w W)=>memWrite_all (1+(p:Int)) e ad cap ho hs hc W (hp.below h) (HM.out W h))
 have KW2:=Lib.hid (fun W (h:Below w.heap.size w W)=>memWrite_all (1+(p2:Int)) e ad cap ho hs hc W (hp.below h) (HM.out W h))
 rw [hS] at KW
 rw [hS2] at KW2
 dsimp only at KW KW2
 clear hP hP2
 obtain ⟨v,hv⟩:=errV_nz k0
 rw [hv] at KW
 generalize errV k2=E2 at KW2
 unfold entC at hEc0 hB0 hR0
 unfold entV at KL KW KW2 ⊢
 clear hM hc ho hg hp ha hs hS hS2 hv k0 HM
 generalize e.map.length=n at *
 go_enter Tryz.func4,Tryz.ntmps4
 go_wp2_with (first
  |(go_at_call 17;(with_reducible refine (KT.out _ hB0.out).mono ?_);rintro r w1 ⟨rfl,h1⟩;have hB1:=Lib.hid (hB0.out.trans (h1.mono hB0.out.size));have hEc1:=Lib.hid (hEc0.out.below h1 hEc0.out.lt);have hR1:=Lib.hid ((h1.block _ hEc0.out.lt).trans hR0.out);clear h1;(try clear c0 c1 c2 c3 c4 c5 c6 c7 c8 c9 c10 c11 c12 c13 c14);obtain ⟨c0,c1,c2,c3,c4,c5,c6,c7,c8,c9,c10,c11,c12,c13,c14⟩:=id hEc1.out)
  |(go_at_call 18;(with_reducible refine (KL.out _ hB1.out).mono ?_);rintro r w2 ⟨rfl,h2⟩;have hB2:=Lib.hid (hB1.out.trans (h2.mono hB1.out.size));have hEc2:=Lib.hid (hEc1.out.below h2 hEc1.out.lt);have hR2:=Lib.hid ((h2.block _ hEc1.out.lt).trans hR1.out);clear h2;(try clear c0 c1 c2 c3 c4 c5 c6 c7 c8 c9 c10 c11 c12 c13 c14);obtain ⟨c0,c1,c2,c3,c4,c5,c6,c7,c8,c9,c10,c11,c12,c13,c14⟩:=id hEc2.out)
  | fail)
 have hdr:=(Below.refl w2.heap.size w2).drew
 have hRD:=(hdr.block _ hEc2.out.lt).trans hR2.out
 have hBD:=Lib.hid (hB2.out.trans (hdr.mono hB2.out.size))
 have hED:=Lib.hid (hEc2.out.below hdr hEc2.out.lt)
 clear c0 c1 c2 c3 c4 c5 c6 c7 c8 c9 c10 c11 c12 c13 c14
 refine wp_region_held_drew (S:=fun w'=>w'.heap[w.heap.size]?=some (.cells (entC e (.slice ad n cap)) 26 (0,0))) (by kernel_rfl) hRD (fun hHeld=>?_)
 refine take_to (i:=0) 24 (.int .i64 a0) rfl rfl (by kernel_rfl) (by kernel_rfl) (by kernel_rfl) (fun _ _ _ h=>h) (Or.inl ⟨by rfl,?_⟩) (by assumption) ?_
 ·intro w hSw;rfl
 simp only [List.setIfInBounds_toArray,List.set_cons_succ,List.set_cons_zero]
 refine take_to (i:=3) 27 (.agg #[.string (mkS e.name),.int .u8 (e.kind.toNat:Int),.int .i64 e.mode,.int .i64 e.uid,.int .i64 e.gid,.int .i64 e.size,.int .i64 e.sec,.int .i64 e.nano,.string (mkS e.link),.string (mkS e.user),.string (mkS e.group),.int .i64 e.major,.int .i64 e.minor,.string (mkS e.data),.slice ad n cap]) rfl rfl (by kernel_rfl) (by kernel_rfl) (by kernel_rfl) (fun _ _ _ h=>h) (Or.inl ⟨by rfl,?_⟩) (by assumption) ?_
 ·exact fun w1 h1=>exec_load_row _ _ rfl _ rfl h1 Tryz.underlying26 rfl entInfo
 simp only [List.setIfInBounds_toArray,List.set_cons_succ,List.set_cons_zero]
 refine wpAnyH_ready (rs:=[1]) (by kernel_rfl) (by simp) ?_
 refine AllReadyH.cons rfl (fun K hK=>?_) AllReadyH.nil
 rw [if_pos (by rfl)]
 refine call_at (R:=fun v V=>v=.int .i64 (p:Int)∧V=w2.drew) 25 rfl 19 #[.int .i64 a0,.int .i64 4] (by kernel_rfl) ((P.out _).mono (by rintro e V ⟨he,hx⟩;exact ⟨_,he,rfl,hx⟩)) ?_
 rintro _ V ⟨rfl,rfl⟩
 refine hK.out _ _ hHeld (fun hHeld2=>?_)
 clear hK hHeld2
 simp only [List.setIfInBounds_toArray,List.set_cons_succ,List.set_cons_zero]
 refine take_to (i:=2) 26 (.int .i64 (1+(p:Int))) rfl rfl (by kernel_rfl) (by kernel_rfl) (by kernel_rfl) (fun _ _ _ h=>h) (Or.inl ⟨by rfl,?_⟩) (by assumption) ?_
 ·(intro w hSw;(try dsimp only at hSw);go_simp;try with_reducible rfl)
 simp only [List.setIfInBounds_toArray,List.set_cons_succ,List.set_cons_zero]
 refine wpAnyH_ready (rs:=[4]) (by kernel_rfl) (by simp) ?_
 refine AllReadyH.cons rfl (fun K hK=>?_) AllReadyH.nil
 rw [if_pos (by rfl)]
 refine call_at (R:=fun u V=>u=.tuple #[.string (mkS s),.iface 68 v]∧Below w2.drew.heap.size w2.drew V) 28 rfl 20 #[.int .i64 (1+(p:Int)),.agg #[.string (mkS e.name),.int .u8 (e.kind.toNat:Int),.int .i64 e.mode,.int .i64 e.uid,.int .i64 e.gid,.int .i64 e.size,.int .i64 e.sec,.int .i64 e.nano,.string (mkS e.link),.string (mkS e.user),.string (mkS e.group),.int .i64 e.major,.int .i64 e.minor,.string (mkS e.data),.slice ad n cap]] (by kernel_rfl) ((KW.out _ hBD.out).mono (by rintro e V ⟨he,hx⟩;exact ⟨_,he,rfl,hx⟩)) ?_
 rintro _ w3 ⟨rfl,h3⟩
 have hB3:=Lib.hid (hBD.out.trans (h3.mono hBD.out.size))
 have hEc3:=Lib.hid (hED.out.below h3 hED.out.lt)
 have hR3:=Lib.hid ((h3.block _ (Array.getElem?_eq_some_iff.1 hRD).1).trans hRD)
 refine hK.out _ _ hR3.out (fun hHeld2=>?_)
 clear hK hHeld hRD hdr h3 hBD hED
 have hHeld:=hHeld2
 clear hHeld2
 simp only [List.setIfInBounds_toArray,List.set_cons_succ,List.set_cons_zero]
 refine take_to (i:=5) 23 (.tuple #[.string (mkS s),.iface 68 v]) rfl rfl (by kernel_rfl) (by kernel_rfl) (by kernel_rfl) (fun _ _ _ h=>h) (Or.inl ⟨by rfl,?_⟩) (by assumption) ?_
 ·intro w hSw;rfl
 simp only [List.setIfInBounds_toArray,List.set_cons_succ,List.set_cons_zero]
 refine take_to (i:=6) 29 (.string (mkS s)) rfl rfl (by kernel_rfl) (by kernel_rfl) (by kernel_rfl) (fun _ _ _ h=>h) (Or.inl ⟨by rfl,?_⟩) (by assumption) ?_
 ·(intro w hSw;(try dsimp only at hSw);go_simp;try with_reducible rfl)
 simp only [List.setIfInBounds_toArray,List.set_cons_succ,List.set_cons_zero]
 refine take_to (i:=7) 30 (.iface 68 v) rfl rfl (by kernel_rfl) (by kernel_rfl) (by kernel_rfl) (fun _ _ _ h=>h) (Or.inl ⟨by rfl,?_⟩) (by assumption) ?_
 ·(intro w hSw;(try dsimp only at hSw);go_simp;try with_reducible rfl)
 simp only [List.setIfInBounds_toArray,List.set_cons_succ,List.set_cons_zero]
 refine take_to (i:=8) 7 (.string (mkS s)) rfl rfl (by kernel_rfl) (by kernel_rfl) (by kernel_rfl) (fun _ _ _ h=>h) (Or.inl ⟨by rfl,?_⟩) (by assumption) ?_
 ·intro w hSw;rfl
 simp only [List.setIfInBounds_toArray,List.set_cons_succ,List.set_cons_zero]
 refine take_to (i:=9) 8 (.iface 68 v) rfl rfl (by kernel_rfl) (by kernel_rfl) (by kernel_rfl) (fun _ _ _ h=>h) (Or.inl ⟨by rfl,?_⟩) (by assumption) ?_
 ·intro w hSw;rfl
 simp only [List.setIfInBounds_toArray,List.set_cons_succ,List.set_cons_zero]
 refine wpAnyH_done (by kernel_rfl) ?_ _
 clear hHeld
 obtain ⟨c0,c1,c2,c3,c4,c5,c6,c7,c8,c9,c10,c11,c12,c13,c14⟩:=id hEc3.out
 go_wp2_with fail
 have hdr:=(Below.refl w3.heap.size w3).drew
 have hRD:=(hdr.block _ hEc3.out.lt).trans hR3.out
 have hBD:=Lib.hid (hB3.out.trans (hdr.mono hB3.out.size))
 have hED:=Lib.hid (hEc3.out.below hdr hEc3.out.lt)
 clear c0 c1 c2 c3 c4 c5 c6 c7 c8 c9 c10 c11 c12 c13 c14
 refine wp_region_held_drew (S:=fun w'=>w'.heap[w.heap.size]?=some (.cells (entC e (.slice ad n cap)) 26 (0,0))) (by kernel_rfl) hRD (fun hHeld=>?_)
 refine take_to (i:=0) 32 (.int .i64 a1) rfl rfl (by kernel_rfl) (by kernel_rfl) (by kernel_rfl) (fun _ _ _ h=>h) (Or.inl ⟨by rfl,?_⟩) (by assumption) ?_
 ·intro w hSw;rfl
 simp only [List.setIfInBounds_toArray,List.set_cons_succ,List.set_cons_zero]
 refine take_to (i:=3) 35 (.agg #[.string (mkS e.name),.int .u8 (e.kind.toNat:Int),.int .i64 e.mode,.int .i64 e.uid,.int .i64 e.gid,.int .i64 e.size,.int .i64 e.sec,.int .i64 e.nano,.string (mkS e.link),.string (mkS e.user),.string (mkS e.group),.int .i64 e.major,.int .i64 e.minor,.string (mkS e.data),.slice ad n cap]) rfl rfl (by kernel_rfl) (by kernel_rfl) (by kernel_rfl) (fun _ _ _ h=>h) (Or.inl ⟨by rfl,?_⟩) (by assumption) ?_
 ·exact fun w1 h1=>exec_load_row _ _ rfl _ rfl h1 Tryz.underlying26 rfl entInfo
 simp only [List.setIfInBounds_toArray,List.set_cons_succ,List.set_cons_zero]
 refine wpAnyH_ready (rs:=[1]) (by kernel_rfl) (by simp) ?_
 refine AllReadyH.cons rfl (fun K hK=>?_) AllReadyH.nil
 rw [if_pos (by rfl)]
 refine call_at (R:=fun v V=>v=.int .i64 (p2:Int)∧V=w3.drew) 33 rfl 19 #[.int .i64 a1,.int .i64 4] (by kernel_rfl) ((P2.out _).mono (by rintro e V ⟨he,hx⟩;exact ⟨_,he,rfl,hx⟩)) ?_
 rintro _ V ⟨rfl,rfl⟩
 refine hK.out _ _ hHeld (fun hHeld2=>?_)
 clear hK hHeld2
 simp only [List.setIfInBounds_toArray,List.set_cons_succ,List.set_cons_zero]
 refine take_to (i:=2) 34 (.int .i64 (1+(p2:Int))) rfl rfl (by kernel_rfl) (by kernel_rfl) (by kernel_rfl) (fun _ _ _ h=>h) (Or.inl ⟨by rfl,?_⟩) (by assumption) ?_
 ·(intro w hSw;(try dsimp only at hSw);go_simp;try with_reducible rfl)
 simp only [List.setIfInBounds_toArray,List.set_cons_succ,List.set_cons_zero]
 refine wpAnyH_ready (rs:=[4]) (by kernel_rfl) (by simp) ?_
 refine AllReadyH.cons rfl (fun K hK=>?_) AllReadyH.nil
 rw [if_pos (by rfl)]
 refine call_at (R:=fun u V=>u=.tuple #[.string (mkS t),E2]∧Below w3.drew.heap.size w3.drew V) 36 rfl 20 #[.int .i64 (1+(p2:Int)),.agg #[.string (mkS e.name),.int .u8 (e.kind.toNat:Int),.int .i64 e.mode,.int .i64 e.uid,.int .i64 e.gid,.int .i64 e.size,.int .i64 e.sec,.int .i64 e.nano,.string (mkS e.link),.string (mkS e.user),.string (mkS e.group),.int .i64 e.major,.int .i64 e.minor,.string (mkS e.data),.slice ad n cap]] (by kernel_rfl) ((KW2.out _ hBD.out).mono (by rintro e V ⟨he,hx⟩;exact ⟨_,he,rfl,hx⟩)) ?_
 rintro _ w4 ⟨rfl,h4⟩
 have hB4:=Lib.hid (hBD.out.trans (h4.mono hBD.out.size))
 have hEc4:=Lib.hid (hED.out.below h4 hED.out.lt)
 have hR4:=Lib.hid ((h4.block _ (Array.getElem?_eq_some_iff.1 hRD).1).trans hRD)
 refine hK.out _ _ hR4.out (fun hHeld2=>?_)
 clear hK hHeld hRD hdr h4 hBD hED
 have hHeld:=hHeld2
 clear hHeld2
 simp only [List.setIfInBounds_toArray,List.set_cons_succ,List.set_cons_zero]
 refine take_to (i:=5) 31 (.tuple #[.string (mkS t),E2]) rfl rfl (by kernel_rfl) (by kernel_rfl) (by kernel_rfl) (fun _ _ _ h=>h) (Or.inl ⟨by rfl,?_⟩) (by assumption) ?_
 ·intro w hSw;rfl
 simp only [List.setIfInBounds_toArray,List.set_cons_succ,List.set_cons_zero]
 refine take_to (i:=6) 37 (.string (mkS t)) rfl rfl (by kernel_rfl) (by kernel_rfl) (by kernel_rfl) (fun _ _ _ h=>h) (Or.inl ⟨by rfl,?_⟩) (by assumption) ?_
 ·(intro w hSw;(try dsimp only at hSw);go_simp;try with_reducible rfl)
 simp only [List.setIfInBounds_toArray,List.set_cons_succ,List.set_cons_zero]
 refine take_to (i:=7) 38 (E2) rfl rfl (by kernel_rfl) (by kernel_rfl) (by kernel_rfl) (fun _ _ _ h=>h) (Or.inl ⟨by rfl,?_⟩) (by assumption) ?_
 ·(intro w hSw;(try dsimp only at hSw);go_simp;try with_reducible rfl)
 simp only [List.setIfInBounds_toArray,List.set_cons_succ,List.set_cons_zero]
 refine take_to (i:=8) 9 (.string (mkS t)) rfl rfl (by kernel_rfl) (by kernel_rfl) (by kernel_rfl) (fun _ _ _ h=>h) (Or.inl ⟨by rfl,?_⟩) (by assumption) ?_
 ·intro w hSw;rfl
 simp only [List.setIfInBounds_toArray,List.set_cons_succ,List.set_cons_zero]
 refine take_to (i:=9) 10 (E2) rfl rfl (by kernel_rfl) (by kernel_rfl) (by kernel_rfl) (fun _ _ _ h=>h) (Or.inl ⟨by rfl,?_⟩) (by assumption) ?_
 ·intro w hSw;rfl
 simp only [List.setIfInBounds_toArray,List.set_cons_succ,List.set_cons_zero]
 refine wpAnyH_done (by kernel_rfl) ?_ _
 clear hHeld
 obtain ⟨c0,c1,c2,c3,c4,c5,c6,c7,c8,c9,c10,c11,c12,c13,c14⟩:=id hEc4.out
 go_wp2_with fail
 go_ret
 exact ⟨rfl,hB4.out⟩
set_option maxRecDepth 100000 in
set_option maxHeartbeats 8000000 in
theorem memberAlike_walk (a0:Int) (w0:(Lit.int .i64 a0).wf=true) (a1:Int) (w1:(Lit.int .i64 a1).wf=true) (e:EntL) (ad:Option Addr) (cap:Nat) (ho:EntOk e) (hc:e.map.length≤cap) (w:World) (hM:PiecesAt w ad e.map) (hg:ErrLaid w) (hp:Px.PowLaid w) (ha:Px.AtoiLaid w) :
  Calls Tryz.prog 4 #[.int .i64 a0,.int .i64 a1,entV e (.slice ad e.map.length cap)] w fun r w'=>r=.returned (.bool true)∧Below w.heap.size w w':=by
 obtain ⟨b,hb,hL⟩:=large_keep e ho ad cap
 cases b with
 | true=>exact alike_t a0 w0 a1 w1 e ad cap ho hc w hM hg hp ha hL
 | false =>
  have hs:=hb rfl
  obtain ⟨p,hp4,hP⟩:=pick_nat a0 4 (by decide) (by decide)
  obtain ⟨p2,hp42,hP2⟩:=pick_nat a1 4 (by decide) (by decide)
  obtain ⟨⟨s,k⟩,hS⟩:∃ q,eWriteF (1+(p:Int)) e=q:=⟨_,rfl⟩
  obtain ⟨⟨t,k2⟩,hS2⟩:∃ q,eWriteF (1+(p2:Int)) e=q:=⟨_,rfl⟩
  by_cases hk:k=0
  ·by_cases hk2:k2=0
   ·exact alike_z a0 w0 a1 w1 e ad cap ho hc hs p p2 (by omega) (by omega) hP hP2 s t k k2 hS hS2 w hM hg hp ha hL hk hk2
   ·exact alike_k2 a0 w0 a1 w1 e ad cap ho hc hs p p2 (by omega) (by omega) hP hP2 s t k k2 hS hS2 w hM hg hp ha hL hk hk2
  ·exact alike_k a0 w0 a1 w1 e ad cap ho hc hs p p2 (by omega) (by omega) hP hP2 s t k k2 hS hS2 w hM hg hp ha hL hk
end Go.Proofs.YtdjcjaidklgamaaGreatDoor
end
