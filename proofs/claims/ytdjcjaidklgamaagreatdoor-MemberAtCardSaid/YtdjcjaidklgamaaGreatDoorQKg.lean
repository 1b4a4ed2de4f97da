import Derived.Test.YtdjcjaidklgamaaGreatDoorQEv
import Derived.Test.YtdjcjaidklgamaaGreatDoorQHw
set_option linter.unusedSimpArgs false
set_option linter.unusedVariables false
section
namespace Go.Proofs.YtdjcjaidklgamaaGreatDoor
open Go.RowKit Go.Joins
set_option maxRecDepth 100000 in
set_option maxHeartbeats 8000000 in
theorem memberBack_walk (a0:Int) (w0:(Lit.int .i64 a0).wf=true) (e:EntL) (ad:Option Addr) (cap:Nat) (ho:EntOk e) (hc:e.map.length≤cap) (a:ByteArray) (z:a.size≤reachBytes) (w:World) (hM:PiecesAt w ad e.map) (hg:ErrLaid w) (hp:Px.PowLaid w) (ha:Px.AtoiLaid w) :
  Calls Tryz.prog 6 #[.int .i64 a0,entV e (.slice ad e.map.length cap),.string a] w fun r w'=>r=.returned (.bool true)∧Below w.heap.size w w':=by
 obtain ⟨x,rfl⟩:∃ k,a=mkS k:=⟨_,(mkS_self a).symm⟩
 have hr:=reachBytes_lt
 have sx:=mkS_size x
 have hE0:=EntAt.new w e (.slice ad e.map.length cap) 26
 have hB:=Lib.hid (below_alloc1 w (.cells (entC e (.slice ad e.map.length cap)) 26))
 have HE:=Lib.hid hE0
 have HRow:=Lib.hid (heap_alloc_new w (.cells (entC e (.slice ad e.map.length cap)) 26))
 have HM:=Lib.hid (fun W (h:Below w.heap.size w W)=>hM.below h)
 have KT:=Lib.hid (fun W (h:Below w.heap.size w W)=>told_any W (hp.below h) ⟨hp.below h,ha.below h⟩ (hg.below h))
 obtain ⟨b,hb,hL⟩:=large_keep e ho ad cap
 have KL:=Lib.hid hL
 obtain ⟨p,hp4,hP⟩:=pick_nat a0 4 (by decide) (by decide)
 have P:=Lib.hid (show ∀ w,Calls Tryz.prog 19 #[.int .i64 a0,.int .i64 4] w (fun e w'=>e=.returned (.int .i64 (p:Int))∧w'=w) from hP)
 have hx:(x.length:Int)≤9000000000000000000:=by rw [mkS_size] at z;omega
 have hpp:(p:Int)≤3:=by omega
 have hw1:IntKind.i64.wrap (1+(p:Int))=1+(p:Int):=IntWalk.i64_in _ ⟨by omega,by omega⟩
 clear hE0 hL hP
 cases b with
 | true =>
  unfold entC at HE hB HRow
  unfold entV at KL ⊢
  clear hb hM hc ho hg hp ha z hr
  generalize e.map.length=n at *
  go_enter Tryz.func6,Tryz.ntmps6
  go_wp2_with (first
  |(go_at_call 17;(with_reducible refine (KT.out _ hB.out).mono ?_);rintro r w1 ⟨rfl,h1⟩;have hB1:=Lib.hid (hB.out.trans (h1.mono hB.out.size));have hE1:=Lib.hid (HE.out.below h1 HE.out.lt);have hR1:=Lib.hid ((h1.block _ HE.out.lt).trans HRow.out);clear h1;obtain ⟨c0,c1,c2,c3,c4,c5,c6,c7,c8,c9,c10,c11,c12,c13,c14⟩:=id hE1.out)
  |(go_at_call 18;(with_reducible refine (KL.out _).mono ?_);rintro r w2 ⟨rfl,h2⟩;have hB2:=Lib.hid (hB1.out.trans (h2.mono hB1.out.size));have hE2:=Lib.hid (hE1.out.below h2 hE1.out.lt);have hR2:=Lib.hid ((h2.block _ hE1.out.lt).trans hR1.out);clear h2 c0 c1 c2 c3 c4 c5 c6 c7 c8 c9 c10 c11 c12 c13 c14;obtain ⟨c0,c1,c2,c3,c4,c5,c6,c7,c8,c9,c10,c11,c12,c13,c14⟩:=id hE2.out)
  | fail)
  go_ret
  exact ⟨rfl,hB2.out⟩
 | false =>
  have hs:=hb rfl
  by_cases h6:(600:Int)<(x.length:Int)
  ·unfold entC at HE hB HRow
   unfold entV at KL ⊢
   clear hb hM hc ho hg hp ha z hr hs
   generalize e.map.length=n at *
   go_enter Tryz.func6,Tryz.ntmps6
   go_wp2_with (first
  |(go_at_call 17;(with_reducible refine (KT.out _ hB.out).mono ?_);rintro r w1 ⟨rfl,h1⟩;have hB1:=Lib.hid (hB.out.trans (h1.mono hB.out.size));have hE1:=Lib.hid (HE.out.below h1 HE.out.lt);have hR1:=Lib.hid ((h1.block _ HE.out.lt).trans HRow.out);clear h1;obtain ⟨c0,c1,c2,c3,c4,c5,c6,c7,c8,c9,c10,c11,c12,c13,c14⟩:=id hE1.out)
  |(go_at_call 18;(with_reducible refine (KL.out _).mono ?_);rintro r w2 ⟨rfl,h2⟩;have hB2:=Lib.hid (hB1.out.trans (h2.mono hB1.out.size));have hE2:=Lib.hid (hE1.out.below h2 hE1.out.lt);have hR2:=Lib.hid ((h2.block _ hE1.out.lt).trans hR1.out);clear h2 c0 c1 c2 c3 c4 c5 c6 c7 c8 c9 c10 c11 c12 c13 c14;obtain ⟨c0,c1,c2,c3,c4,c5,c6,c7,c8,c9,c10,c11,c12,c13,c14⟩:=id hE2.out)
  | fail)
   go_ret
   exact ⟨rfl,hB2.out⟩
  have KW:=Lib.hid (fun W (h:Below w.heap.size w W)=>memWrite_all (1+(p:Int)) e ad cap ho hs hc W (hp.below h) (HM.out W h))
  obtain ⟨S,hS⟩:∃ q,eWriteF (1+(p:Int)) e=q:=⟨_,rfl⟩
  obtain ⟨s,k⟩:=S
  rw [hS] at KW
  dsimp only at KW
  have s0:=mkS_size s
  by_cases hk:k=0
  ·subst hk
   rw [errV_z] at KW
   obtain ⟨hm1,hm2⟩:=write_blocks hs hS
   have hd:=hs.data
   have hml:=hs.map
   have KR:=Lib.hid (fun W (h:Below w.heap.size w W)=>show Calls Tryz.prog 22 #[.string (mkS (s++x)),.int .i64 0,.slice none 0 0] W (fun r W'=>∃ ad cap a2 c2,r=.returned (.tuple #[entV e (.slice ad e.map.length cap),.int .i64 (s.length:Nat),.slice a2 0 c2,.nilIface])∧PiecesAt W' ad e.map∧Below W.heap.size W W') from by
    have:=read_back (1+(p:Int)) e (by omega) s hS [] x (by rw [List.nil_append,List.length_append];omega) W ⟨hp.below h,ha.below h⟩ (hg.below h)
    rw [List.nil_append,List.length_nil,Nat.zero_add] at this
    exact this)
   have KS:=Lib.hid (fun (ad2:Option Addr) (cap2:Nat) (W:World) (h1:PiecesAt W ad2 e.map) (h2:PiecesAt W ad e.map)=>show Calls Tryz.prog 21 #[entV e (.slice ad2 e.map.length cap2),entV e (.slice ad e.map.length cap)] W (fun r w'=>r=.returned (.bool true)∧Below W.heap.size W w') from by
    have:=same_any e e ad2 ad cap2 cap (by omega) (by omega) W h1 h2
    rwa [decide_eq_true rfl] at this)
   have hcat:∀ w,(Op.stringOp .add (mkS s) (mkS x)).run Tryz.prog w=.ok (.string (mkS (s++x))) w:=fun w=>cat_lists s x (by omega) w
   have hm3:(s.length:Int) % 512=0:=by omega
   have hm4:Int.tmod (s.length:Int) 512=0:=by rw [Int.tmod_eq_emod_of_nonneg (by omega)];exact hm3
   have hm5:(s.length:Int)≤20000:=by omega
   unfold entC at HE hB HRow
   unfold entV at KL KW KR KS ⊢
   clear hb hM hc ho hg hp ha z hr hs hS hd hml hm1 hm2
   generalize s++x=sx' at *
   generalize e.map.length=n at *
   go_enter Tryz.func6,Tryz.ntmps6
   go_wp2_with (first
  |(go_at_call 17;(with_reducible refine (KT.out _ hB.out).mono ?_);rintro r w1 ⟨rfl,h1⟩;have hB1:=Lib.hid (hB.out.trans (h1.mono hB.out.size));have hE1:=Lib.hid (HE.out.below h1 HE.out.lt);have hR1:=Lib.hid ((h1.block _ HE.out.lt).trans HRow.out);clear h1;obtain ⟨c0,c1,c2,c3,c4,c5,c6,c7,c8,c9,c10,c11,c12,c13,c14⟩:=id hE1.out)
  |(go_at_call 18;(with_reducible refine (KL.out _).mono ?_);rintro r w2 ⟨rfl,h2⟩;have hB2:=Lib.hid (hB1.out.trans (h2.mono hB1.out.size));have hE2:=Lib.hid (hE1.out.below h2 hE1.out.lt);have hR2:=Lib.hid ((h2.block _ hE1.out.lt).trans hR1.out);clear h2 c0 c1 c2 c3 c4 c5 c6 c7 c8 c9 c10 c11 c12 c13 c14;obtain ⟨c0,c1,c2,c3,c4,c5,c6,c7,c8,c9,c10,c11,c12,c13,c14⟩:=id hE2.out)
  | fail)
   have hdr:=(Below.refl w2.heap.size w2).drew
   have hRD:=(hdr.block _ hE2.out.lt).trans hR2.out
   have hBD:=Lib.hid (hB2.out.trans (hdr.mono hB2.out.size))
   have hED:=Lib.hid (hE2.out.below hdr hE2.out.lt)
   clear c0 c1 c2 c3 c4 c5 c6 c7 c8 c9 c10 c11 c12 c13 c14
   refine wp_region_held_drew (S:=fun w'=>w'.heap[w.heap.size]?=some (.cells (entC e (.slice ad n cap)) 26 (0,0))) (by kernel_rfl) hRD (fun hHeld=>?_)
   refine take_to (i:=0) 22 (.int .i64 a0) rfl rfl (by kernel_rfl) (by kernel_rfl) (by kernel_rfl) (fun _ _ _ h=>h) (Or.inl ⟨by rfl,?_⟩) (by assumption) ?_
   ·intro w hSw;rfl
   simp only [List.setIfInBounds_toArray,List.set_cons_succ,List.set_cons_zero]
   refine take_to (i:=3) 25 (.agg #[.string (mkS e.name),.int .u8 (e.kind.toNat:Int),.int .i64 e.mode,.int .i64 e.uid,.int .i64 e.gid,.int .i64 e.size,.int .i64 e.sec,.int .i64 e.nano,.string (mkS e.link),.string (mkS e.user),.string (mkS e.group),.int .i64 e.major,.int .i64 e.minor,.string (mkS e.data),.slice ad n cap]) rfl rfl (by kernel_rfl) (by kernel_rfl) (by kernel_rfl) (fun _ _ _ h=>h) (Or.inl ⟨by rfl,?_⟩) (by assumption) ?_
   ·exact fun w1 h1=>exec_load_row _ _ rfl _ rfl h1 Tryz.underlying26 rfl entInfo
   simp only [List.setIfInBounds_toArray,List.set_cons_succ,List.set_cons_zero]
   refine wpAnyH_ready (rs:=[1]) (by kernel_rfl) (by simp) ?_
   refine AllReadyH.cons rfl (fun K hK=>?_) AllReadyH.nil
   rw [if_pos (by rfl)]
   refine call_at (R:=fun v V=>v=.int .i64 (p:Int)∧V=w2.drew) 23 rfl 19 #[.int .i64 a0,.int .i64 4] (by kernel_rfl) ((P.out _).mono (by rintro e V ⟨he,hx⟩;exact ⟨_,he,rfl,hx⟩)) ?_
   rintro _ V ⟨rfl,rfl⟩
   refine hK.out _ _ hHeld (fun hHeld2=>?_)
   clear hK hHeld2
   simp only [List.setIfInBounds_toArray,List.set_cons_succ,List.set_cons_zero]
   refine take_to (i:=2) 24 (.int .i64 (1+(p:Int))) rfl rfl (by kernel_rfl) (by kernel_rfl) (by kernel_rfl) (fun _ _ _ h=>h) (Or.inl ⟨by rfl,?_⟩) (by assumption) ?_
   ·(intro w hSw;(try dsimp only at hSw);go_simp;try with_reducible rfl)
   simp only [List.setIfInBounds_toArray,List.set_cons_succ,List.set_cons_zero]
   refine wpAnyH_ready (rs:=[4]) (by kernel_rfl) (by simp) ?_
   refine AllReadyH.cons rfl (fun K hK=>?_) AllReadyH.nil
   rw [if_pos (by rfl)]
   refine call_at (R:=fun u V=>u=.tuple #[.string (mkS s),.nilIface]∧Below w2.drew.heap.size w2.drew V) 26 rfl 20 #[.int .i64 (1+(p:Int)),.agg #[.string (mkS e.name),.int .u8 (e.kind.toNat:Int),.int .i64 e.mode,.int .i64 e.uid,.int .i64 e.gid,.int .i64 e.size,.int .i64 e.sec,.int .i64 e.nano,.string (mkS e.link),.string (mkS e.user),.string (mkS e.group),.int .i64 e.major,.int .i64 e.minor,.string (mkS e.data),.slice ad n cap]] (by kernel_rfl) ((KW.out _ hBD.out).mono (by rintro e V ⟨he,hx⟩;exact ⟨_,he,rfl,hx⟩)) ?_
   rintro _ w3 ⟨rfl,h3⟩
   have hB3:=Lib.hid (hBD.out.trans (h3.mono hBD.out.size))
   have hE3:=Lib.hid (hED.out.below h3 hED.out.lt)
   have hR3:=(h3.block _ (Array.getElem?_eq_some_iff.1 hRD).1).trans hRD
   refine hK.out _ _ hR3 (fun hHeld2=>?_)
   clear hK hHeld hRD hdr h3 hR3
   have hHeld:=hHeld2
   clear hHeld2
   simp only [List.setIfInBounds_toArray,List.set_cons_succ,List.set_cons_zero]
   refine take_to (i:=5) 21 (.tuple #[.string (mkS s),.nilIface]) rfl rfl (by kernel_rfl) (by kernel_rfl) (by kernel_rfl) (fun _ _ _ h=>h) (Or.inl ⟨by rfl,?_⟩) (by assumption) ?_
   ·intro w hSw;rfl
   simp only [List.setIfInBounds_toArray,List.set_cons_succ,List.set_cons_zero]
   refine take_to (i:=6) 27 (.string (mkS s)) rfl rfl (by kernel_rfl) (by kernel_rfl) (by kernel_rfl) (fun _ _ _ h=>h) (Or.inl ⟨by rfl,?_⟩) (by assumption) ?_
   ·(intro w hSw;(try dsimp only at hSw);go_simp;try with_reducible rfl)
   simp only [List.setIfInBounds_toArray,List.set_cons_succ,List.set_cons_zero]
   refine take_to (i:=7) 28 (.nilIface) rfl rfl (by kernel_rfl) (by kernel_rfl) (by kernel_rfl) (fun _ _ _ h=>h) (Or.inl ⟨by rfl,?_⟩) (by assumption) ?_
   ·(intro w hSw;(try dsimp only at hSw);go_simp;try with_reducible rfl)
   simp only [List.setIfInBounds_toArray,List.set_cons_succ,List.set_cons_zero]
   refine take_to (i:=8) 7 (.string (mkS s)) rfl rfl (by kernel_rfl) (by kernel_rfl) (by kernel_rfl) (fun _ _ _ h=>h) (Or.inl ⟨by rfl,?_⟩) (by assumption) ?_
   ·intro w hSw;rfl
   simp only [List.setIfInBounds_toArray,List.set_cons_succ,List.set_cons_zero]
   refine take_to (i:=9) 8 (.nilIface) rfl rfl (by kernel_rfl) (by kernel_rfl) (by kernel_rfl) (fun _ _ _ h=>h) (Or.inl ⟨by rfl,?_⟩) (by assumption) ?_
   ·intro w hSw;rfl
   simp only [List.setIfInBounds_toArray,List.set_cons_succ,List.set_cons_zero]
   refine wpAnyH_done (by kernel_rfl) ?_ _
   clear hHeld
   go_wp2_with (first
  |(go_at_call 22;(with_reducible refine (KR.out _ hB3.out).mono ?_);rintro r w4 ⟨ad2,cap2,a3,cap3,rfl,hP,h4⟩;have hbl:=(Below.refl w4.heap.size w4).alloc (Nat.le_refl _) (.cells (entC e (.slice ad2 n cap2)) 26);have hb4:=hB3.out.trans (h4.mono hB3.out.size);have hB5:=Lib.hid (hb4.trans (hbl.mono hb4.size));have he4:=hE3.out.below h4 hE3.out.lt;have hE5:=Lib.hid (he4.below hbl he4.lt);have hF5:=Lib.hid (EntAt.new w4 e (.slice ad2 n cap2) 26);have hP5:=Lib.hid (hP.below hbl);clear hP hbl hb4 he4 h4;unfold entC at hB5 hE5 hF5 hP5;obtain ⟨c0,c1,c2,c3,c4,c5,c6,c7,c8,c9,c10,c11,c12,c13,c14⟩:=id hE5.out;obtain ⟨d0,d1,d2,d3,d4,d5,d6,d7,d8,d9,d10,d11,d12,d13,d14⟩:=id hF5.out)
  |(go_at_call 21;(with_reducible refine (KS.out _ _ _ hP5.out (HM.out _ hB5.out)).mono ?_);rintro r w6 ⟨rfl,h6⟩;have hB6:=Lib.hid (hB5.out.trans (h6.mono hB5.out.size));clear h6 c0 c1 c2 c3 c4 c5 c6 c7 c8 c9 c10 c11 c12 c13 c14 d0 d1 d2 d3 d4 d5 d6 d7 d8 d9 d10 d11 d12 d13 d14)
  | fail)
   go_ret
   exact ⟨by first|rfl|simp,hB6.out⟩
  ·obtain ⟨v,hv⟩:=errV_nz hk
   rw [hv] at KW
   unfold entC at HE hB HRow
   unfold entV at KL KW ⊢
   clear hb hM hc ho hg hp ha z hr hs hS
   generalize e.map.length=n at *
   go_enter Tryz.func6,Tryz.ntmps6
   go_wp2_with (first
  |(go_at_call 17;(with_reducible refine (KT.out _ hB.out).mono ?_);rintro r w1 ⟨rfl,h1⟩;have hB1:=Lib.hid (hB.out.trans (h1.mono hB.out.size));have hE1:=Lib.hid (HE.out.below h1 HE.out.lt);have hR1:=Lib.hid ((h1.block _ HE.out.lt).trans HRow.out);clear h1;obtain ⟨c0,c1,c2,c3,c4,c5,c6,c7,c8,c9,c10,c11,c12,c13,c14⟩:=id hE1.out)
  |(go_at_call 18;(with_reducible refine (KL.out _).mono ?_);rintro r w2 ⟨rfl,h2⟩;have hB2:=Lib.hid (hB1.out.trans (h2.mono hB1.out.size));have hE2:=Lib.hid (hE1.out.below h2 hE1.out.lt);have hR2:=Lib.hid ((h2.block _ hE1.out.lt).trans hR1.out);clear h2 c0 c1 c2 c3 c4 c5 c6 c7 c8 c9 c10 c11 c12 c13 c14;obtain ⟨c0,c1,c2,c3,c4,c5,c6,c7,c8,c9,c10,c11,c12,c13,c14⟩:=id hE2.out)
  | fail)
   have hdr:=(Below.refl w2.heap.size w2).drew
   have hRD:=(hdr.block _ hE2.out.lt).trans hR2.out
   have hBD:=Lib.hid (hB2.out.trans (hdr.mono hB2.out.size))
   have hED:=Lib.hid (hE2.out.below hdr hE2.out.lt)
   clear c0 c1 c2 c3 c4 c5 c6 c7 c8 c9 c10 c11 c12 c13 c14
   refine wp_region_held_drew (S:=fun w'=>w'.heap[w.heap.size]?=some (.cells (entC e (.slice ad n cap)) 26 (0,0))) (by kernel_rfl) hRD (fun hHeld=>?_)
   refine take_to (i:=0) 22 (.int .i64 a0) rfl rfl (by kernel_rfl) (by kernel_rfl) (by kernel_rfl) (fun _ _ _ h=>h) (Or.inl ⟨by rfl,?_⟩) (by assumption) ?_
   ·intro w hSw;rfl
   simp only [List.setIfInBounds_toArray,List.set_cons_succ,List.set_cons_zero]
   refine take_to (i:=3) 25 (.agg #[.string (mkS e.name),.int .u8 (e.kind.toNat:Int),.int .i64 e.mode,.int .i64 e.uid,.int .i64 e.gid,.int .i64 e.size,.int .i64 e.sec,.int .i64 e.nano,.string (mkS e.link),.string (mkS e.user),.string (mkS e.group),.int .i64 e.major,.int .i64 e.minor,.string (mkS e.data),.slice ad n cap]) rfl rfl (by kernel_rfl) (by kernel_rfl) (by kernel_rfl) (fun _ _ _ h=>h) (Or.inl ⟨by rfl,?_⟩) (by assumption) ?_
   ·exact fun w1 h1=>exec_load_row _ _ rfl _ rfl h1 Tryz.underlying26 rfl entInfo
   simp only [List.setIfInBounds_toArray,List.set_cons_succ,List.set_cons_zero]
   refine wpAnyH_ready (rs:=[1]) (by kernel_rfl) (by simp) ?_
   refine AllReadyH.cons rfl (fun K hK=>?_) AllReadyH.nil
   rw [if_pos (by rfl)]
   refine call_at (R:=fun v V=>v=.int .i64 (p:Int)∧V=w2.drew) 23 rfl 19 #[.int .i64 a0,.int .i64 4] (by kernel_rfl) ((P.out _).mono (by rintro e V ⟨he,hx⟩;exact ⟨_,he,rfl,hx⟩)) ?_
   rintro _ V ⟨rfl,rfl⟩
   refine hK.out _ _ hHeld (fun hHeld2=>?_)
   clear hK hHeld2
   simp only [List.setIfInBounds_toArray,List.set_cons_succ,List.set_cons_zero]
   refine take_to (i:=2) 24 (.int .i64 (1+(p:Int))) rfl rfl (by kernel_rfl) (by kernel_rfl) (by kernel_rfl) (fun _ _ _ h=>h) (Or.inl ⟨by rfl,?_⟩) (by assumption) ?_
   ·(intro w hSw;(try dsimp only at hSw);go_simp;try with_reducible rfl)
   simp only [List.setIfInBounds_toArray,List.set_cons_succ,List.set_cons_zero]
   refine wpAnyH_ready (rs:=[4]) (by kernel_rfl) (by simp) ?_
   refine AllReadyH.cons rfl (fun K hK=>?_) AllReadyH.nil
   rw [if_pos (by rfl)]
   refine call_at (R:=fun u V=>u=.tuple #[.string (mkS s),.iface 68 v]∧Below w2.drew.heap.size w2.drew V) 26 rfl 20 #[.int .i64 (1+(p:Int)),.agg #[.string (mkS e.name),.int .u8 (e.kind.toNat:Int),.int .i64 e.mode,.int .i64 e.uid,.int .i64 e.gid,.int .i64 e.size,.int .i64 e.sec,.int .i64 e.nano,.string (mkS e.link),.string (mkS e.user),.string (mkS e.group),.int .i64 e.major,.int .i64 e.minor,.string (mkS e.data),.slice ad n cap]] (by kernel_rfl) ((KW.out _ hBD.out).mono (by rintro e V ⟨he,hx⟩;exact ⟨_,he,rfl,hx⟩)) ?_
   rintro _ w3 ⟨rfl,h3⟩
   have hB3:=Lib.hid (hBD.out.trans (h3.mono hBD.out.size))
   have hE3:=Lib.hid (hED.out.below h3 hED.out.lt)
   have hR3:=(h3.block _ (Array.getElem?_eq_some_iff.1 hRD).1).trans hRD
   refine hK.out _ _ hR3 (fun hHeld2=>?_)
   clear hK hHeld hRD hdr h3 hR3
   have hHeld:=hHeld2
   clear hHeld2
   simp only [List.setIfInBounds_toArray,List.set_cons_succ,List.set_cons_zero]
   refine take_to (i:=5) 21 (.tuple #[.string (mkS s),.iface 68 v]) rfl rfl (by kernel_rfl) (by kernel_rfl) (by kernel_rfl) (fun _ _ _ h=>h) (Or.inl ⟨by rfl,?_⟩) (by assumption) ?_
   ·intro w hSw;rfl
   simp only [List.setIfInBounds_toArray,List.set_cons_succ,List.set_cons_zero]
   refine take_to (i:=6) 27 (.string (mkS s)) rfl rfl (by kernel_rfl) (by kernel_rfl) (by kernel_rfl) (fun _ _ _ h=>h) (Or.inl ⟨by rfl,?_⟩) (by assumption) ?_
   ·(intro w hSw;(try dsimp only at hSw);go_simp;try with_reducible rfl)
   simp only [List.setIfInBounds_toArray,List.set_cons_succ,List.set_cons_zero]
   refine take_to (i:=7) 28 (.iface 68 v) rfl rfl (by kernel_rfl) (by kernel_rfl) (by kernel_rfl) (fun _ _ _ h=>h) (Or.inl ⟨by rfl,?_⟩) (by assumption) ?_
   ·(intro w hSw;(try dsimp only at hSw);go_simp;try with_reducible rfl)
   simp only [List.setIfInBounds_toArray,List.set_cons_succ,List.set_cons_zero]
   refine take_to (i:=8) 7 (.string (mkS s)) rfl rfl (by kernel_rfl) (by kernel_rfl) (by kernel_rfl) (fun _ _ _ h=>h) (Or.inl ⟨by rfl,?_⟩) (by assumption) ?_
   ·intro w hSw;rfl
   simp only [List.setIfInBounds_toArray,List.set_cons_succ,List.set_cons_zero]
   refine take_to (i:=9) 8 (.iface 68 v) rfl rfl (by kernel_rfl) (by kernel_rfl) (by kernel_rfl) (fun _ _ _ h=>h) (Or.inl ⟨by rfl,?_⟩) (by assumption) ?_
   ·intro w hSw;rfl
   simp only [List.setIfInBounds_toArray,List.set_cons_succ,List.set_cons_zero]
   refine wpAnyH_done (by kernel_rfl) ?_ _
   clear hHeld
   go_wp2_with fail
   go_ret
   exact ⟨rfl,hB3.out⟩
set_option maxRecDepth 100000 in
set_option maxHeartbeats 8000000 in
theorem memberAt_walk (a0:Int) (w0:(Lit.int .i64 a0).wf=true) (a:ByteArray) (z:a.size≤reachBytes) (e:EntL) (ad:Option Addr) (cap:Nat) (ho:EntOk e) (hc:e.map.length≤cap) (w:World) (hM:PiecesAt w ad e.map) (hg:ErrLaid w) (hp:Px.PowLaid w) (ha:Px.AtoiLaid w) :
  Calls Tryz.prog 5 #[.int .i64 a0,.string a,entV e (.slice ad e.map.length cap)] w fun r w'=>r=.returned (.bool true)∧Below w.heap.size w w':=by
 obtain ⟨x,rfl⟩:∃ k,a=mkS k:=⟨_,(mkS_self a).symm⟩
 have hr:=reachBytes_lt
 have sx:=mkS_size x
 have hE0:=EntAt.new w e (.slice ad e.map.length cap) 26
 have hB:=Lib.hid (below_alloc1 w (.cells (entC e (.slice ad e.map.length cap)) 26))
 have HE:=Lib.hid hE0
 have HRow:=Lib.hid (heap_alloc_new w (.cells (entC e (.slice ad e.map.length cap)) 26))
 have HM:=Lib.hid (fun W (h:Below w.heap.size w W)=>hM.below h)
 have KT:=Lib.hid (fun W (h:Below w.heap.size w W)=>told_any W (hp.below h) ⟨hp.below h,ha.below h⟩ (hg.below h))
 obtain ⟨b,hb,hL⟩:=large_keep e ho ad cap
 have KL:=Lib.hid hL
 obtain ⟨p,hp4,hP⟩:=pick_nat a0 4 (by decide) (by decide)
 have P:=Lib.hid (show ∀ w,Calls Tryz.prog 19 #[.int .i64 a0,.int .i64 4] w (fun e w'=>e=.returned (.int .i64 (p:Int))∧w'=w) from hP)
 have hx:(x.length:Int)≤9000000000000000000:=by rw [mkS_size] at z;omega
 have hpp:(p:Int)≤3:=by omega
 have hw1:IntKind.i64.wrap (1+(p:Int))=1+(p:Int):=IntWalk.i64_in _ ⟨by omega,by omega⟩
 clear hE0 hL hP
 cases b with
 | true =>
  unfold entC at HE hB HRow
  unfold entV at KL ⊢
  clear hb hM hc ho hg hp ha z hr
  generalize e.map.length=n at *
  go_enter Tryz.func5,Tryz.ntmps5
  go_wp2_with (first
  |(go_at_call 17;(with_reducible refine (KT.out _ hB.out).mono ?_);rintro r w1 ⟨rfl,h1⟩;have hB1:=Lib.hid (hB.out.trans (h1.mono hB.out.size));have hE1:=Lib.hid (HE.out.below h1 HE.out.lt);have hR1:=Lib.hid ((h1.block _ HE.out.lt).trans HRow.out);clear h1;obtain ⟨c0,c1,c2,c3,c4,c5,c6,c7,c8,c9,c10,c11,c12,c13,c14⟩:=id hE1.out)
  |(go_at_call 18;(with_reducible refine (KL.out _).mono ?_);rintro r w2 ⟨rfl,h2⟩;have hB2:=Lib.hid (hB1.out.trans (h2.mono hB1.out.size));have hE2:=Lib.hid (hE1.out.below h2 hE1.out.lt);have hR2:=Lib.hid ((h2.block _ hE1.out.lt).trans hR1.out);clear h2 c0 c1 c2 c3 c4 c5 c6 c7 c8 c9 c10 c11 c12 c13 c14;obtain ⟨c0,c1,c2,c3,c4,c5,c6,c7,c8,c9,c10,c11,c12,c13,c14⟩:=id hE2.out)
  | fail)
  go_ret
  exact ⟨rfl,hB2.out⟩
 | false =>
  have hs:=hb rfl
  by_cases h6:(2000:Int)<(x.length:Int)
  ·unfold entC at HE hB HRow
   unfold entV at KL ⊢
   clear hb hM hc ho hg hp ha z hr hs
   generalize e.map.length=n at *
   go_enter Tryz.func5,Tryz.ntmps5
   go_wp2_with (first
  |(go_at_call 17;(with_reducible refine (KT.out _ hB.out).mono ?_);rintro r w1 ⟨rfl,h1⟩;have hB1:=Lib.hid (hB.out.trans (h1.mono hB.out.size));have hE1:=Lib.hid (HE.out.below h1 HE.out.lt);have hR1:=Lib.hid ((h1.block _ HE.out.lt).trans HRow.out);clear h1;obtain ⟨c0,c1,c2,c3,c4,c5,c6,c7,c8,c9,c10,c11,c12,c13,c14⟩:=id hE1.out)
  |(go_at_call 18;(with_reducible refine (KL.out _).mono ?_);rintro r w2 ⟨rfl,h2⟩;have hB2:=Lib.hid (hB1.out.trans (h2.mono hB1.out.size));have hE2:=Lib.hid (hE1.out.below h2 hE1.out.lt);have hR2:=Lib.hid ((h2.block _ hE1.out.lt).trans hR1.out);clear h2 c0 c1 c2 c3 c4 c5 c6 c7 c8 c9 c10 c11 c12 c13 c14;obtain ⟨c0,c1,c2,c3,c4,c5,c6,c7,c8,c9,c10,c11,c12,c13,c14⟩:=id hE2.out)
  | fail)
   go_ret
   exact ⟨rfl,hB2.out⟩
  have KW:=Lib.hid (fun W (h:Below w.heap.size w W)=>memWrite_all (1+(p:Int)) e ad cap ho hs hc W (hp.below h) (HM.out W h))
  obtain ⟨S,hS⟩:∃ q,eWriteF (1+(p:Int)) e=q:=⟨_,rfl⟩
  obtain ⟨s,k⟩:=S
  rw [hS] at KW
  dsimp only at KW
  have s0:=mkS_size s
  by_cases hk:k=0
  ·subst hk
   rw [errV_z] at KW
   obtain ⟨hm1,hm2⟩:=write_blocks hs hS
   have hd:=hs.data
   have hml:=hs.map
   have KR:=Lib.hid (fun W (h:Below w.heap.size w W)=>show Calls Tryz.prog 22 #[.string (mkS (x++s)),.int .i64 (x.length:Int),.slice none 0 0] W (fun r W'=>∃ ad cap a2 c2,r=.returned (.tuple #[entV e (.slice ad e.map.length cap),.int .i64 ((x.length:Int)+(s.length:Int)),.slice a2 0 c2,.nilIface])∧PiecesAt W' ad e.map∧Below W.heap.size W W') from by
    have:=read_back (1+(p:Int)) e (by omega) s hS x [] (by rw [List.append_nil,List.length_append];omega) W ⟨hp.below h,ha.below h⟩ (hg.below h)
    rw [List.append_nil] at this
    exact this)
   have KS:=Lib.hid (fun (ad2:Option Addr) (cap2:Nat) (W:World) (h1:PiecesAt W ad2 e.map) (h2:PiecesAt W ad e.map)=>show Calls Tryz.prog 21 #[entV e (.slice ad2 e.map.length cap2),entV e (.slice ad e.map.length cap)] W (fun r w'=>r=.returned (.bool true)∧Below W.heap.size W w') from by
    have:=same_any e e ad2 ad cap2 cap (by omega) (by omega) W h1 h2
    rwa [decide_eq_true rfl] at this)
   have hcat:∀ w,(Op.stringOp .add (mkS x) (mkS s)).run Tryz.prog w=.ok (.string (mkS (x++s))) w:=fun w=>cat_lists x s (by omega) w
   have hw2:IntKind.i64.wrap ((x.length:Int)+(s.length:Int))=(x.length:Int)+(s.length:Int):=IntWalk.i64_in _ ⟨by omega,by omega⟩
   have hm3:(s.length:Int) % 512=0:=by omega
   have hm4:Int.tmod (s.length:Int) 512=0:=by rw [Int.tmod_eq_emod_of_nonneg (by omega)];exact hm3
   have hm5:(s.length:Int)≤20000:=by omega
   unfold entC at HE hB HRow
   unfold entV at KL KW KR KS ⊢
   clear hb hM hc ho hg hp ha z hr hs hS hd hml hm1 hm2
   generalize x++s=sx' at *
   generalize e.map.length=n at *
   go_enter Tryz.func5,Tryz.ntmps5
   go_wp2_with (first
  |(go_at_call 17;(with_reducible refine (KT.out _ hB.out).mono ?_);rintro r w1 ⟨rfl,h1⟩;have hB1:=Lib.hid (hB.out.trans (h1.mono hB.out.size));have hE1:=Lib.hid (HE.out.below h1 HE.out.lt);have hR1:=Lib.hid ((h1.block _ HE.out.lt).trans HRow.out);clear h1;obtain ⟨c0,c1,c2,c3,c4,c5,c6,c7,c8,c9,c10,c11,c12,c13,c14⟩:=id hE1.out)
  |(go_at_call 18;(with_reducible refine (KL.out _).mono ?_);rintro r w2 ⟨rfl,h2⟩;have hB2:=Lib.hid (hB1.out.trans (h2.mono hB1.out.size));have hE2:=Lib.hid (hE1.out.below h2 hE1.out.lt);have hR2:=Lib.hid ((h2.block _ hE1.out.lt).trans hR1.out);clear h2 c0 c1 c2 c3 c4 c5 c6 c7 c8 c9 c10 c11 c12 c13 c14;obtain ⟨c0,c1,c2,c3,c4,c5,c6,c7,c8,c9,c10,c11,c12,c13,c14⟩:=id hE2.out)
  | fail)
   have hdr:=(Below.refl w2.heap.size w2).drew
   have hRD:=(hdr.block _ hE2.out.lt).trans hR2.out
   have hBD:=Lib.hid (hB2.out.trans (hdr.mono hB2.out.size))
   have hED:=Lib.hid (hE2.out.below hdr hE2.out.lt)
   clear c0 c1 c2 c3 c4 c5 c6 c7 c8 c9 c10 c11 c12 c13 c14
   refine wp_region_held_drew (S:=fun w'=>w'.heap[w.heap.size]?=some (.cells (entC e (.slice ad n cap)) 26 (0,0))) (by kernel_rfl) hRD (fun hHeld=>?_)
   refine take_to (i:=0) 22 (.int .i64 a0) rfl rfl (by kernel_rfl) (by kernel_rfl) (by kernel_rfl) (fun _ _ _ h=>h) (Or.inl ⟨by rfl,?_⟩) (by assumption) ?_
   ·intro w hSw;rfl
   simp only [List.setIfInBounds_toArray,List.set_cons_succ,List.set_cons_zero]
   refine take_to (i:=3) 25 (.agg #[.string (mkS e.name),.int .u8 (e.kind.toNat:Int),.int .i64 e.mode,.int .i64 e.uid,.int .i64 e.gid,.int .i64 e.size,.int .i64 e.sec,.int .i64 e.nano,.string (mkS e.link),.string (mkS e.user),.string (mkS e.group),.int .i64 e.major,.int .i64 e.minor,.string (mkS e.data),.slice ad n cap]) rfl rfl (by kernel_rfl) (by kernel_rfl) (by kernel_rfl) (fun _ _ _ h=>h) (Or.inl ⟨by rfl,?_⟩) (by assumption) ?_
   ·exact fun w1 h1=>exec_load_row _ _ rfl _ rfl h1 Tryz.underlying26 rfl entInfo
   simp only [List.setIfInBounds_toArray,List.set_cons_succ,List.set_cons_zero]
   refine wpAnyH_ready (rs:=[1]) (by kernel_rfl) (by simp) ?_
   refine AllReadyH.cons rfl (fun K hK=>?_) AllReadyH.nil
   rw [if_pos (by rfl)]
   refine call_at (R:=fun v V=>v=.int .i64 (p:Int)∧V=w2.drew) 23 rfl 19 #[.int .i64 a0,.int .i64 4] (by kernel_rfl) ((P.out _).mono (by rintro e V ⟨he,hx⟩;exact ⟨_,he,rfl,hx⟩)) ?_
   rintro _ V ⟨rfl,rfl⟩
   refine hK.out _ _ hHeld (fun hHeld2=>?_)
   clear hK hHeld2
   simp only [List.setIfInBounds_toArray,List.set_cons_succ,List.set_cons_zero]
   refine take_to (i:=2) 24 (.int .i64 (1+(p:Int))) rfl rfl (by kernel_rfl) (by kernel_rfl) (by kernel_rfl) (fun _ _ _ h=>h) (Or.inl ⟨by rfl,?_⟩) (by assumption) ?_
   ·(intro w hSw;(try dsimp only at hSw);go_simp;try with_reducible rfl)
   simp only [List.setIfInBounds_toArray,List.set_cons_succ,List.set_cons_zero]
   refine wpAnyH_ready (rs:=[4]) (by kernel_rfl) (by simp) ?_
   refine AllReadyH.cons rfl (fun K hK=>?_) AllReadyH.nil
   rw [if_pos (by rfl)]
   refine call_at (R:=fun u V=>u=.tuple #[.string (mkS s),.nilIface]∧Below w2.drew.heap.size w2.drew V) 26 rfl 20 #[.int .i64 (1+(p:Int)),.agg #[.string (mkS e.name),.int .u8 (e.kind.toNat:Int),.int .i64 e.mode,.int .i64 e.uid,.int .i64 e.gid,.int .i64 e.size,.int .i64 e.sec,.int .i64 e.nano,.string (mkS e.link),.string (mkS e.user),.string (mkS e.group),.int .i64 e.major,.int .i64 e.minor,.string (mkS e.data),.slice ad n cap]] (by kernel_rfl) ((KW.out _ hBD.out).mono (by rintro e V ⟨he,hx⟩;exact ⟨_,he,rfl,hx⟩)) ?_
   rintro _ w3 ⟨rfl,h3⟩
   have hB3:=Lib.hid (hBD.out.trans (h3.mono hBD.out.size))
   have hE3:=Lib.hid (hED.out.below h3 hED.out.lt)
   have hR3:=(h3.block _ (Array.getElem?_eq_some_iff.1 hRD).1).trans hRD
   refine hK.out _ _ hR3 (fun hHeld2=>?_)
   clear hK hHeld hRD hdr h3 hR3
   have hHeld:=hHeld2
   clear hHeld2
   simp only [List.setIfInBounds_toArray,List.set_cons_succ,List.set_cons_zero]
   refine take_to (i:=5) 21 (.tuple #[.string (mkS s),.nilIface]) rfl rfl (by kernel_rfl) (by kernel_rfl) (by kernel_rfl) (fun _ _ _ h=>h) (Or.inl ⟨by rfl,?_⟩) (by assumption) ?_
   ·intro w hSw;rfl
   simp only [List.setIfInBounds_toArray,List.set_cons_succ,List.set_cons_zero]
   refine take_to (i:=6) 27 (.string (mkS s)) rfl rfl (by kernel_rfl) (by kernel_rfl) (by kernel_rfl) (fun _ _ _ h=>h) (Or.inl ⟨by rfl,?_⟩) (by assumption) ?_
   ·(intro w hSw;(try dsimp only at hSw);go_simp;try with_reducible rfl)
   simp only [List.setIfInBounds_toArray,List.set_cons_succ,List.set_cons_zero]
   refine take_to (i:=7) 28 (.nilIface) rfl rfl (by kernel_rfl) (by kernel_rfl) (by kernel_rfl) (fun _ _ _ h=>h) (Or.inl ⟨by rfl,?_⟩) (by assumption) ?_
   ·(intro w hSw;(try dsimp only at hSw);go_simp;try with_reducible rfl)
   simp only [List.setIfInBounds_toArray,List.set_cons_succ,List.set_cons_zero]
   refine take_to (i:=8) 7 (.string (mkS s)) rfl rfl (by kernel_rfl) (by kernel_rfl) (by kernel_rfl) (fun _ _ _ h=>h) (Or.inl ⟨by rfl,?_⟩) (by assumption) ?_
   ·intro w hSw;rfl
   simp only [List.setIfInBounds_toArray,List.set_cons_succ,List.set_cons_zero]
   refine take_to (i:=9) 8 (.nilIface) rfl rfl (by kernel_rfl) (by kernel_rfl) (by kernel_rfl) (fun _ _ _ h=>h) (Or.inl ⟨by rfl,?_⟩) (by assumption) ?_
   ·intro w hSw;rfl
   simp only [List.setIfInBounds_toArray,List.set_cons_succ,List.set_cons_zero]
   refine wpAnyH_done (by kernel_rfl) ?_ _
   clear hHeld
   go_wp2_with (first
  |(go_at_call 22;(with_reducible refine (KR.out _ hB3.out).mono ?_);rintro r w4 ⟨ad2,cap2,a3,cap3,rfl,hP,h4⟩;have hbl:=(Below.refl w4.heap.size w4).alloc (Nat.le_refl _) (.cells (entC e (.slice ad2 n cap2)) 26);have hb4:=hB3.out.trans (h4.mono hB3.out.size);have hB5:=Lib.hid (hb4.trans (hbl.mono hb4.size));have he4:=hE3.out.below h4 hE3.out.lt;have hE5:=Lib.hid (he4.below hbl he4.lt);have hF5:=Lib.hid (EntAt.new w4 e (.slice ad2 n cap2) 26);have hP5:=Lib.hid (hP.below hbl);clear hP hbl hb4 he4 h4;unfold entC at hB5 hE5 hF5 hP5;obtain ⟨c0,c1,c2,c3,c4,c5,c6,c7,c8,c9,c10,c11,c12,c13,c14⟩:=id hE5.out;obtain ⟨d0,d1,d2,d3,d4,d5,d6,d7,d8,d9,d10,d11,d12,d13,d14⟩:=id hF5.out)
  |(go_at_call 21;(with_reducible refine (KS.out _ _ _ hP5.out (HM.out _ hB5.out)).mono ?_);rintro r w6 ⟨rfl,h6⟩;have hB6:=Lib.hid (hB5.out.trans (h6.mono hB5.out.size));clear h6 c0 c1 c2 c3 c4 c5 c6 c7 c8 c9 c10 c11 c12 c13 c14 d0 d1 d2 d3 d4 d5 d6 d7 d8 d9 d10 d11 d12 d13 d14)
  | fail)
   go_ret
   exact ⟨by first|rfl|simp,hB6.out⟩
  ·obtain ⟨v,hv⟩:=errV_nz hk
   rw [hv] at KW
   unfold entC at HE hB HRow
   unfold entV at KL KW ⊢
   clear hb hM hc ho hg hp ha z hr hs hS
   generalize e.map.length=n at *
   go_enter Tryz.func5,Tryz.ntmps5
   go_wp2_with (first
  |(go_at_call 17;(with_reducible refine (KT.out _ hB.out).mono ?_);rintro r w1 ⟨rfl,h1⟩;have hB1:=Lib.hid (hB.out.trans (h1.mono hB.out.size));have hE1:=Lib.hid (HE.out.below h1 HE.out.lt);have hR1:=Lib.hid ((h1.block _ HE.out.lt).trans HRow.out);clear h1;obtain ⟨c0,c1,c2,c3,c4,c5,c6,c7,c8,c9,c10,c11,c12,c13,c14⟩:=id hE1.out)
  |(go_at_call 18;(with_reducible refine (KL.out _).mono ?_);rintro r w2 ⟨rfl,h2⟩;have hB2:=Lib.hid (hB1.out.trans (h2.mono hB1.out.size));have hE2:=Lib.hid (hE1.out.below h2 hE1.out.lt);have hR2:=Lib.hid ((h2.block _ hE1.out.lt).trans hR1.out);clear h2 c0 c1 c2 c3 c4 c5 c6 c7 c8 c9 c10 c11 c12 c13 c14;obtain ⟨c0,c1,c2,c3,c4,c5,c6,c7,c8,c9,c10,c11,c12,c13,c14⟩:=id hE2.out)
  | fail)
   have hdr:=(Below.refl w2.heap.size w2).drew
   have hRD:=(hdr.block _ hE2.out.lt).trans hR2.out
   have hBD:=Lib.hid (hB2.out.trans (hdr.mono hB2.out.size))
   have hED:=Lib.hid (hE2.out.below hdr hE2.out.lt)
   clear c0 c1 c2 c3 c4 c5 c6 c7 c8 c9 c10 c11 c12 c13 c14
   refine wp_region_held_drew (S:=fun w'=>w'.heap[w.heap.size]?=some (.cells (entC e (.slice ad n cap)) 26 (0,0))) (by kernel_rfl) hRD (fun hHeld=>?_)
   refine take_to (i:=0) 22 (.int .i64 a0) rfl rfl (by kernel_rfl) (by kernel_rfl) (by kernel_rfl) (fun _ _ _ h=>h) (Or.inl ⟨by rfl,?_⟩) (by assumption) ?_
   ·intro w hSw;rfl
   simp only [List.setIfInBounds_toArray,List.set_cons_succ,List.set_cons_zero]
   refine take_to (i:=3) 25 (.agg #[.string (mkS e.name),.int .u8 (e.kind.toNat:Int),.int .i64 e.mode,.int .i64 e.uid,.int .i64 e.gid,.int .i64 e.size,.int .i64 e.sec,.int .i64 e.nano,.string (mkS e.link),.string (mkS e.user),.string (mkS e.group),.int .i64 e.major,.int .i64 e.minor,.string (mkS e.data),.slice ad n cap]) rfl rfl (by kernel_rfl) (by kernel_rfl) (by kernel_rfl) (fun _ _ _ h=>h) (Or.inl ⟨by rfl,?_⟩) (by assumption) ?_
   ·exact fun w1 h1=>exec_load_row _ _ rfl _ rfl h1 Tryz.underlying26 rfl entInfo
   simp only [List.setIfInBounds_toArray,List.set_cons_succ,List.set_cons_zero]
   refine wpAnyH_ready (rs:=[1]) (by kernel_rfl) (by simp) ?_
   refine AllReadyH.cons rfl (fun K hK=>?_) AllReadyH.nil
   rw [if_pos (by rfl)]
   refine call_at (R:=fun v V=>v=.int .i64 (p:Int)∧V=w2.drew) 23 rfl 19 #[.int .i64 a0,.int .i64 4] (by kernel_rfl) ((P.out _).mono (by rintro e V ⟨he,hx⟩;exact ⟨_,he,rfl,hx⟩)) ?_
   rintro _ V ⟨rfl,rfl⟩
   refine hK.out _ _ hHeld (fun hHeld2=>?_)
   clear hK hHeld2
   simp only [List.setIfInBounds_toArray,List.set_cons_succ,List.set_cons_zero]
   refine take_to (i:=2) 24 (.int .i64 (1+(p:Int))) rfl rfl (by kernel_rfl) (by kernel_rfl) (by kernel_rfl) (fun _ _ _ h=>h) (Or.inl ⟨by rfl,?_⟩) (by assumption) ?_
   ·(intro w hSw;(try dsimp only at hSw);go_simp;try with_reducible rfl)
   simp only [List.setIfInBounds_toArray,List.set_cons_succ,List.set_cons_zero]
   refine wpAnyH_ready (rs:=[4]) (by kernel_rfl) (by simp) ?_
   refine AllReadyH.cons rfl (fun K hK=>?_) AllReadyH.nil
   rw [if_pos (by rfl)]
   refine call_at (R:=fun u V=>u=.tuple #[.string (mkS s),.iface 68 v]∧Below w2.drew.heap.size w2.drew V) 26 rfl 20 #[.int .i64 (1+(p:Int)),.agg #[.string (mkS e.name),.int .u8 (e.kind.toNat:Int),.int .i64 e.mode,.int .i64 e.uid,.int .i64 e.gid,.int .i64 e.size,.int .i64 e.sec,.int .i64 e.nano,.string (mkS e.link),.string (mkS e.user),.string (mkS e.group),.int .i64 e.major,.int .i64 e.minor,.string (mkS e.data),.slice ad n cap]] (by kernel_rfl) ((KW.out _ hBD.out).mono (by rintro e V ⟨he,hx⟩;exact ⟨_,he,rfl,hx⟩)) ?_
   rintro _ w3 ⟨rfl,h3⟩
   have hB3:=Lib.hid (hBD.out.trans (h3.mono hBD.out.size))
   have hE3:=Lib.hid (hED.out.below h3 hED.out.lt)
   have hR3:=(h3.block _ (Array.getElem?_eq_some_iff.1 hRD).1).trans hRD
   refine hK.out _ _ hR3 (fun hHeld2=>?_)
   clear hK hHeld hRD hdr h3 hR3
   have hHeld:=hHeld2
   clear hHeld2
   simp only [List.setIfInBounds_toArray,List.set_cons_succ,List.set_cons_zero]
   refine take_to (i:=5) 21 (.tuple #[.string (mkS s),.iface 68 v]) rfl rfl (by kernel_rfl) (by kernel_rfl) (by kernel_rfl) (fun _ _ _ h=>h) (Or.inl ⟨by rfl,?_⟩) (by assumption) ?_
   ·intro w hSw;rfl
   simp only [List.setIfInBounds_toArray,List.set_cons_succ,List.set_cons_zero]
   refine take_to (i:=6) 27 (.string (mkS s)) rfl rfl (by kernel_rfl) (by kernel_rfl) (by kernel_rfl) (fun _ _ _ h=>h) (Or.inl ⟨by rfl,?_⟩) (by assumption) ?_
   ·(intro w hSw;(try dsimp only at hSw);go_simp;try with_reducible rfl)
   simp only [List.setIfInBounds_toArray,List.set_cons_succ,List.set_cons_zero]
   refine take_to (i:=7) 28 (.iface 68 v) rfl rfl (by kernel_rfl) (by kernel_rfl) (by kernel_rfl) (fun _ _ _ h=>h) (Or.inl ⟨by rfl,?_⟩) (by assumption) ?_
   ·(intro w hSw;(try dsimp only at hSw);go_simp;try with_reducible rfl)
   simp only [List.setIfInBounds_toArray,List.set_cons_succ,List.set_cons_zero]
   refine take_to (i:=8) 7 (.string (mkS s)) rfl rfl (by kernel_rfl) (by kernel_rfl) (by kernel_rfl) (fun _ _ _ h=>h) (Or.inl ⟨by rfl,?_⟩) (by assumption) ?_
   ·intro w hSw;rfl
   simp only [List.setIfInBounds_toArray,List.set_cons_succ,List.set_cons_zero]
   refine take_to (i:=9) 8 (.iface 68 v) rfl rfl (by kernel_rfl) (by kernel_rfl) (by kernel_rfl) (fun _ _ _ h=>h) (Or.inl ⟨by rfl,?_⟩) (by assumption) ?_
   ·intro w hSw;rfl
   simp only [List.setIfInBounds_toArray,List.set_cons_succ,List.set_cons_zero]
   refine wpAnyH_done (by kernel_rfl) ?_ _
   clear hHeld
   go_wp2_with fail
   go_ret
   exact ⟨rfl,hB3.out⟩
end Go.Proofs.YtdjcjaidklgamaaGreatDoor
end
