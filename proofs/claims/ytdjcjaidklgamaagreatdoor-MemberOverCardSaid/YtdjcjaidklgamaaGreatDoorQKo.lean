import Derived.Test.YtdjcjaidklgamaaGreatDoorQEv
import Derived.Test.YtdjcjaidklgamaaGreatDoorQHw
import Derived.Test.YtdjcjaidklgamaaGreatDoorQPe
import Derived.Laws.StructEq
set_option linter.unusedSimpArgs false
set_option linter.unusedVariables false
section
namespace Go.Proofs.YtdjcjaidklgamaaGreatDoor.Px
open Go.RowKit Go.Joins
theorem pair_neq (k v k' v':List UInt8) (w:World):(binOp .neq 43 (prV k v) (prV k' v')).run Tryz.prog w=.ok (.bool (!decide (k=k'∧v=v'))) w:=by
 have u3:=Tryz.underlying9
 have a3:=Tryz.isAgg9
 have z3:=Tryz.sizeOf9
 have hS:Tryz.prog.underlying 43=some (.struct (Tryz.prog.fieldsOf 43)):=by kernel_rfl
 have hp:Tryz.prog.stoodInHeld 43=false:=by kernel_rfl
 have e:∀ x y:List UInt8,((mkS x).toList==(mkS y).toList)=decide (x=y):=fun x y=>by
  rw [ByteArray.toList_eq,ByteArray.toList_eq,mkS_list,mkS_list]
  by_cases h:x=y <;> simp [h]
 rw [run_neq_struct,show (10000:Nat)=9999+1 from rfl,run_equalIn_agg w 9999 43 _ _ hS hp]
 simp only [Program.fieldsOf,Tryz.underlying43]
 go_simp
 by_cases h1:k=k' <;> by_cases h2:v=v' <;> simp [h1,h2]
theorem pair_guard (op:BinOp) (a b:Operand) (k v k' v':List UInt8) (w:World):(eqGuard op 43 a b (prV k v) (prV k' v')).run Tryz.prog w=.ok () w :=
 run_eqGuard_agg w op 43 a b _ _ (by kernel_rfl)
end Go.Proofs.YtdjcjaidklgamaaGreatDoor.Px
end
section
namespace Go.Proofs.YtdjcjaidklgamaaGreatDoor.Px
open Go.RowKit Go.Joins
set_option maxHeartbeats 2000000 in
theorem equal_same (a1 a2:Option Addr) (c1 c2:Nat) (M:List Pr) (hl:M.length≤1000000) (w:World) (h1:PairsAt w a1 M) (h2:PairsAt w a2 M) :
  Calls Tryz.prog 26 #[.slice a1 M.length c1,.slice a2 M.length c2] w fun e w'=>e=.returned (.bool true)∧Below w.heap.size w w':=by
 rcases h1.cases with rfl|⟨b1,o1,rfl,hlt1,hR1⟩
 ·go_enter Tryz.func26,Tryz.ntmps26
  go_wp2
  refine wp_loop_rounds 1 ?_
  rw [rounds_succ]
  go_wp2
  go_ret
  exact ⟨rfl,Below.refl _ _⟩
 rcases h2.cases with rfl|⟨b2,o2,rfl,hlt2,hR2⟩
 ·go_enter Tryz.func26,Tryz.ntmps26
  go_wp2
  refine wp_loop_rounds 1 ?_
  rw [rounds_succ]
  go_wp2
  go_ret
  exact ⟨rfl,Below.refl _ _⟩
 have H1:=Lib.hid (show ∀ w',Below w.heap.size w w'→RowAt w' b1 o1 M from fun w' hb=>RowAt.below hlt1 hR1 hb)
 have H2:=Lib.hid (show ∀ w',Below w.heap.size w w'→RowAt w' b2 o2 M from fun w' hb=>RowAt.below hlt2 hR2 hb)
 clear h1 h2 hR1 hR2 hlt1 hlt2
 go_enter Tryz.func26,Tryz.ntmps26
 go_wp2
 go_loopg [13] M.length (fun g s5 wr=>∃ i:Nat,i≤M.length∧M.length - i≤g∧s5=.int .i64 i∧Aside (Below w.heap.size w wr))
 case atStart=>exact ⟨0,by omega,by omega,rfl,Below.refl _ _⟩
 case round =>
  obtain ⟨i,hi,hg,rfl,A⟩:=hrel
  by_cases hil:i<M.length
  ·obtain ⟨p,hp⟩:∃ p,M[i]?=some p:=⟨_,List.getElem?_eq_getElem hil⟩
   obtain ⟨x1,x2⟩:=H1.out wr A.out i p hp
   obtain ⟨y1,y2⟩:=H2.out wr A.out i p hp
   have N1:∀ W,(binOp .neq 43 (prV p.1 p.2) (prV p.1 p.2)).run Tryz.prog W=.ok (.bool false) W:=fun W=>by
    have:=pair_neq p.1 p.2 p.1 p.2 W
    simpa using this
   have N2:=fun op a b W=>pair_guard op a b p.1 p.2 p.1 p.2 W
   have AB:=Lib.hid A.out
   clear hp A
   go_wp2
   go_quiet (fail)
   go_wp2
   go_roundg (M.length - (i+1))
   case measure=>omega
   case rel=>exact ⟨i+1,by omega,by omega,by first|rfl|simp,AB.out.trans (below_draws _ _ _)⟩
  ·go_wp2
   go_ret
   exact ⟨rfl,A.out⟩
end Go.Proofs.YtdjcjaidklgamaaGreatDoor.Px
end
section
namespace Go.Proofs.YtdjcjaidklgamaaGreatDoor
open Go.RowKit Go.Joins
theorem row15 {w:World} {b:Nat} {t:TypeId} {fr:Nat × Nat} {v0 v1 v2 v3 v4 v5 v6 v7 v8 v9 v10 v11 v12 v13 v14:Value} (h:w.heap[b]?=some (.cells #[v0,v1,v2,v3,v4,v5,v6,v7,v8,v9,v10,v11,v12,v13,v14] t fr)) :
  w.cell? ⟨b,0,none⟩=some v0∧w.cell? ⟨b,1,none⟩=some v1∧w.cell? ⟨b,2,none⟩=some v2∧w.cell? ⟨b,3,none⟩=some v3∧w.cell? ⟨b,4,none⟩=some v4∧w.cell? ⟨b,5,none⟩=some v5∧w.cell? ⟨b,6,none⟩=some v6∧w.cell? ⟨b,7,none⟩=some v7∧w.cell? ⟨b,8,none⟩=some v8∧w.cell? ⟨b,9,none⟩=some v9∧w.cell? ⟨b,10,none⟩=some v10∧w.cell? ⟨b,11,none⟩=some v11∧w.cell? ⟨b,12,none⟩=some v12∧w.cell? ⟨b,13,none⟩=some v13∧w.cell? ⟨b,14,none⟩=some v14 :=
 ⟨row_cell h 0 _ rfl,row_cell h 1 _ rfl,row_cell h 2 _ rfl,row_cell h 3 _ rfl,row_cell h 4 _ rfl,row_cell h 5 _ rfl,row_cell h 6 _ rfl,row_cell h 7 _ rfl,row_cell h 8 _ rfl,row_cell h 9 _ rfl,row_cell h 10 _ rfl,row_cell h 11 _ rfl,row_cell h 12 _ rfl,row_cell h 13 _ rfl,row_cell h 14 _ rfl⟩
theorem run_lit_over (x:List UInt8) (w:World):(Instr.buildSlice 36 2 #[(0,.agg #[.string { data:=#[112,97,116,104] },.string (mkS x)]),(1,.agg #[.string { data:=#[117,110,97,109,101] },.string { data:=#[114,111,111,116] }])]).run Tryz.prog w=.ok (.slice (some ⟨w.heap.size,0,none⟩) 2 2) (w.alloc (.cells #[.string { data:=#[112,97,116,104] },.string (mkS x),.string { data:=#[117,110,97,109,101] },.string { data:=#[114,111,111,116] }] 43)):=by
 go_simp
theorem pairs_lit (x:List UInt8) (w:World):Px.PairsAt (w.alloc (.cells #[.string { data:=#[112,97,116,104] },.string (mkS x),.string { data:=#[117,110,97,109,101] },.string { data:=#[114,111,111,116] }] 43)) (some ⟨w.heap.size,0,none⟩) (overG x):=fun i p hi=>by
 have hlt:w.heap.size<(w.alloc (.cells #[.string { data:=#[112,97,116,104] },.string (mkS x),.string { data:=#[117,110,97,109,101] },.string { data:=#[114,111,111,116] }] 43)).heap.size:=by simp
 unfold overG at hi
 match i,hi with
 | 0,hi=>simp at hi;subst hi;exact ⟨_,0,rfl,hlt,(by show World.cell? _ _=some (.string ⟨#[112,97,116,104]⟩);simp),by simp⟩
 | 1,hi=>simp at hi;subst hi;exact ⟨_,0,rfl,hlt,(by show World.cell? _ _=some (.string ⟨#[117,110,97,109,101]⟩);simp),(by show World.cell? _ _=some (.string ⟨#[114,111,111,116]⟩);simp)⟩
 | i+2,hi=>simp at hi
theorem over_len (x:List UInt8) (hx:x.length≤100):∀ p∈overG x,p.1.length≤1000∧p.2.length≤1000:=fun p hp=>by
 unfold overG at hp
 simp only [List.mem_cons,List.not_mem_nil,or_false] at hp
 rcases hp with rfl|rfl
 ·exact ⟨by show pathK.length≤1000;decide,by show x.length≤1000;omega⟩
 ·exact ⟨by show unameK.length≤1000;decide,by show rootL.length≤1000;decide⟩
theorem over_right (e:EntL) (hd:e.data.length≤10000) (s:List UInt8) (hl:s.length≤30000) (hS:eWriteF 2 e=(s,0)) (x:List UInt8) (hx:x≠[]) (h1:x.length≤100) (hw:rightE (wantE e x)=true) (g:Nat) (w:World) (hG:Px.PairsAt w (some ⟨g,0,none⟩) (overG x)) (hL:Laid w) (hE:ErrLaid w) :
  Calls Tryz.prog 22 #[.string (mkS s),.int .i64 0,.slice (some ⟨g,0,none⟩) 2 2] w fun r W=>∃ ad cap a2 c2,r=.returned (.tuple #[entV (wantE e x) (.slice ad e.map.length cap),.int .i64 (s.length:Nat),.slice a2 2 c2,.nilIface])∧PiecesAt W ad e.map∧Px.PairsAt W a2 (overG x)∧Below w.heap.size w W:=by
 refine (eread_any s 0 (.slice (some ⟨g,0,none⟩) 2 2) (overG x) hl (by omega) w (by simp [overG]) (over_len x h1) ⟨_,2,rfl,(fun h=>by cases h),hG⟩ hL hE).mono fun r W ⟨q,hq,hB,ho⟩=>?_
 have hu:=hq.unique (over_back hd hS hx hw)
 subst hu
 rcases ho with ⟨k,h1,_⟩|⟨k,p',pb,h1,_⟩|⟨e',a,G,v,gv,h1,h2,⟨ad,cap,h3,_,h4,_⟩,_,_,⟨ad2,cap2,h5,_,h6⟩⟩
 ·cases h1
 ·cases h1
 ·injection h1 with e1 e2 e3
  subst e1 e2 e3 h3 h5
  exact ⟨ad,cap,ad2,cap2,h2,h4,h6,hB⟩
theorem over_any (s:List UInt8) (hl:s.length≤30000) (x:List UInt8) (h1:x.length≤100) (g:Nat) (w:World) (hG:Px.PairsAt w (some ⟨g,0,none⟩) (overG x)) (hL:Laid w) (hE:ErrLaid w) :
  Calls Tryz.prog 22 #[.string (mkS s),.int .i64 0,.slice (some ⟨g,0,none⟩) 2 2] w fun r W=>∃ m va vn vc n h E,r=.returned (.tuple #[entV m (.slice va vn vc),.int .i64 n,h,E])∧Below w.heap.size w W:=by
 refine (eread_any s 0 (.slice (some ⟨g,0,none⟩) 2 2) (overG x) hl (by omega) w (by simp [overG]) (over_len x h1) ⟨_,2,rfl,(fun h=>by cases h),hG⟩ hL hE).mono fun r W ⟨q,hq,hB,ho⟩=>?_
 rcases ho with ⟨k,_,_,h1⟩|⟨k,p',pb,_,_,h1,_⟩|⟨e',a,G,v,gv,_,h2,⟨va,vc,hv,_⟩,_⟩
 ·exact ⟨zeroE,_,_,_,_,_,_,h1,hB⟩
 ·exact ⟨zeroE,_,_,_,_,_,_,h1,hB⟩
 ·subst hv
  exact ⟨e',_,_,_,_,_,_,h2,hB⟩
set_option maxRecDepth 100000 in
set_option maxHeartbeats 8000000 in
theorem over_t (e:EntL) (ad:Option Addr) (cap:Nat) (ho:EntOk e) (hc:e.map.length≤cap) (x:List UInt8) (z:(mkS x).size≤reachBytes) (w:World) (hM:PiecesAt w ad e.map) (hg:ErrLaid w) (hp:Px.PowLaid w) (ha:Px.AtoiLaid w) (hL:∀ w,Calls Tryz.prog 18 #[entV e (.slice ad e.map.length cap)] w fun r w'=>r=.returned (.bool true)∧Below w.heap.size w w') :
  Calls Tryz.prog 8 #[entV e (.slice ad e.map.length cap),.string (mkS x)] w fun r w'=>r=.returned (.bool true)∧Below w.heap.size w w':=by
 have hr:=reachBytes_lt
 have sx:=mkS_size x
 have hE0:=EntAt.new w e (.slice ad e.map.length cap) 26
 have hB0:=Lib.hid (below_alloc1 w (.cells (entC e (.slice ad e.map.length cap)) 26))
 have hEc0:=Lib.hid hE0
 have HM:=Lib.hid (fun W (h:Below w.heap.size w W)=>hM.below h)
 have KT:=Lib.hid (fun W (h:Below w.heap.size w W)=>told_any W (hp.below h) ⟨hp.below h,ha.below h⟩ (hg.below h))
 have KL:=Lib.hid (fun W (h:Below w.heap.size w W)=>hL W)
 have hx:(x.length:Int)≤9000000000000000000:=by rw [mkS_size] at z;omega
 clear hE0 hL
 unfold entC at hEc0 hB0
 unfold entV at KL ⊢
 clear hM hc ho hg hp ha z hr
 generalize e.map.length=n at *
 go_enter Tryz.func8,Tryz.ntmps8
 go_wp2_with (first
  |(go_at_call 17;(with_reducible refine (KT.out _ hB0.out).mono ?_);rintro r w1 ⟨rfl,h1⟩;have hB1:=Lib.hid (hB0.out.trans (h1.mono hB0.out.size));have hEc1:=Lib.hid (hEc0.out.below h1 hEc0.out.lt);clear h1;(try clear c0 c1 c2 c3 c4 c5 c6 c7 c8 c9 c10 c11 c12 c13 c14);obtain ⟨c0,c1,c2,c3,c4,c5,c6,c7,c8,c9,c10,c11,c12,c13,c14⟩:=id hEc1.out)
  |(go_at_call 18;(with_reducible refine (KL.out _ hB1.out).mono ?_);rintro r w2 ⟨rfl,h2⟩;have hB2:=Lib.hid (hB1.out.trans (h2.mono hB1.out.size));have hEc2:=Lib.hid (hEc1.out.below h2 hEc1.out.lt);clear h2;(try clear c0 c1 c2 c3 c4 c5 c6 c7 c8 c9 c10 c11 c12 c13 c14);obtain ⟨c0,c1,c2,c3,c4,c5,c6,c7,c8,c9,c10,c11,c12,c13,c14⟩:=id hEc2.out)
  | fail)
 go_ret
 exact ⟨rfl,hB2.out⟩
set_option maxRecDepth 100000 in
set_option maxHeartbeats 8000000 in
theorem over_long (e:EntL) (ad:Option Addr) (cap:Nat) (ho:EntOk e) (hc:e.map.length≤cap) (x:List UInt8) (z:(mkS x).size≤reachBytes) (w:World) (hM:PiecesAt w ad e.map) (hg:ErrLaid w) (hp:Px.PowLaid w) (ha:Px.AtoiLaid w) (hL:∀ w,Calls Tryz.prog 18 #[entV e (.slice ad e.map.length cap)] w fun r w'=>r=.returned (.bool false)∧Below w.heap.size w w') (h6:(100:Int)<(x.length:Int)) :
  Calls Tryz.prog 8 #[entV e (.slice ad e.map.length cap),.string (mkS x)] w fun r w'=>r=.returned (.bool true)∧Below w.heap.size w w':=by
 have hr:=reachBytes_lt
 have sx:=mkS_size x
 have hE0:=EntAt.new w e (.slice ad e.map.length cap) 26
 have hB0:=Lib.hid (below_alloc1 w (.cells (entC e (.slice ad e.map.length cap)) 26))
 have hEc0:=Lib.hid hE0
 have HM:=Lib.hid (fun W (h:Below w.heap.size w W)=>hM.below h)
 have KT:=Lib.hid (fun W (h:Below w.heap.size w W)=>told_any W (hp.below h) ⟨hp.below h,ha.below h⟩ (hg.below h))
 have KL:=Lib.hid (fun W (h:Below w.heap.size w W)=>hL W)
 have hx:(x.length:Int)≤9000000000000000000:=by rw [mkS_size] at z;omega
 clear hE0 hL
 unfold entC at hEc0 hB0
 unfold entV at KL ⊢
 clear hM hc ho hg hp ha z hr
 generalize e.map.length=n at *
 go_enter Tryz.func8,Tryz.ntmps8
 go_wp2_with (first
  |(go_at_call 17;(with_reducible refine (KT.out _ hB0.out).mono ?_);rintro r w1 ⟨rfl,h1⟩;have hB1:=Lib.hid (hB0.out.trans (h1.mono hB0.out.size));have hEc1:=Lib.hid (hEc0.out.below h1 hEc0.out.lt);clear h1;(try clear c0 c1 c2 c3 c4 c5 c6 c7 c8 c9 c10 c11 c12 c13 c14);obtain ⟨c0,c1,c2,c3,c4,c5,c6,c7,c8,c9,c10,c11,c12,c13,c14⟩:=id hEc1.out)
  |(go_at_call 18;(with_reducible refine (KL.out _ hB1.out).mono ?_);rintro r w2 ⟨rfl,h2⟩;have hB2:=Lib.hid (hB1.out.trans (h2.mono hB1.out.size));have hEc2:=Lib.hid (hEc1.out.below h2 hEc1.out.lt);clear h2;(try clear c0 c1 c2 c3 c4 c5 c6 c7 c8 c9 c10 c11 c12 c13 c14);obtain ⟨c0,c1,c2,c3,c4,c5,c6,c7,c8,c9,c10,c11,c12,c13,c14⟩:=id hEc2.out)
  | fail)
 go_ret
 exact ⟨rfl,hB2.out⟩
set_option maxRecDepth 100000 in
set_option maxHeartbeats 8000000 in
theorem over_nil (e:EntL) (ad:Option Addr) (cap:Nat) (ho:EntOk e) (hc:e.map.length≤cap) (x:List UInt8) (z:(mkS x).size≤reachBytes) (w:World) (hM:PiecesAt w ad e.map) (hg:ErrLaid w) (hp:Px.PowLaid w) (ha:Px.AtoiLaid w) (hL:∀ w,Calls Tryz.prog 18 #[entV e (.slice ad e.map.length cap)] w fun r w'=>r=.returned (.bool false)∧Below w.heap.size w w') (h6:¬ (100:Int)<(x.length:Int)) (hx0:x=[]) :
  Calls Tryz.prog 8 #[entV e (.slice ad e.map.length cap),.string (mkS x)] w fun r w'=>r=.returned (.bool true)∧Below w.heap.size w w':=by
 have hr:=reachBytes_lt
 have sx:=mkS_size x
 have hE0:=EntAt.new w e (.slice ad e.map.length cap) 26
 have hB0:=Lib.hid (below_alloc1 w (.cells (entC e (.slice ad e.map.length cap)) 26))
 have hEc0:=Lib.hid hE0
 have HM:=Lib.hid (fun W (h:Below w.heap.size w W)=>hM.below h)
 have KT:=Lib.hid (fun W (h:Below w.heap.size w W)=>told_any W (hp.below h) ⟨hp.below h,ha.below h⟩ (hg.below h))
 have KL:=Lib.hid (fun W (h:Below w.heap.size w W)=>hL W)
 have hx:(x.length:Int)≤9000000000000000000:=by rw [mkS_size] at z;omega
 clear hE0 hL
 have q0:((mkS x).toList==(ByteArray.toList { data:=#[] }))=true:=by rw [show ({ data:=#[] }:ByteArray)=mkS [] from rfl,textE_beq];exact decide_eq_true hx0
 have q0':((mkS x).toList==[])=true:=by rw [ByteArray.toList_eq,mkS_list];simpa using hx0
 unfold entC at hEc0 hB0
 unfold entV at KL ⊢
 clear hM hc ho hg hp ha z hr hx0
 generalize e.map.length=n at *
 go_enter Tryz.func8,Tryz.ntmps8
 go_wp2_with (first
  |(go_at_call 17;(with_reducible refine (KT.out _ hB0.out).mono ?_);rintro r w1 ⟨rfl,h1⟩;have hB1:=Lib.hid (hB0.out.trans (h1.mono hB0.out.size));have hEc1:=Lib.hid (hEc0.out.below h1 hEc0.out.lt);clear h1;(try clear c0 c1 c2 c3 c4 c5 c6 c7 c8 c9 c10 c11 c12 c13 c14);obtain ⟨c0,c1,c2,c3,c4,c5,c6,c7,c8,c9,c10,c11,c12,c13,c14⟩:=id hEc1.out)
  |(go_at_call 18;(with_reducible refine (KL.out _ hB1.out).mono ?_);rintro r w2 ⟨rfl,h2⟩;have hB2:=Lib.hid (hB1.out.trans (h2.mono hB1.out.size));have hEc2:=Lib.hid (hEc1.out.below h2 hEc1.out.lt);clear h2;(try clear c0 c1 c2 c3 c4 c5 c6 c7 c8 c9 c10 c11 c12 c13 c14);obtain ⟨c0,c1,c2,c3,c4,c5,c6,c7,c8,c9,c10,c11,c12,c13,c14⟩:=id hEc2.out)
  | fail)
 go_ret
 exact ⟨rfl,hB2.out⟩
set_option maxRecDepth 100000 in
set_option maxHeartbeats 8000000 in
theorem over_k (e:EntL) (ad:Option Addr) (cap:Nat) (ho:EntOk e) (hc:e.map.length≤cap) (x:List UInt8) (z:(mkS x).size≤reachBytes) (w:World) (hM:PiecesAt w ad e.map) (hg:ErrLaid w) (hp:Px.PowLaid w) (ha:Px.AtoiLaid w) (hL:∀ w,Calls Tryz.prog 18 #[entV e (.slice ad e.map.length cap)] w fun r w'=>r=.returned (.bool false)∧Below w.heap.size w w') (h6:¬ (100:Int)<(x.length:Int)) (hx0:x≠[]) (hs:Small e) (s:List UInt8) (k:Int) (hS:eWriteF 2 e=(s,k)) (hk:k≠0) :
  Calls Tryz.prog 8 #[entV e (.slice ad e.map.length cap),.string (mkS x)] w fun r w'=>r=.returned (.bool true)∧Below w.heap.size w w':=by
 have hr:=reachBytes_lt
 have sx:=mkS_size x
 have hE0:=EntAt.new w e (.slice ad e.map.length cap) 26
 have hB0:=Lib.hid (below_alloc1 w (.cells (entC e (.slice ad e.map.length cap)) 26))
 have hEc0:=Lib.hid hE0
 have HM:=Lib.hid (fun W (h:Below w.heap.size w W)=>hM.below h)
 have KT:=Lib.hid (fun W (h:Below w.heap.size w W)=>told_any W (hp.below h) ⟨hp.below h,ha.below h⟩ (hg.below h))
 have KL:=Lib.hid (fun W (h:Below w.heap.size w W)=>hL W)
 have hx:(x.length:Int)≤9000000000000000000:=by rw [mkS_size] at z;omega
 clear hE0 hL
 have q0:((mkS x).toList==(ByteArray.toList { data:=#[] }))=false:=by rw [show ({ data:=#[] }:ByteArray)=mkS [] from rfl,textE_beq];exact decide_eq_false hx0
 have q0':((mkS x).toList==[])=false:=by rw [ByteArray.toList_eq,mkS_list];simpa using hx0
 have KW:=Lib.hid (fun W (h:Below w.heap.size w W)=>memWrite_all 2 e ad cap ho hs hc W (hp.below h) (HM.out W h))
 rw [hS] at KW
 dsimp only at KW
 have s0:=mkS_size s
 obtain ⟨v,hv⟩:=errV_nz hk
 rw [hv] at KW
 unfold entC at hEc0 hB0
 unfold entV at KL KW ⊢
 clear hM hc ho hg hp ha z hr hs hS hv hk hx0
 generalize e.map.length=n at *
 go_enter Tryz.func8,Tryz.ntmps8
 go_wp2_with (first
  |(go_at_call 17;(with_reducible refine (KT.out _ hB0.out).mono ?_);rintro r w1 ⟨rfl,h1⟩;have hB1:=Lib.hid (hB0.out.trans (h1.mono hB0.out.size));have hEc1:=Lib.hid (hEc0.out.below h1 hEc0.out.lt);clear h1;(try clear c0 c1 c2 c3 c4 c5 c6 c7 c8 c9 c10 c11 c12 c13 c14);obtain ⟨c0,c1,c2,c3,c4,c5,c6,c7,c8,c9,c10,c11,c12,c13,c14⟩:=id hEc1.out)
  |(go_at_call 18;(with_reducible refine (KL.out _ hB1.out).mono ?_);rintro r w2 ⟨rfl,h2⟩;have hB2:=Lib.hid (hB1.out.trans (h2.mono hB1.out.size));have hEc2:=Lib.hid (hEc1.out.below h2 hEc1.out.lt);clear h2;(try clear c0 c1 c2 c3 c4 c5 c6 c7 c8 c9 c10 c11 c12 c13 c14);obtain ⟨c0,c1,c2,c3,c4,c5,c6,c7,c8,c9,c10,c11,c12,c13,c14⟩:=id hEc2.out)
  |(go_at_call 20;(with_reducible refine (KW.out _ hB2.out).mono ?_);rintro r w3 ⟨rfl,h3⟩;have hB3:=Lib.hid (hB2.out.trans (h3.mono hB2.out.size));have hEc3:=Lib.hid (hEc2.out.below h3 hEc2.out.lt);clear h3;(try clear c0 c1 c2 c3 c4 c5 c6 c7 c8 c9 c10 c11 c12 c13 c14);obtain ⟨c0,c1,c2,c3,c4,c5,c6,c7,c8,c9,c10,c11,c12,c13,c14⟩:=id hEc3.out)
  | fail)
 go_ret
 exact ⟨rfl,hB3.out⟩
set_option maxRecDepth 100000 in
set_option maxHeartbeats 8000000 in
theorem over_dir_w (e:EntL) (ad:Option Addr) (cap:Nat) (ho:EntOk e) (hc:e.map.length≤cap) (x:List UInt8) (z:(mkS x).size≤reachBytes) (w:World) (hM:PiecesAt w ad e.map) (hg:ErrLaid w) (hp:Px.PowLaid w) (ha:Px.AtoiLaid w) (hL:∀ w,Calls Tryz.prog 18 #[entV e (.slice ad e.map.length cap)] w fun r w'=>r=.returned (.bool false)∧Below w.heap.size w w') (h6:¬ (100:Int)<(x.length:Int)) (hx0:x≠[]) (hs:Small e) (s:List UInt8) (hS:eWriteF 2 e=(s,0)) (hk:e.kind=53) (hw:rightE (wantE e x)=false) :
  Calls Tryz.prog 8 #[entV e (.slice ad e.map.length cap),.string (mkS x)] w fun r w'=>r=.returned (.bool true)∧Below w.heap.size w w':=by
 have hr:=reachBytes_lt
 have sx:=mkS_size x
 have hE0:=EntAt.new w e (.slice ad e.map.length cap) 26
 have hB0:=Lib.hid (below_alloc1 w (.cells (entC e (.slice ad e.map.length cap)) 26))
 have hEc0:=Lib.hid hE0
 have HM:=Lib.hid (fun W (h:Below w.heap.size w W)=>hM.below h)
 have KT:=Lib.hid (fun W (h:Below w.heap.size w W)=>told_any W (hp.below h) ⟨hp.below h,ha.below h⟩ (hg.below h))
 have KL:=Lib.hid (fun W (h:Below w.heap.size w W)=>hL W)
 have hx:(x.length:Int)≤9000000000000000000:=by rw [mkS_size] at z;omega
 clear hE0 hL
 have q0:((mkS x).toList==(ByteArray.toList { data:=#[] }))=false:=by rw [show ({ data:=#[] }:ByteArray)=mkS [] from rfl,textE_beq];exact decide_eq_false hx0
 have q0':((mkS x).toList==[])=false:=by rw [ByteArray.toList_eq,mkS_list];simpa using hx0
 have KW:=Lib.hid (fun W (h:Below w.heap.size w W)=>memWrite_all 2 e ad cap ho hs hc W (hp.below h) (HM.out W h))
 rw [hS] at KW
 dsimp only at KW
 have s0:=mkS_size s
 rw [errV_z] at KW
 have hd:=hs.data
 have hml:=hs.map
 have hsl:=(write_blocks hs hS).2
 have hl:=fun W=>run_lit_over x W
 have hwE:∀ nm:List UInt8,nm.length≤x.length→EntOk { e with name:=nm,user:=rootL }:=fun nm h=>⟨ho.ints,⟨by rw [mkS_size] at z;show nm.length≤reachBytes;omega,ho.texts.2.1,by show (4:Nat)≤reachBytes;decide,ho.texts.2.2.2.1,ho.texts.2.2.2.2⟩,ho.map,ho.fits⟩
 have hwant:wantE e x={ e with name:=Lib.trimRightB x 47,user:=rootL }:=by unfold wantE;rw [if_pos hk]
 have KR:=Lib.hid (fun (g:Nat) W (h:Below w.heap.size w W) hG=>over_any s (by omega) x (by omega) g W hG ⟨hp.below h,ha.below h⟩ (hg.below h))
 have KI:=Lib.hid (fun W (h:Below w.heap.size w W)=>rightM_any { e with name:=(Lib.trimRightB x 47),user:=rootL } ad cap (hwE (Lib.trimRightB x 47) (trimRB_len x 47)) W (HM.out W h))
 rw [← hwant,hw] at KI
 rw [hwant] at KI
 have KD:=Lib.hid (fun w=>trimSl_any x w (by omega))
 generalize Lib.trimRightB x 47=y at *
 have q53:((e.kind.toNat:Int)==53)=true:=by rw [show (53:Int)=((53:UInt8).toNat:Int) from rfl,kindE_beq];exact decide_eq_true hk
 have q48:((e.kind.toNat:Int)==48)=false:=by rw [show (48:Int)=((48:UInt8).toNat:Int) from rfl,kindE_beq];exact decide_eq_false (by rw [hk];decide)
 unfold entC at hEc0 hB0
 unfold entV at KL KW KI ⊢
 clear hM hc ho hg hp ha z hr hs hS hd hml hk hw hwant hx0 hwE hsl HM
 generalize e.map.length=n at *
 dsimp only at KI
 simp only [show mkS rootL={ data:=#[114,111,111,116] } from rfl] at KI
 go_enter Tryz.func8,Tryz.ntmps8
 go_upto_region 9 with (first
   |(go_at_call 17;(with_reducible refine (KT.out _ hB0.out).mono ?_);rintro r w1 ⟨rfl,h1⟩;have hB1:=Lib.hid (hB0.out.trans (h1.mono hB0.out.size));have hEc1:=Lib.hid (hEc0.out.below h1 hEc0.out.lt);clear h1;(try clear c0 c1 c2 c3 c4 c5 c6 c7 c8 c9 c10 c11 c12 c13 c14);obtain ⟨c0,c1,c2,c3,c4,c5,c6,c7,c8,c9,c10,c11,c12,c13,c14⟩:=id hEc1.out)
   |(go_at_call 18;(with_reducible refine (KL.out _ hB1.out).mono ?_);rintro r w2 ⟨rfl,h2⟩;have hB2:=Lib.hid (hB1.out.trans (h2.mono hB1.out.size));have hEc2:=Lib.hid (hEc1.out.below h2 hEc1.out.lt);clear h2;(try clear c0 c1 c2 c3 c4 c5 c6 c7 c8 c9 c10 c11 c12 c13 c14);obtain ⟨c0,c1,c2,c3,c4,c5,c6,c7,c8,c9,c10,c11,c12,c13,c14⟩:=id hEc2.out)
   |(go_at_call 20;(with_reducible refine (KW.out _ hB2.out).mono ?_);rintro r w3 ⟨rfl,h3⟩;have hB3:=Lib.hid (hB2.out.trans (h3.mono hB2.out.size));have hEc3:=Lib.hid (hEc2.out.below h3 hEc2.out.lt);clear h3;(try clear c0 c1 c2 c3 c4 c5 c6 c7 c8 c9 c10 c11 c12 c13 c14);obtain ⟨c0,c1,c2,c3,c4,c5,c6,c7,c8,c9,c10,c11,c12,c13,c14⟩:=id hEc3.out)
   | fail)
 have hbl:=(Below.refl w3.heap.size w3).alloc (Nat.le_refl _) (.cells #[.string { data:=#[112,97,116,104] },.string (mkS x),.string { data:=#[117,110,97,109,101] },.string { data:=#[114,111,111,116] }] 43)
 have hB8:=Lib.hid (hB3.out.trans (hbl.mono hB3.out.size))
 have hEc8:=Lib.hid (hEc3.out.below hbl hEc3.out.lt)
 have hG8:=Lib.hid (pairs_lit x w3)
 clear hbl c0 c1 c2 c3 c4 c5 c6 c7 c8 c9 c10 c11 c12 c13 c14 hl
 generalize World.alloc w3 _=W8 at hB8 hEc8 hG8 ⊢
 generalize w3.heap.size=g at hG8 ⊢
 obtain ⟨c0,c1,c2,c3,c4,c5,c6,c7,c8,c9,c10,c11,c12,c13,c14⟩:=id hEc8.out
 go_upto_region 10 with (first
   |(go_at_call 22;(with_reducible refine (KR.out _ _ hB8.out hG8.out).mono ?_);rintro r w9 ⟨m,va,vn,vc,n2,hv,E,rfl,h9⟩;have hbl:=(Below.refl w9.heap.size w9).alloc (Nat.le_refl _) (.cells (entC m (.slice va vn vc)) 26);have hb9:=hB8.out.trans (h9.mono hB8.out.size);have hB9:=Lib.hid (hb9.trans (hbl.mono hb9.size));have he9:=hEc8.out.below h9 hEc8.out.lt;have hEc9:=Lib.hid (he9.below hbl he9.lt);have hG9:=Lib.hid ((hG8.out.below h9).below hbl);clear c0 c1 c2 c3 c4 c5 c6 c7 c8 c9 c10 c11 c12 c13 c14 hbl hb9 h9 he9;unfold entC at hB9 hEc9 hG9;unfold entV)
   | fail)
 generalize World.alloc w9 _=W9 at hB9 hEc9 hG9 ⊢
 obtain ⟨c0,c1,c2,c3,c4,c5,c6,c7,c8,c9,c10,c11,c12,c13,c14⟩:=id hEc9.out
 go_upto_region 12 with fail
 have hw12:=Lib.hid (heap_alloc_new W9 (.cells #[.string (mkS x),.int .u8 (e.kind.toNat:Int),.int .i64 e.mode,.int .i64 e.uid,.int .i64 e.gid,.int .i64 e.size,.int .i64 e.sec,.int .i64 e.nano,.string (mkS e.link),.string { data:=#[114,111,111,116] },.string (mkS e.group),.int .i64 e.major,.int .i64 e.minor,.string (mkS e.data),.slice ad n cap] 26))
 have hbl:=Lib.hid ((Below.refl W9.heap.size W9).alloc (Nat.le_refl _) (.cells #[.string (mkS x),.int .u8 (e.kind.toNat:Int),.int .i64 e.mode,.int .i64 e.uid,.int .i64 e.gid,.int .i64 e.size,.int .i64 e.sec,.int .i64 e.nano,.string (mkS e.link),.string { data:=#[114,111,111,116] },.string (mkS e.group),.int .i64 e.major,.int .i64 e.minor,.string (mkS e.data),.slice ad n cap] 26))
 clear c0 c1 c2 c3 c4 c5 c6 c7 c8 c9 c10 c11 c12 c13 c14
 generalize World.alloc W9 _=W12 at hbl hw12 ⊢
 have hEc12:=Lib.hid (hEc9.out.below hbl.out hEc9.out.lt)
 obtain ⟨c0,c1,c2,c3,c4,c5,c6,c7,c8,c9,c10,c11,c12,c13,c14⟩:=id hEc12.out
 have f0:=row_free hw12.out 0
 have k0:=row_cell hw12.out 0 _ rfl
 go_upto_region 14 with (first
   |(go_at_call 24;(with_reducible refine (KD.out _).mono ?_);rintro r w13 ⟨rfl,h13⟩;replace h13:=h13.symm;subst h13)
   | fail)
 have r1:=setCell_row (i:=0) (v:=.string (mkS y)) hw12.out
 have hbl2:=Lib.hid (r1.2 W9.heap.size (Nat.le_refl _) W9 hbl.out)
 have hw14:_=some (Obj.cells (#[.string (mkS y),.int .u8 (e.kind.toNat:Int),.int .i64 e.mode,.int .i64 e.uid,.int .i64 e.gid,.int .i64 e.size,.int .i64 e.sec,.int .i64 e.nano,.string (mkS e.link),.string { data:=#[114,111,111,116] },.string (mkS e.group),.int .i64 e.major,.int .i64 e.minor,.string (mkS e.data),.slice ad n cap]:Array Value) 26 (0,0)):=r1.1
 replace hw14:=Lib.hid hw14
 clear r1 hw12 hEc12 hbl f0 k0 c0 c1 c2 c3 c4 c5 c6 c7 c8 c9 c10 c11 c12 c13 c14
 generalize World.setCell W12 _ _=W14 at hbl2 hw14 ⊢
 have hB14:=Lib.hid (hB9.out.trans (hbl2.out.mono hB9.out.size))
 have hEc14:=Lib.hid (hEc9.out.below hbl2.out hEc9.out.lt)
 have hG14:=Lib.hid (hG9.out.below hbl2.out)
 clear hbl2 hB9 hEc9 hG9
 generalize W9.heap.size=cb at hw14 ⊢
 obtain ⟨c0,c1,c2,c3,c4,c5,c6,c7,c8,c9,c10,c11,c12,c13,c14⟩:=id hEc14.out
 obtain ⟨k0,k1,k2,k3,k4,k5,k6,k7,k8,k9,k10,k11,k12,k13,k14⟩:=row15 hw14.out
 go_wp2_with (first
   |(go_at_call 23;(with_reducible refine (KI.out _ hB14.out).mono ?_);rintro r w15 ⟨rfl,h15⟩;have hB15:=Lib.hid (hB14.out.trans (h15.mono hB14.out.size));have hEc15:=Lib.hid (hEc14.out.below h15 hEc14.out.lt);have hw15:=Lib.hid ((h15.block _ (Array.getElem?_eq_some_iff.1 hw14.out).1).trans hw14.out);clear h15 c0 c1 c2 c3 c4 c5 c6 c7 c8 c9 c10 c11 c12 c13 c14 k0 k1 k2 k3 k4 k5 k6 k7 k8 k9 k10 k11 k12 k13 k14 ;obtain ⟨c0,c1,c2,c3,c4,c5,c6,c7,c8,c9,c10,c11,c12,c13,c14⟩:=id hEc15.out;obtain ⟨k0,k1,k2,k3,k4,k5,k6,k7,k8,k9,k10,k11,k12,k13,k14⟩:=row15 hw15.out)
   | fail)
 go_ret
 exact ⟨by first|rfl|simp,hB15.out⟩
set_option maxRecDepth 100000 in
set_option maxHeartbeats 8000000 in
theorem over_file_w (e:EntL) (ad:Option Addr) (cap:Nat) (ho:EntOk e) (hc:e.map.length≤cap) (x:List UInt8) (z:(mkS x).size≤reachBytes) (w:World) (hM:PiecesAt w ad e.map) (hg:ErrLaid w) (hp:Px.PowLaid w) (ha:Px.AtoiLaid w) (hL:∀ w,Calls Tryz.prog 18 #[entV e (.slice ad e.map.length cap)] w fun r w'=>r=.returned (.bool false)∧Below w.heap.size w w') (h6:¬ (100:Int)<(x.length:Int)) (hx0:x≠[]) (hs:Small e) (s:List UInt8) (hS:eWriteF 2 e=(s,0)) (hk:e.kind=48) (hw:rightE (wantE e x)=false) :
  Calls Tryz.prog 8 #[entV e (.slice ad e.map.length cap),.string (mkS x)] w fun r w'=>r=.returned (.bool true)∧Below w.heap.size w w':=by
 have hr:=reachBytes_lt
 have sx:=mkS_size x
 have hE0:=EntAt.new w e (.slice ad e.map.length cap) 26
 have hB0:=Lib.hid (below_alloc1 w (.cells (entC e (.slice ad e.map.length cap)) 26))
 have hEc0:=Lib.hid hE0
 have HM:=Lib.hid (fun W (h:Below w.heap.size w W)=>hM.below h)
 have KT:=Lib.hid (fun W (h:Below w.heap.size w W)=>told_any W (hp.below h) ⟨hp.below h,ha.below h⟩ (hg.below h))
 have KL:=Lib.hid (fun W (h:Below w.heap.size w W)=>hL W)
 have hx:(x.length:Int)≤9000000000000000000:=by rw [mkS_size] at z;omega
 clear hE0 hL
 have q0:((mkS x).toList==(ByteArray.toList { data:=#[] }))=false:=by rw [show ({ data:=#[] }:ByteArray)=mkS [] from rfl,textE_beq];exact decide_eq_false hx0
 have q0':((mkS x).toList==[])=false:=by rw [ByteArray.toList_eq,mkS_list];simpa using hx0
 have KW:=Lib.hid (fun W (h:Below w.heap.size w W)=>memWrite_all 2 e ad cap ho hs hc W (hp.below h) (HM.out W h))
 rw [hS] at KW
 dsimp only at KW
 have s0:=mkS_size s
 rw [errV_z] at KW
 have hd:=hs.data
 have hml:=hs.map
 have hsl:=(write_blocks hs hS).2
 have hl:=fun W=>run_lit_over x W
 have hwE:∀ nm:List UInt8,nm.length≤x.length→EntOk { e with name:=nm,user:=rootL }:=fun nm h=>⟨ho.ints,⟨by rw [mkS_size] at z;show nm.length≤reachBytes;omega,ho.texts.2.1,by show (4:Nat)≤reachBytes;decide,ho.texts.2.2.2.1,ho.texts.2.2.2.2⟩,ho.map,ho.fits⟩
 have hwant:wantE e x={ e with name:=x,user:=rootL }:=by unfold wantE;rw [if_neg (by rw [hk];decide)]
 have KR:=Lib.hid (fun (g:Nat) W (h:Below w.heap.size w W) hG=>over_any s (by omega) x (by omega) g W hG ⟨hp.below h,ha.below h⟩ (hg.below h))
 have KI:=Lib.hid (fun W (h:Below w.heap.size w W)=>rightM_any { e with name:=x,user:=rootL } ad cap (hwE x (Nat.le_refl _)) W (HM.out W h))
 rw [← hwant,hw] at KI
 rw [hwant] at KI
 have q53:((e.kind.toNat:Int)==53)=false:=by rw [show (53:Int)=((53:UInt8).toNat:Int) from rfl,kindE_beq];exact decide_eq_false (by rw [hk];decide)
 have q48:((e.kind.toNat:Int)==48)=true:=by rw [show (48:Int)=((48:UInt8).toNat:Int) from rfl,kindE_beq];exact decide_eq_true hk
 unfold entC at hEc0 hB0
 unfold entV at KL KW KI ⊢
 clear hM hc ho hg hp ha z hr hs hS hd hml hk hw hwant hx0 hwE hsl HM
 generalize e.map.length=n at *
 dsimp only at KI
 simp only [show mkS rootL={ data:=#[114,111,111,116] } from rfl] at KI
 go_enter Tryz.func8,Tryz.ntmps8
 go_upto_region 9 with (first
   |(go_at_call 17;(with_reducible refine (KT.out _ hB0.out).mono ?_);rintro r w1 ⟨rfl,h1⟩;have hB1:=Lib.hid (hB0.out.trans (h1.mono hB0.out.size));have hEc1:=Lib.hid (hEc0.out.below h1 hEc0.out.lt);clear h1;(try clear c0 c1 c2 c3 c4 c5 c6 c7 c8 c9 c10 c11 c12 c13 c14);obtain ⟨c0,c1,c2,c3,c4,c5,c6,c7,c8,c9,c10,c11,c12,c13,c14⟩:=id hEc1.out)
   |(go_at_call 18;(with_reducible refine (KL.out _ hB1.out).mono ?_);rintro r w2 ⟨rfl,h2⟩;have hB2:=Lib.hid (hB1.out.trans (h2.mono hB1.out.size));have hEc2:=Lib.hid (hEc1.out.below h2 hEc1.out.lt);clear h2;(try clear c0 c1 c2 c3 c4 c5 c6 c7 c8 c9 c10 c11 c12 c13 c14);obtain ⟨c0,c1,c2,c3,c4,c5,c6,c7,c8,c9,c10,c11,c12,c13,c14⟩:=id hEc2.out)
   |(go_at_call 20;(with_reducible refine (KW.out _ hB2.out).mono ?_);rintro r w3 ⟨rfl,h3⟩;have hB3:=Lib.hid (hB2.out.trans (h3.mono hB2.out.size));have hEc3:=Lib.hid (hEc2.out.below h3 hEc2.out.lt);clear h3;(try clear c0 c1 c2 c3 c4 c5 c6 c7 c8 c9 c10 c11 c12 c13 c14);obtain ⟨c0,c1,c2,c3,c4,c5,c6,c7,c8,c9,c10,c11,c12,c13,c14⟩:=id hEc3.out)
   | fail)
 have hbl:=(Below.refl w3.heap.size w3).alloc (Nat.le_refl _) (.cells #[.string { data:=#[112,97,116,104] },.string (mkS x),.string { data:=#[117,110,97,109,101] },.string { data:=#[114,111,111,116] }] 43)
 have hB8:=Lib.hid (hB3.out.trans (hbl.mono hB3.out.size))
 have hEc8:=Lib.hid (hEc3.out.below hbl hEc3.out.lt)
 have hG8:=Lib.hid (pairs_lit x w3)
 clear hbl c0 c1 c2 c3 c4 c5 c6 c7 c8 c9 c10 c11 c12 c13 c14 hl
 generalize World.alloc w3 _=W8 at hB8 hEc8 hG8 ⊢
 generalize w3.heap.size=g at hG8 ⊢
 obtain ⟨c0,c1,c2,c3,c4,c5,c6,c7,c8,c9,c10,c11,c12,c13,c14⟩:=id hEc8.out
 go_upto_region 10 with (first
   |(go_at_call 22;(with_reducible refine (KR.out _ _ hB8.out hG8.out).mono ?_);rintro r w9 ⟨m,va,vn,vc,n2,hv,E,rfl,h9⟩;have hbl:=(Below.refl w9.heap.size w9).alloc (Nat.le_refl _) (.cells (entC m (.slice va vn vc)) 26);have hb9:=hB8.out.trans (h9.mono hB8.out.size);have hB9:=Lib.hid (hb9.trans (hbl.mono hb9.size));have he9:=hEc8.out.below h9 hEc8.out.lt;have hEc9:=Lib.hid (he9.below hbl he9.lt);have hG9:=Lib.hid ((hG8.out.below h9).below hbl);clear c0 c1 c2 c3 c4 c5 c6 c7 c8 c9 c10 c11 c12 c13 c14 hbl hb9 h9 he9;unfold entC at hB9 hEc9 hG9;unfold entV)
   | fail)
 generalize World.alloc w9 _=W9 at hB9 hEc9 hG9 ⊢
 obtain ⟨c0,c1,c2,c3,c4,c5,c6,c7,c8,c9,c10,c11,c12,c13,c14⟩:=id hEc9.out
 go_upto_region 12 with fail
 have hw12:=Lib.hid (heap_alloc_new W9 (.cells #[.string (mkS x),.int .u8 (e.kind.toNat:Int),.int .i64 e.mode,.int .i64 e.uid,.int .i64 e.gid,.int .i64 e.size,.int .i64 e.sec,.int .i64 e.nano,.string (mkS e.link),.string { data:=#[114,111,111,116] },.string (mkS e.group),.int .i64 e.major,.int .i64 e.minor,.string (mkS e.data),.slice ad n cap] 26))
 have hbl:=Lib.hid ((Below.refl W9.heap.size W9).alloc (Nat.le_refl _) (.cells #[.string (mkS x),.int .u8 (e.kind.toNat:Int),.int .i64 e.mode,.int .i64 e.uid,.int .i64 e.gid,.int .i64 e.size,.int .i64 e.sec,.int .i64 e.nano,.string (mkS e.link),.string { data:=#[114,111,111,116] },.string (mkS e.group),.int .i64 e.major,.int .i64 e.minor,.string (mkS e.data),.slice ad n cap] 26))
 clear c0 c1 c2 c3 c4 c5 c6 c7 c8 c9 c10 c11 c12 c13 c14
 generalize World.alloc W9 _=W12 at hbl hw12 ⊢
 have hB12:=Lib.hid (hB9.out.trans (hbl.out.mono hB9.out.size))
 have hEc12:=Lib.hid (hEc9.out.below hbl.out hEc9.out.lt)
 have hG12:=Lib.hid (hG9.out.below hbl.out)
 clear hbl hB9 hEc9 hG9
 generalize W9.heap.size=cb at hw12 ⊢
 obtain ⟨c0,c1,c2,c3,c4,c5,c6,c7,c8,c9,c10,c11,c12,c13,c14⟩:=id hEc12.out
 obtain ⟨k0,k1,k2,k3,k4,k5,k6,k7,k8,k9,k10,k11,k12,k13,k14⟩:=row15 hw12.out
 go_wp2_with (first
   |(go_at_call 23;(with_reducible refine (KI.out _ hB12.out).mono ?_);rintro r w15 ⟨rfl,h15⟩;have hB15:=Lib.hid (hB12.out.trans (h15.mono hB12.out.size));have hEc15:=Lib.hid (hEc12.out.below h15 hEc12.out.lt);have hw15:=Lib.hid ((h15.block _ (Array.getElem?_eq_some_iff.1 hw12.out).1).trans hw12.out);clear h15 c0 c1 c2 c3 c4 c5 c6 c7 c8 c9 c10 c11 c12 c13 c14 k0 k1 k2 k3 k4 k5 k6 k7 k8 k9 k10 k11 k12 k13 k14 ;obtain ⟨c0,c1,c2,c3,c4,c5,c6,c7,c8,c9,c10,c11,c12,c13,c14⟩:=id hEc15.out;obtain ⟨k0,k1,k2,k3,k4,k5,k6,k7,k8,k9,k10,k11,k12,k13,k14⟩:=row15 hw15.out)
   | fail)
 go_ret
 exact ⟨by first|rfl|simp,hB15.out⟩
set_option maxRecDepth 100000 in
set_option maxHeartbeats 8000000 in
theorem over_other_w (e:EntL) (ad:Option Addr) (cap:Nat) (ho:EntOk e) (hc:e.map.length≤cap) (x:List UInt8) (z:(mkS x).size≤reachBytes) (w:World) (hM:PiecesAt w ad e.map) (hg:ErrLaid w) (hp:Px.PowLaid w) (ha:Px.AtoiLaid w) (hL:∀ w,Calls Tryz.prog 18 #[entV e (.slice ad e.map.length cap)] w fun r w'=>r=.returned (.bool false)∧Below w.heap.size w w') (h6:¬ (100:Int)<(x.length:Int)) (hx0:x≠[]) (hs:Small e) (s:List UInt8) (hS:eWriteF 2 e=(s,0)) (hk:¬ e.kind=53) (hk2:¬ e.kind=48) (hw:rightE (wantE e x)=false) :
  Calls Tryz.prog 8 #[entV e (.slice ad e.map.length cap),.string (mkS x)] w fun r w'=>r=.returned (.bool true)∧Below w.heap.size w w':=by
 have hr:=reachBytes_lt
 have sx:=mkS_size x
 have hE0:=EntAt.new w e (.slice ad e.map.length cap) 26
 have hB0:=Lib.hid (below_alloc1 w (.cells (entC e (.slice ad e.map.length cap)) 26))
 have hEc0:=Lib.hid hE0
 have HM:=Lib.hid (fun W (h:Below w.heap.size w W)=>hM.below h)
 have KT:=Lib.hid (fun W (h:Below w.heap.size w W)=>told_any W (hp.below h) ⟨hp.below h,ha.below h⟩ (hg.below h))
 have KL:=Lib.hid (fun W (h:Below w.heap.size w W)=>hL W)
 have hx:(x.length:Int)≤9000000000000000000:=by rw [mkS_size] at z;omega
 clear hE0 hL
 have q0:((mkS x).toList==(ByteArray.toList { data:=#[] }))=false:=by rw [show ({ data:=#[] }:ByteArray)=mkS [] from rfl,textE_beq];exact decide_eq_false hx0
 have q0':((mkS x).toList==[])=false:=by rw [ByteArray.toList_eq,mkS_list];simpa using hx0
 have KW:=Lib.hid (fun W (h:Below w.heap.size w W)=>memWrite_all 2 e ad cap ho hs hc W (hp.below h) (HM.out W h))
 rw [hS] at KW
 dsimp only at KW
 have s0:=mkS_size s
 rw [errV_z] at KW
 have hd:=hs.data
 have hml:=hs.map
 have hsl:=(write_blocks hs hS).2
 have hl:=fun W=>run_lit_over x W
 have hwE:∀ nm:List UInt8,nm.length≤x.length→EntOk { e with name:=nm,user:=rootL }:=fun nm h=>⟨ho.ints,⟨by rw [mkS_size] at z;show nm.length≤reachBytes;omega,ho.texts.2.1,by show (4:Nat)≤reachBytes;decide,ho.texts.2.2.2.1,ho.texts.2.2.2.2⟩,ho.map,ho.fits⟩
 have hwant:wantE e x={ e with name:=x,user:=rootL }:=by unfold wantE;rw [if_neg hk]
 have KR:=Lib.hid (fun (g:Nat) W (h:Below w.heap.size w W) hG=>over_any s (by omega) x (by omega) g W hG ⟨hp.below h,ha.below h⟩ (hg.below h))
 have KI:=Lib.hid (fun W (h:Below w.heap.size w W)=>rightM_any { e with name:=x,user:=rootL } ad cap (hwE x (Nat.le_refl _)) W (HM.out W h))
 rw [← hwant,hw] at KI
 rw [hwant] at KI
 have q53:((e.kind.toNat:Int)==53)=false:=by rw [show (53:Int)=((53:UInt8).toNat:Int) from rfl,kindE_beq];exact decide_eq_false hk
 have q48:((e.kind.toNat:Int)==48)=false:=by rw [show (48:Int)=((48:UInt8).toNat:Int) from rfl,kindE_beq];exact decide_eq_false hk2
 unfold entC at hEc0 hB0
 unfold entV at KL KW KI ⊢
 clear hM hc ho hg hp ha z hr hs hS hd hml hk hw hwant hx0 hwE hsl HM hk2
 generalize e.map.length=n at *
 dsimp only at KI
 simp only [show mkS rootL={ data:=#[114,111,111,116] } from rfl] at KI
 go_enter Tryz.func8,Tryz.ntmps8
 go_upto_region 9 with (first
   |(go_at_call 17;(with_reducible refine (KT.out _ hB0.out).mono ?_);rintro r w1 ⟨rfl,h1⟩;have hB1:=Lib.hid (hB0.out.trans (h1.mono hB0.out.size));have hEc1:=Lib.hid (hEc0.out.below h1 hEc0.out.lt);clear h1;(try clear c0 c1 c2 c3 c4 c5 c6 c7 c8 c9 c10 c11 c12 c13 c14);obtain ⟨c0,c1,c2,c3,c4,c5,c6,c7,c8,c9,c10,c11,c12,c13,c14⟩:=id hEc1.out)
   |(go_at_call 18;(with_reducible refine (KL.out _ hB1.out).mono ?_);rintro r w2 ⟨rfl,h2⟩;have hB2:=Lib.hid (hB1.out.trans (h2.mono hB1.out.size));have hEc2:=Lib.hid (hEc1.out.below h2 hEc1.out.lt);clear h2;(try clear c0 c1 c2 c3 c4 c5 c6 c7 c8 c9 c10 c11 c12 c13 c14);obtain ⟨c0,c1,c2,c3,c4,c5,c6,c7,c8,c9,c10,c11,c12,c13,c14⟩:=id hEc2.out)
   |(go_at_call 20;(with_reducible refine (KW.out _ hB2.out).mono ?_);rintro r w3 ⟨rfl,h3⟩;have hB3:=Lib.hid (hB2.out.trans (h3.mono hB2.out.size));have hEc3:=Lib.hid (hEc2.out.below h3 hEc2.out.lt);clear h3;(try clear c0 c1 c2 c3 c4 c5 c6 c7 c8 c9 c10 c11 c12 c13 c14);obtain ⟨c0,c1,c2,c3,c4,c5,c6,c7,c8,c9,c10,c11,c12,c13,c14⟩:=id hEc3.out)
   | fail)
 have hbl:=(Below.refl w3.heap.size w3).alloc (Nat.le_refl _) (.cells #[.string { data:=#[112,97,116,104] },.string (mkS x),.string { data:=#[117,110,97,109,101] },.string { data:=#[114,111,111,116] }] 43)
 have hB8:=Lib.hid (hB3.out.trans (hbl.mono hB3.out.size))
 have hEc8:=Lib.hid (hEc3.out.below hbl hEc3.out.lt)
 have hG8:=Lib.hid (pairs_lit x w3)
 clear hbl c0 c1 c2 c3 c4 c5 c6 c7 c8 c9 c10 c11 c12 c13 c14 hl
 generalize World.alloc w3 _=W8 at hB8 hEc8 hG8 ⊢
 generalize w3.heap.size=g at hG8 ⊢
 obtain ⟨c0,c1,c2,c3,c4,c5,c6,c7,c8,c9,c10,c11,c12,c13,c14⟩:=id hEc8.out
 go_upto_region 10 with (first
   |(go_at_call 22;(with_reducible refine (KR.out _ _ hB8.out hG8.out).mono ?_);rintro r w9 ⟨m,va,vn,vc,n2,hv,E,rfl,h9⟩;have hbl:=(Below.refl w9.heap.size w9).alloc (Nat.le_refl _) (.cells (entC m (.slice va vn vc)) 26);have hb9:=hB8.out.trans (h9.mono hB8.out.size);have hB9:=Lib.hid (hb9.trans (hbl.mono hb9.size));have he9:=hEc8.out.below h9 hEc8.out.lt;have hEc9:=Lib.hid (he9.below hbl he9.lt);have hG9:=Lib.hid ((hG8.out.below h9).below hbl);clear c0 c1 c2 c3 c4 c5 c6 c7 c8 c9 c10 c11 c12 c13 c14 hbl hb9 h9 he9;unfold entC at hB9 hEc9 hG9;unfold entV)
   | fail)
 generalize World.alloc w9 _=W9 at hB9 hEc9 hG9 ⊢
 obtain ⟨c0,c1,c2,c3,c4,c5,c6,c7,c8,c9,c10,c11,c12,c13,c14⟩:=id hEc9.out
 go_upto_region 12 with fail
 have hw12:=Lib.hid (heap_alloc_new W9 (.cells #[.string (mkS x),.int .u8 (e.kind.toNat:Int),.int .i64 e.mode,.int .i64 e.uid,.int .i64 e.gid,.int .i64 e.size,.int .i64 e.sec,.int .i64 e.nano,.string (mkS e.link),.string { data:=#[114,111,111,116] },.string (mkS e.group),.int .i64 e.major,.int .i64 e.minor,.string (mkS e.data),.slice ad n cap] 26))
 have hbl:=Lib.hid ((Below.refl W9.heap.size W9).alloc (Nat.le_refl _) (.cells #[.string (mkS x),.int .u8 (e.kind.toNat:Int),.int .i64 e.mode,.int .i64 e.uid,.int .i64 e.gid,.int .i64 e.size,.int .i64 e.sec,.int .i64 e.nano,.string (mkS e.link),.string { data:=#[114,111,111,116] },.string (mkS e.group),.int .i64 e.major,.int .i64 e.minor,.string (mkS e.data),.slice ad n cap] 26))
 clear c0 c1 c2 c3 c4 c5 c6 c7 c8 c9 c10 c11 c12 c13 c14
 generalize World.alloc W9 _=W12 at hbl hw12 ⊢
 have hB12:=Lib.hid (hB9.out.trans (hbl.out.mono hB9.out.size))
 have hEc12:=Lib.hid (hEc9.out.below hbl.out hEc9.out.lt)
 have hG12:=Lib.hid (hG9.out.below hbl.out)
 clear hbl hB9 hEc9 hG9
 generalize W9.heap.size=cb at hw12 ⊢
 obtain ⟨c0,c1,c2,c3,c4,c5,c6,c7,c8,c9,c10,c11,c12,c13,c14⟩:=id hEc12.out
 obtain ⟨k0,k1,k2,k3,k4,k5,k6,k7,k8,k9,k10,k11,k12,k13,k14⟩:=row15 hw12.out
 go_wp2_with (first
   |(go_at_call 23;(with_reducible refine (KI.out _ hB12.out).mono ?_);rintro r w15 ⟨rfl,h15⟩;have hB15:=Lib.hid (hB12.out.trans (h15.mono hB12.out.size));have hEc15:=Lib.hid (hEc12.out.below h15 hEc12.out.lt);have hw15:=Lib.hid ((h15.block _ (Array.getElem?_eq_some_iff.1 hw12.out).1).trans hw12.out);clear h15 c0 c1 c2 c3 c4 c5 c6 c7 c8 c9 c10 c11 c12 c13 c14 k0 k1 k2 k3 k4 k5 k6 k7 k8 k9 k10 k11 k12 k13 k14 ;obtain ⟨c0,c1,c2,c3,c4,c5,c6,c7,c8,c9,c10,c11,c12,c13,c14⟩:=id hEc15.out;obtain ⟨k0,k1,k2,k3,k4,k5,k6,k7,k8,k9,k10,k11,k12,k13,k14⟩:=row15 hw15.out)
   | fail)
 go_ret
 exact ⟨by first|rfl|simp,hB15.out⟩
set_option maxRecDepth 100000 in
set_option maxHeartbeats 8000000 in
theorem over_dir_r (e:EntL) (ad:Option Addr) (cap:Nat) (ho:EntOk e) (hc:e.map.length≤cap) (x:List UInt8) (z:(mkS x).size≤reachBytes) (w:World) (hM:PiecesAt w ad e.map) (hg:ErrLaid w) (hp:Px.PowLaid w) (ha:Px.AtoiLaid w) (hL:∀ w,Calls Tryz.prog 18 #[entV e (.slice ad e.map.length cap)] w fun r w'=>r=.returned (.bool false)∧Below w.heap.size w w') (h6:¬ (100:Int)<(x.length:Int)) (hx0:x≠[]) (hs:Small e) (s:List UInt8) (hS:eWriteF 2 e=(s,0)) (hk:e.kind=53) (hw:rightE (wantE e x)=true) :
  Calls Tryz.prog 8 #[entV e (.slice ad e.map.length cap),.string (mkS x)] w fun r w'=>r=.returned (.bool true)∧Below w.heap.size w w':=by
 have hr:=reachBytes_lt
 have sx:=mkS_size x
 have hE0:=EntAt.new w e (.slice ad e.map.length cap) 26
 have hB0:=Lib.hid (below_alloc1 w (.cells (entC e (.slice ad e.map.length cap)) 26))
 have hEc0:=Lib.hid hE0
 have HM:=Lib.hid (fun W (h:Below w.heap.size w W)=>hM.below h)
 have KT:=Lib.hid (fun W (h:Below w.heap.size w W)=>told_any W (hp.below h) ⟨hp.below h,ha.below h⟩ (hg.below h))
 have KL:=Lib.hid (fun W (h:Below w.heap.size w W)=>hL W)
 have hx:(x.length:Int)≤9000000000000000000:=by rw [mkS_size] at z;omega
 clear hE0 hL
 have q0:((mkS x).toList==(ByteArray.toList { data:=#[] }))=false:=by rw [show ({ data:=#[] }:ByteArray)=mkS [] from rfl,textE_beq];exact decide_eq_false hx0
 have q0':((mkS x).toList==[])=false:=by rw [ByteArray.toList_eq,mkS_list];simpa using hx0
 have KW:=Lib.hid (fun W (h:Below w.heap.size w W)=>memWrite_all 2 e ad cap ho hs hc W (hp.below h) (HM.out W h))
 rw [hS] at KW
 dsimp only at KW
 have s0:=mkS_size s
 rw [errV_z] at KW
 have hd:=hs.data
 have hml:=hs.map
 have hsl:=(write_blocks hs hS).2
 have hl:=fun W=>run_lit_over x W
 have hwE:∀ nm:List UInt8,nm.length≤x.length→EntOk { e with name:=nm,user:=rootL }:=fun nm h=>⟨ho.ints,⟨by rw [mkS_size] at z;show nm.length≤reachBytes;omega,ho.texts.2.1,by show (4:Nat)≤reachBytes;decide,ho.texts.2.2.2.1,ho.texts.2.2.2.2⟩,ho.map,ho.fits⟩
 have hwant:wantE e x={ e with name:=Lib.trimRightB x 47,user:=rootL }:=by unfold wantE;rw [if_pos hk]
 have KR:=Lib.hid (fun (g:Nat) W (h:Below w.heap.size w W) hG=>over_right e (by omega) s (by omega) hS x hx0 (by omega) hw g W hG ⟨hp.below h,ha.below h⟩ (hg.below h))
 rw [hwant] at KR
 have KQ:=Lib.hid (fun (a4:Option Addr) (c4 g:Nat) (W:World) (h1:Px.PairsAt W a4 (overG x)) (h2:Px.PairsAt W (some ⟨g,0,none⟩) (overG x))=>show Calls Tryz.prog 26 #[.slice a4 2 c4,.slice (some ⟨g,0,none⟩) 2 2] W (fun r w'=>r=.returned (.bool true)∧Below W.heap.size W w') from Px.equal_same a4 _ c4 2 (overG x) (by simp [overG]) W h1 h2)
 have KS:=Lib.hid (fun (ad2:Option Addr) (cap2:Nat) (W:World) (h1:PiecesAt W ad2 e.map) (h2:Below w.heap.size w W)=>show Calls Tryz.prog 21 #[entV { e with name:=Lib.trimRightB x 47,user:=rootL } (.slice ad2 e.map.length cap2),entV { e with name:=Lib.trimRightB x 47,user:=rootL } (.slice ad e.map.length cap)] W (fun r w'=>r=.returned (.bool true)∧Below W.heap.size W w') from by
  have:=same_any { e with name:=Lib.trimRightB x 47,user:=rootL } { e with name:=Lib.trimRightB x 47,user:=rootL } ad2 ad cap2 cap (by dsimp only;omega) (by dsimp only;omega) W h1 (HM.out W h2)
  rwa [decide_eq_true rfl] at this)
 have KI:=Lib.hid (fun W (h:Below w.heap.size w W)=>rightM_any { e with name:=(Lib.trimRightB x 47),user:=rootL } ad cap (hwE (Lib.trimRightB x 47) (trimRB_len x 47)) W (HM.out W h))
 rw [← hwant,hw] at KI
 rw [hwant] at KI
 have KD:=Lib.hid (fun w=>trimSl_any x w (by omega))
 generalize Lib.trimRightB x 47=y at *
 have q53:((e.kind.toNat:Int)==53)=true:=by rw [show (53:Int)=((53:UInt8).toNat:Int) from rfl,kindE_beq];exact decide_eq_true hk
 have q48:((e.kind.toNat:Int)==48)=false:=by rw [show (48:Int)=((48:UInt8).toNat:Int) from rfl,kindE_beq];exact decide_eq_false (by rw [hk];decide)
 unfold entC at hEc0 hB0
 unfold entV at KL KW KI KR KS ⊢
 clear hM hc ho hg hp ha z hr hs hS hd hml hk hw hwant hx0 hwE hsl HM
 generalize e.map.length=n at *
 dsimp only at KI KR KS
 simp only [show mkS rootL={ data:=#[114,111,111,116] } from rfl] at KI KR KS
 go_enter Tryz.func8,Tryz.ntmps8
 go_upto_region 9 with (first
   |(go_at_call 17;(with_reducible refine (KT.out _ hB0.out).mono ?_);rintro r w1 ⟨rfl,h1⟩;have hB1:=Lib.hid (hB0.out.trans (h1.mono hB0.out.size));have hEc1:=Lib.hid (hEc0.out.below h1 hEc0.out.lt);clear h1;(try clear c0 c1 c2 c3 c4 c5 c6 c7 c8 c9 c10 c11 c12 c13 c14);obtain ⟨c0,c1,c2,c3,c4,c5,c6,c7,c8,c9,c10,c11,c12,c13,c14⟩:=id hEc1.out)
   |(go_at_call 18;(with_reducible refine (KL.out _ hB1.out).mono ?_);rintro r w2 ⟨rfl,h2⟩;have hB2:=Lib.hid (hB1.out.trans (h2.mono hB1.out.size));have hEc2:=Lib.hid (hEc1.out.below h2 hEc1.out.lt);clear h2;(try clear c0 c1 c2 c3 c4 c5 c6 c7 c8 c9 c10 c11 c12 c13 c14);obtain ⟨c0,c1,c2,c3,c4,c5,c6,c7,c8,c9,c10,c11,c12,c13,c14⟩:=id hEc2.out)
   |(go_at_call 20;(with_reducible refine (KW.out _ hB2.out).mono ?_);rintro r w3 ⟨rfl,h3⟩;have hB3:=Lib.hid (hB2.out.trans (h3.mono hB2.out.size));have hEc3:=Lib.hid (hEc2.out.below h3 hEc2.out.lt);clear h3;(try clear c0 c1 c2 c3 c4 c5 c6 c7 c8 c9 c10 c11 c12 c13 c14);obtain ⟨c0,c1,c2,c3,c4,c5,c6,c7,c8,c9,c10,c11,c12,c13,c14⟩:=id hEc3.out)
   | fail)
 have hbl:=(Below.refl w3.heap.size w3).alloc (Nat.le_refl _) (.cells #[.string { data:=#[112,97,116,104] },.string (mkS x),.string { data:=#[117,110,97,109,101] },.string { data:=#[114,111,111,116] }] 43)
 have hB8:=Lib.hid (hB3.out.trans (hbl.mono hB3.out.size))
 have hEc8:=Lib.hid (hEc3.out.below hbl hEc3.out.lt)
 have hG8:=Lib.hid (pairs_lit x w3)
 clear hbl c0 c1 c2 c3 c4 c5 c6 c7 c8 c9 c10 c11 c12 c13 c14 hl
 generalize World.alloc w3 _=W8 at hB8 hEc8 hG8 ⊢
 generalize w3.heap.size=g at hG8 ⊢
 obtain ⟨c0,c1,c2,c3,c4,c5,c6,c7,c8,c9,c10,c11,c12,c13,c14⟩:=id hEc8.out
 go_upto_region 10 with (first
   |(go_at_call 22;(with_reducible refine (KR.out _ _ hB8.out hG8.out).mono ?_);rintro r w9 ⟨ad2,cap2,aa4,cc4,rfl,hP,hH,h9⟩;have hbl:=(Below.refl w9.heap.size w9).alloc (Nat.le_refl _) (.cells #[.string (mkS y),.int .u8 (e.kind.toNat:Int),.int .i64 e.mode,.int .i64 e.uid,.int .i64 e.gid,.int .i64 e.size,.int .i64 e.sec,.int .i64 e.nano,.string (mkS e.link),.string { data:=#[114,111,111,116] },.string (mkS e.group),.int .i64 e.major,.int .i64 e.minor,.string (mkS e.data),.slice ad2 n cap2] 26);have hb9:=hB8.out.trans (h9.mono hB8.out.size);have hB9:=Lib.hid (hb9.trans (hbl.mono hb9.size));have he9:=hEc8.out.below h9 hEc8.out.lt;have hEc9:=Lib.hid (he9.below hbl he9.lt);have hG9:=Lib.hid ((hG8.out.below h9).below hbl);have hm9:=Lib.hid (heap_alloc_new w9 (.cells #[.string (mkS y),.int .u8 (e.kind.toNat:Int),.int .i64 e.mode,.int .i64 e.uid,.int .i64 e.gid,.int .i64 e.size,.int .i64 e.sec,.int .i64 e.nano,.string (mkS e.link),.string { data:=#[114,111,111,116] },.string (mkS e.group),.int .i64 e.major,.int .i64 e.minor,.string (mkS e.data),.slice ad2 n cap2] 26));have hP9:=Lib.hid (hP.below hbl);have hH9:=Lib.hid (hH.below hbl);clear c0 c1 c2 c3 c4 c5 c6 c7 c8 c9 c10 c11 c12 c13 c14 hP hH hbl hb9 h9 he9)
   | fail)
 generalize World.alloc w9 _=W9 at hB9 hEc9 hG9 hm9 hP9 hH9 ⊢
 generalize w9.heap.size=mb at hm9 ⊢
 obtain ⟨c0,c1,c2,c3,c4,c5,c6,c7,c8,c9,c10,c11,c12,c13,c14⟩:=id hEc9.out
 go_upto_region 12 with fail
 have hw12:=Lib.hid (heap_alloc_new W9 (.cells #[.string (mkS x),.int .u8 (e.kind.toNat:Int),.int .i64 e.mode,.int .i64 e.uid,.int .i64 e.gid,.int .i64 e.size,.int .i64 e.sec,.int .i64 e.nano,.string (mkS e.link),.string { data:=#[114,111,111,116] },.string (mkS e.group),.int .i64 e.major,.int .i64 e.minor,.string (mkS e.data),.slice ad n cap] 26))
 have hbl:=Lib.hid ((Below.refl W9.heap.size W9).alloc (Nat.le_refl _) (.cells #[.string (mkS x),.int .u8 (e.kind.toNat:Int),.int .i64 e.mode,.int .i64 e.uid,.int .i64 e.gid,.int .i64 e.size,.int .i64 e.sec,.int .i64 e.nano,.string (mkS e.link),.string { data:=#[114,111,111,116] },.string (mkS e.group),.int .i64 e.major,.int .i64 e.minor,.string (mkS e.data),.slice ad n cap] 26))
 clear c0 c1 c2 c3 c4 c5 c6 c7 c8 c9 c10 c11 c12 c13 c14
 generalize World.alloc W9 _=W12 at hbl hw12 ⊢
 have hEc12:=Lib.hid (hEc9.out.below hbl.out hEc9.out.lt)
 obtain ⟨c0,c1,c2,c3,c4,c5,c6,c7,c8,c9,c10,c11,c12,c13,c14⟩:=id hEc12.out
 have f0:=row_free hw12.out 0
 have k0:=row_cell hw12.out 0 _ rfl
 go_upto_region 14 with (first
   |(go_at_call 24;(with_reducible refine (KD.out _).mono ?_);rintro r w13 ⟨rfl,h13⟩;replace h13:=h13.symm;subst h13)
   | fail)
 have r1:=setCell_row (i:=0) (v:=.string (mkS y)) hw12.out
 have hbl2:=Lib.hid (r1.2 W9.heap.size (Nat.le_refl _) W9 hbl.out)
 have hw14:_=some (Obj.cells (#[.string (mkS y),.int .u8 (e.kind.toNat:Int),.int .i64 e.mode,.int .i64 e.uid,.int .i64 e.gid,.int .i64 e.size,.int .i64 e.sec,.int .i64 e.nano,.string (mkS e.link),.string { data:=#[114,111,111,116] },.string (mkS e.group),.int .i64 e.major,.int .i64 e.minor,.string (mkS e.data),.slice ad n cap]:Array Value) 26 (0,0)):=r1.1
 replace hw14:=Lib.hid hw14
 clear r1 hw12 hEc12 hbl f0 k0 c0 c1 c2 c3 c4 c5 c6 c7 c8 c9 c10 c11 c12 c13 c14
 generalize World.setCell W12 _ _=W14 at hbl2 hw14 ⊢
 have hB14:=Lib.hid (hB9.out.trans (hbl2.out.mono hB9.out.size))
 have hEc14:=Lib.hid (hEc9.out.below hbl2.out hEc9.out.lt)
 have hG14:=Lib.hid (hG9.out.below hbl2.out)
 have hm14:=Lib.hid ((hbl2.out.block _ (Array.getElem?_eq_some_iff.1 hm9.out).1).trans hm9.out)
 have hP14:=Lib.hid (hP9.out.below hbl2.out)
 have hH14:=Lib.hid (hH9.out.below hbl2.out)
 clear hbl2 hB9 hEc9 hG9 hm9 hP9 hH9
 generalize W9.heap.size=cb at hw14 ⊢
 obtain ⟨c0,c1,c2,c3,c4,c5,c6,c7,c8,c9,c10,c11,c12,c13,c14⟩:=id hEc14.out
 obtain ⟨k0,k1,k2,k3,k4,k5,k6,k7,k8,k9,k10,k11,k12,k13,k14⟩:=row15 hw14.out
 obtain ⟨j0,j1,j2,j3,j4,j5,j6,j7,j8,j9,j10,j11,j12,j13,j14⟩:=row15 hm14.out
 go_wp2_with (first
   |(go_at_call 23;(with_reducible refine (KI.out _ hB14.out).mono ?_);rintro r w15 ⟨rfl,h15⟩;have hB15:=Lib.hid (hB14.out.trans (h15.mono hB14.out.size));have hEc15:=Lib.hid (hEc14.out.below h15 hEc14.out.lt);have hw15:=Lib.hid ((h15.block _ (Array.getElem?_eq_some_iff.1 hw14.out).1).trans hw14.out);have hm15:=Lib.hid ((h15.block _ (Array.getElem?_eq_some_iff.1 hm14.out).1).trans hm14.out);have hP15:=Lib.hid (hP14.out.below h15);have hH15:=Lib.hid (hH14.out.below h15);have hG15:=Lib.hid (hG14.out.below h15);clear h15 c0 c1 c2 c3 c4 c5 c6 c7 c8 c9 c10 c11 c12 c13 c14 k0 k1 k2 k3 k4 k5 k6 k7 k8 k9 k10 k11 k12 k13 k14 j0 j1 j2 j3 j4 j5 j6 j7 j8 j9 j10 j11 j12 j13 j14;obtain ⟨c0,c1,c2,c3,c4,c5,c6,c7,c8,c9,c10,c11,c12,c13,c14⟩:=id hEc15.out;obtain ⟨k0,k1,k2,k3,k4,k5,k6,k7,k8,k9,k10,k11,k12,k13,k14⟩:=row15 hw15.out;obtain ⟨j0,j1,j2,j3,j4,j5,j6,j7,j8,j9,j10,j11,j12,j13,j14⟩:=row15 hm15.out)
   |(go_at_call 26;(with_reducible refine (KQ.out _ _ _ _ hH15.out hG15.out).mono ?_);rintro r w16 ⟨rfl,h16⟩;have hB16:=Lib.hid (hB15.out.trans (h16.mono hB15.out.size));have hEc16:=Lib.hid (hEc15.out.below h16 hEc15.out.lt);have hw16:=Lib.hid ((h16.block _ (Array.getElem?_eq_some_iff.1 hw15.out).1).trans hw15.out);have hm16:=Lib.hid ((h16.block _ (Array.getElem?_eq_some_iff.1 hm15.out).1).trans hm15.out);have hP16:=Lib.hid (hP15.out.below h16);have hH16:=Lib.hid (hH15.out.below h16);have hG16:=Lib.hid (hG15.out.below h16);clear h16 c0 c1 c2 c3 c4 c5 c6 c7 c8 c9 c10 c11 c12 c13 c14 k0 k1 k2 k3 k4 k5 k6 k7 k8 k9 k10 k11 k12 k13 k14 j0 j1 j2 j3 j4 j5 j6 j7 j8 j9 j10 j11 j12 j13 j14;obtain ⟨c0,c1,c2,c3,c4,c5,c6,c7,c8,c9,c10,c11,c12,c13,c14⟩:=id hEc16.out;obtain ⟨k0,k1,k2,k3,k4,k5,k6,k7,k8,k9,k10,k11,k12,k13,k14⟩:=row15 hw16.out;obtain ⟨j0,j1,j2,j3,j4,j5,j6,j7,j8,j9,j10,j11,j12,j13,j14⟩:=row15 hm16.out)
   |(go_at_call 21;(with_reducible refine (KS.out _ _ _ hP16.out hB16.out).mono ?_);rintro r w17 ⟨rfl,h17⟩;have hB17:=Lib.hid (hB16.out.trans (h17.mono hB16.out.size));clear h17)
   | fail)
 go_ret
 exact ⟨by first|rfl|simp,hB17.out⟩
set_option maxRecDepth 100000 in
set_option maxHeartbeats 8000000 in
theorem over_file_r (e:EntL) (ad:Option Addr) (cap:Nat) (ho:EntOk e) (hc:e.map.length≤cap) (x:List UInt8) (z:(mkS x).size≤reachBytes) (w:World) (hM:PiecesAt w ad e.map) (hg:ErrLaid w) (hp:Px.PowLaid w) (ha:Px.AtoiLaid w) (hL:∀ w,Calls Tryz.prog 18 #[entV e (.slice ad e.map.length cap)] w fun r w'=>r=.returned (.bool false)∧Below w.heap.size w w') (h6:¬ (100:Int)<(x.length:Int)) (hx0:x≠[]) (hs:Small e) (s:List UInt8) (hS:eWriteF 2 e=(s,0)) (hk:e.kind=48) (hw:rightE (wantE e x)=true) :
  Calls Tryz.prog 8 #[entV e (.slice ad e.map.length cap),.string (mkS x)] w fun r w'=>r=.returned (.bool true)∧Below w.heap.size w w':=by
 have hr:=reachBytes_lt
 have sx:=mkS_size x
 have hE0:=EntAt.new w e (.slice ad e.map.length cap) 26
 have hB0:=Lib.hid (below_alloc1 w (.cells (entC e (.slice ad e.map.length cap)) 26))
 have hEc0:=Lib.hid hE0
 have HM:=Lib.hid (fun W (h:Below w.heap.size w W)=>hM.below h)
 have KT:=Lib.hid (fun W (h:Below w.heap.size w W)=>told_any W (hp.below h) ⟨hp.below h,ha.below h⟩ (hg.below h))
 have KL:=Lib.hid (fun W (h:Below w.heap.size w W)=>hL W)
 have hx:(x.length:Int)≤9000000000000000000:=by rw [mkS_size] at z;omega
 clear hE0 hL
 have q0:((mkS x).toList==(ByteArray.toList { data:=#[] }))=false:=by rw [show ({ data:=#[] }:ByteArray)=mkS [] from rfl,textE_beq];exact decide_eq_false hx0
 have q0':((mkS x).toList==[])=false:=by rw [ByteArray.toList_eq,mkS_list];simpa using hx0
 have KW:=Lib.hid (fun W (h:Below w.heap.size w W)=>memWrite_all 2 e ad cap ho hs hc W (hp.below h) (HM.out W h))
 rw [hS] at KW
 dsimp only at KW
 have s0:=mkS_size s
 rw [errV_z] at KW
 have hd:=hs.data
 have hml:=hs.map
 have hsl:=(write_blocks hs hS).2
 have hl:=fun W=>run_lit_over x W
 have hwE:∀ nm:List UInt8,nm.length≤x.length→EntOk { e with name:=nm,user:=rootL }:=fun nm h=>⟨ho.ints,⟨by rw [mkS_size] at z;show nm.length≤reachBytes;omega,ho.texts.2.1,by show (4:Nat)≤reachBytes;decide,ho.texts.2.2.2.1,ho.texts.2.2.2.2⟩,ho.map,ho.fits⟩
 have hwant:wantE e x={ e with name:=x,user:=rootL }:=by unfold wantE;rw [if_neg (by rw [hk];decide)]
 have KR:=Lib.hid (fun (g:Nat) W (h:Below w.heap.size w W) hG=>over_right e (by omega) s (by omega) hS x hx0 (by omega) hw g W hG ⟨hp.below h,ha.below h⟩ (hg.below h))
 rw [hwant] at KR
 have he:=right_ends hw
 rw [hwant] at he
 dsimp only at he
 have KH:=Lib.hid (fun w=>suffix47 x w (by omega))
 rw [he] at KH
 clear he
 have KQ:=Lib.hid (fun (a4:Option Addr) (c4 g:Nat) (W:World) (h1:Px.PairsAt W a4 (overG x)) (h2:Px.PairsAt W (some ⟨g,0,none⟩) (overG x))=>show Calls Tryz.prog 26 #[.slice a4 2 c4,.slice (some ⟨g,0,none⟩) 2 2] W (fun r w'=>r=.returned (.bool true)∧Below W.heap.size W w') from Px.equal_same a4 _ c4 2 (overG x) (by simp [overG]) W h1 h2)
 have KS:=Lib.hid (fun (ad2:Option Addr) (cap2:Nat) (W:World) (h1:PiecesAt W ad2 e.map) (h2:Below w.heap.size w W)=>show Calls Tryz.prog 21 #[entV { e with name:=x,user:=rootL } (.slice ad2 e.map.length cap2),entV { e with name:=x,user:=rootL } (.slice ad e.map.length cap)] W (fun r w'=>r=.returned (.bool true)∧Below W.heap.size W w') from by
  have:=same_any { e with name:=x,user:=rootL } { e with name:=x,user:=rootL } ad2 ad cap2 cap (by dsimp only;omega) (by dsimp only;omega) W h1 (HM.out W h2)
  rwa [decide_eq_true rfl] at this)
 have KI:=Lib.hid (fun W (h:Below w.heap.size w W)=>rightM_any { e with name:=x,user:=rootL } ad cap (hwE x (Nat.le_refl _)) W (HM.out W h))
 rw [← hwant,hw] at KI
 rw [hwant] at KI
 have q53:((e.kind.toNat:Int)==53)=false:=by rw [show (53:Int)=((53:UInt8).toNat:Int) from rfl,kindE_beq];exact decide_eq_false (by rw [hk];decide)
 have q48:((e.kind.toNat:Int)==48)=true:=by rw [show (48:Int)=((48:UInt8).toNat:Int) from rfl,kindE_beq];exact decide_eq_true hk
 unfold entC at hEc0 hB0
 unfold entV at KL KW KI KR KS ⊢
 clear hM hc ho hg hp ha z hr hs hS hd hml hk hw hwant hx0 hwE hsl HM
 generalize e.map.length=n at *
 dsimp only at KI KR KS
 simp only [show mkS rootL={ data:=#[114,111,111,116] } from rfl] at KI KR KS
 go_enter Tryz.func8,Tryz.ntmps8
 go_upto_region 9 with (first
   |(go_at_call 17;(with_reducible refine (KT.out _ hB0.out).mono ?_);rintro r w1 ⟨rfl,h1⟩;have hB1:=Lib.hid (hB0.out.trans (h1.mono hB0.out.size));have hEc1:=Lib.hid (hEc0.out.below h1 hEc0.out.lt);clear h1;(try clear c0 c1 c2 c3 c4 c5 c6 c7 c8 c9 c10 c11 c12 c13 c14);obtain ⟨c0,c1,c2,c3,c4,c5,c6,c7,c8,c9,c10,c11,c12,c13,c14⟩:=id hEc1.out)
   |(go_at_call 18;(with_reducible refine (KL.out _ hB1.out).mono ?_);rintro r w2 ⟨rfl,h2⟩;have hB2:=Lib.hid (hB1.out.trans (h2.mono hB1.out.size));have hEc2:=Lib.hid (hEc1.out.below h2 hEc1.out.lt);clear h2;(try clear c0 c1 c2 c3 c4 c5 c6 c7 c8 c9 c10 c11 c12 c13 c14);obtain ⟨c0,c1,c2,c3,c4,c5,c6,c7,c8,c9,c10,c11,c12,c13,c14⟩:=id hEc2.out)
   |(go_at_call 20;(with_reducible refine (KW.out _ hB2.out).mono ?_);rintro r w3 ⟨rfl,h3⟩;have hB3:=Lib.hid (hB2.out.trans (h3.mono hB2.out.size));have hEc3:=Lib.hid (hEc2.out.below h3 hEc2.out.lt);clear h3;(try clear c0 c1 c2 c3 c4 c5 c6 c7 c8 c9 c10 c11 c12 c13 c14);obtain ⟨c0,c1,c2,c3,c4,c5,c6,c7,c8,c9,c10,c11,c12,c13,c14⟩:=id hEc3.out)
   | fail)
 have hbl:=(Below.refl w3.heap.size w3).alloc (Nat.le_refl _) (.cells #[.string { data:=#[112,97,116,104] },.string (mkS x),.string { data:=#[117,110,97,109,101] },.string { data:=#[114,111,111,116] }] 43)
 have hB8:=Lib.hid (hB3.out.trans (hbl.mono hB3.out.size))
 have hEc8:=Lib.hid (hEc3.out.below hbl hEc3.out.lt)
 have hG8:=Lib.hid (pairs_lit x w3)
 clear hbl c0 c1 c2 c3 c4 c5 c6 c7 c8 c9 c10 c11 c12 c13 c14 hl
 generalize World.alloc w3 _=W8 at hB8 hEc8 hG8 ⊢
 generalize w3.heap.size=g at hG8 ⊢
 obtain ⟨c0,c1,c2,c3,c4,c5,c6,c7,c8,c9,c10,c11,c12,c13,c14⟩:=id hEc8.out
 go_upto_region 10 with (first
   |(go_at_call 22;(with_reducible refine (KR.out _ _ hB8.out hG8.out).mono ?_);rintro r w9 ⟨ad2,cap2,aa4,cc4,rfl,hP,hH,h9⟩;have hbl:=(Below.refl w9.heap.size w9).alloc (Nat.le_refl _) (.cells #[.string (mkS x),.int .u8 (e.kind.toNat:Int),.int .i64 e.mode,.int .i64 e.uid,.int .i64 e.gid,.int .i64 e.size,.int .i64 e.sec,.int .i64 e.nano,.string (mkS e.link),.string { data:=#[114,111,111,116] },.string (mkS e.group),.int .i64 e.major,.int .i64 e.minor,.string (mkS e.data),.slice ad2 n cap2] 26);have hb9:=hB8.out.trans (h9.mono hB8.out.size);have hB9:=Lib.hid (hb9.trans (hbl.mono hb9.size));have he9:=hEc8.out.below h9 hEc8.out.lt;have hEc9:=Lib.hid (he9.below hbl he9.lt);have hG9:=Lib.hid ((hG8.out.below h9).below hbl);have hm9:=Lib.hid (heap_alloc_new w9 (.cells #[.string (mkS x),.int .u8 (e.kind.toNat:Int),.int .i64 e.mode,.int .i64 e.uid,.int .i64 e.gid,.int .i64 e.size,.int .i64 e.sec,.int .i64 e.nano,.string (mkS e.link),.string { data:=#[114,111,111,116] },.string (mkS e.group),.int .i64 e.major,.int .i64 e.minor,.string (mkS e.data),.slice ad2 n cap2] 26));have hP9:=Lib.hid (hP.below hbl);have hH9:=Lib.hid (hH.below hbl);clear c0 c1 c2 c3 c4 c5 c6 c7 c8 c9 c10 c11 c12 c13 c14 hP hH hbl hb9 h9 he9)
   | fail)
 generalize World.alloc w9 _=W9 at hB9 hEc9 hG9 hm9 hP9 hH9 ⊢
 generalize w9.heap.size=mb at hm9 ⊢
 obtain ⟨c0,c1,c2,c3,c4,c5,c6,c7,c8,c9,c10,c11,c12,c13,c14⟩:=id hEc9.out
 go_upto_region 12 with fail
 have hw12:=Lib.hid (heap_alloc_new W9 (.cells #[.string (mkS x),.int .u8 (e.kind.toNat:Int),.int .i64 e.mode,.int .i64 e.uid,.int .i64 e.gid,.int .i64 e.size,.int .i64 e.sec,.int .i64 e.nano,.string (mkS e.link),.string { data:=#[114,111,111,116] },.string (mkS e.group),.int .i64 e.major,.int .i64 e.minor,.string (mkS e.data),.slice ad n cap] 26))
 have hbl:=Lib.hid ((Below.refl W9.heap.size W9).alloc (Nat.le_refl _) (.cells #[.string (mkS x),.int .u8 (e.kind.toNat:Int),.int .i64 e.mode,.int .i64 e.uid,.int .i64 e.gid,.int .i64 e.size,.int .i64 e.sec,.int .i64 e.nano,.string (mkS e.link),.string { data:=#[114,111,111,116] },.string (mkS e.group),.int .i64 e.major,.int .i64 e.minor,.string (mkS e.data),.slice ad n cap] 26))
 clear c0 c1 c2 c3 c4 c5 c6 c7 c8 c9 c10 c11 c12 c13 c14
 generalize World.alloc W9 _=W12 at hbl hw12 ⊢
 have hB12:=Lib.hid (hB9.out.trans (hbl.out.mono hB9.out.size))
 have hEc12:=Lib.hid (hEc9.out.below hbl.out hEc9.out.lt)
 have hG12:=Lib.hid (hG9.out.below hbl.out)
 have hm12:=Lib.hid ((hbl.out.block _ (Array.getElem?_eq_some_iff.1 hm9.out).1).trans hm9.out)
 have hP12:=Lib.hid (hP9.out.below hbl.out)
 have hH12:=Lib.hid (hH9.out.below hbl.out)
 clear hbl hB9 hEc9 hG9 hm9 hP9 hH9
 generalize W9.heap.size=cb at hw12 ⊢
 obtain ⟨c0,c1,c2,c3,c4,c5,c6,c7,c8,c9,c10,c11,c12,c13,c14⟩:=id hEc12.out
 obtain ⟨k0,k1,k2,k3,k4,k5,k6,k7,k8,k9,k10,k11,k12,k13,k14⟩:=row15 hw12.out
 obtain ⟨j0,j1,j2,j3,j4,j5,j6,j7,j8,j9,j10,j11,j12,j13,j14⟩:=row15 hm12.out
 go_wp2_with (first
   |(go_at_call 23;(with_reducible refine (KI.out _ hB12.out).mono ?_);rintro r w15 ⟨rfl,h15⟩;have hB15:=Lib.hid (hB12.out.trans (h15.mono hB12.out.size));have hEc15:=Lib.hid (hEc12.out.below h15 hEc12.out.lt);have hw15:=Lib.hid ((h15.block _ (Array.getElem?_eq_some_iff.1 hw12.out).1).trans hw12.out);have hm15:=Lib.hid ((h15.block _ (Array.getElem?_eq_some_iff.1 hm12.out).1).trans hm12.out);have hP15:=Lib.hid (hP12.out.below h15);have hH15:=Lib.hid (hH12.out.below h15);have hG15:=Lib.hid (hG12.out.below h15);clear h15 c0 c1 c2 c3 c4 c5 c6 c7 c8 c9 c10 c11 c12 c13 c14 k0 k1 k2 k3 k4 k5 k6 k7 k8 k9 k10 k11 k12 k13 k14 j0 j1 j2 j3 j4 j5 j6 j7 j8 j9 j10 j11 j12 j13 j14;obtain ⟨c0,c1,c2,c3,c4,c5,c6,c7,c8,c9,c10,c11,c12,c13,c14⟩:=id hEc15.out;obtain ⟨k0,k1,k2,k3,k4,k5,k6,k7,k8,k9,k10,k11,k12,k13,k14⟩:=row15 hw15.out;obtain ⟨j0,j1,j2,j3,j4,j5,j6,j7,j8,j9,j10,j11,j12,j13,j14⟩:=row15 hm15.out)
   |(go_at_call 25;(with_reducible refine (KH.out _).mono ?_);rintro r w2 ⟨rfl,h2⟩;replace h2:=h2.symm;subst h2)
   |(go_at_call 26;(with_reducible refine (KQ.out _ _ _ _ hH15.out hG15.out).mono ?_);rintro r w16 ⟨rfl,h16⟩;have hB16:=Lib.hid (hB15.out.trans (h16.mono hB15.out.size));have hEc16:=Lib.hid (hEc15.out.below h16 hEc15.out.lt);have hw16:=Lib.hid ((h16.block _ (Array.getElem?_eq_some_iff.1 hw15.out).1).trans hw15.out);have hm16:=Lib.hid ((h16.block _ (Array.getElem?_eq_some_iff.1 hm15.out).1).trans hm15.out);have hP16:=Lib.hid (hP15.out.below h16);have hH16:=Lib.hid (hH15.out.below h16);have hG16:=Lib.hid (hG15.out.below h16);clear h16 c0 c1 c2 c3 c4 c5 c6 c7 c8 c9 c10 c11 c12 c13 c14 k0 k1 k2 k3 k4 k5 k6 k7 k8 k9 k10 k11 k12 k13 k14 j0 j1 j2 j3 j4 j5 j6 j7 j8 j9 j10 j11 j12 j13 j14;obtain ⟨c0,c1,c2,c3,c4,c5,c6,c7,c8,c9,c10,c11,c12,c13,c14⟩:=id hEc16.out;obtain ⟨k0,k1,k2,k3,k4,k5,k6,k7,k8,k9,k10,k11,k12,k13,k14⟩:=row15 hw16.out;obtain ⟨j0,j1,j2,j3,j4,j5,j6,j7,j8,j9,j10,j11,j12,j13,j14⟩:=row15 hm16.out)
   |(go_at_call 21;(with_reducible refine (KS.out _ _ _ hP16.out hB16.out).mono ?_);rintro r w17 ⟨rfl,h17⟩;have hB17:=Lib.hid (hB16.out.trans (h17.mono hB16.out.size));clear h17)
   | fail)
 go_ret
 exact ⟨by first|rfl|simp,hB17.out⟩
set_option maxRecDepth 100000 in
set_option maxHeartbeats 8000000 in
theorem over_other_r (e:EntL) (ad:Option Addr) (cap:Nat) (ho:EntOk e) (hc:e.map.length≤cap) (x:List UInt8) (z:(mkS x).size≤reachBytes) (w:World) (hM:PiecesAt w ad e.map) (hg:ErrLaid w) (hp:Px.PowLaid w) (ha:Px.AtoiLaid w) (hL:∀ w,Calls Tryz.prog 18 #[entV e (.slice ad e.map.length cap)] w fun r w'=>r=.returned (.bool false)∧Below w.heap.size w w') (h6:¬ (100:Int)<(x.length:Int)) (hx0:x≠[]) (hs:Small e) (s:List UInt8) (hS:eWriteF 2 e=(s,0)) (hk:¬ e.kind=53) (hk2:¬ e.kind=48) (hw:rightE (wantE e x)=true) :
  Calls Tryz.prog 8 #[entV e (.slice ad e.map.length cap),.string (mkS x)] w fun r w'=>r=.returned (.bool true)∧Below w.heap.size w w':=by
 have hr:=reachBytes_lt
 have sx:=mkS_size x
 have hE0:=EntAt.new w e (.slice ad e.map.length cap) 26
 have hB0:=Lib.hid (below_alloc1 w (.cells (entC e (.slice ad e.map.length cap)) 26))
 have hEc0:=Lib.hid hE0
 have HM:=Lib.hid (fun W (h:Below w.heap.size w W)=>hM.below h)
 have KT:=Lib.hid (fun W (h:Below w.heap.size w W)=>told_any W (hp.below h) ⟨hp.below h,ha.below h⟩ (hg.below h))
 have KL:=Lib.hid (fun W (h:Below w.heap.size w W)=>hL W)
 have hx:(x.length:Int)≤9000000000000000000:=by rw [mkS_size] at z;omega
 clear hE0 hL
 have q0:((mkS x).toList==(ByteArray.toList { data:=#[] }))=false:=by rw [show ({ data:=#[] }:ByteArray)=mkS [] from rfl,textE_beq];exact decide_eq_false hx0
 have q0':((mkS x).toList==[])=false:=by rw [ByteArray.toList_eq,mkS_list];simpa using hx0
 have KW:=Lib.hid (fun W (h:Below w.heap.size w W)=>memWrite_all 2 e ad cap ho hs hc W (hp.below h) (HM.out W h))
 rw [hS] at KW
 dsimp only at KW
 have s0:=mkS_size s
 rw [errV_z] at KW
 have hd:=hs.data
 have hml:=hs.map
 have hsl:=(write_blocks hs hS).2
 have hl:=fun W=>run_lit_over x W
 have hwE:∀ nm:List UInt8,nm.length≤x.length→EntOk { e with name:=nm,user:=rootL }:=fun nm h=>⟨ho.ints,⟨by rw [mkS_size] at z;show nm.length≤reachBytes;omega,ho.texts.2.1,by show (4:Nat)≤reachBytes;decide,ho.texts.2.2.2.1,ho.texts.2.2.2.2⟩,ho.map,ho.fits⟩
 have hwant:wantE e x={ e with name:=x,user:=rootL }:=by unfold wantE;rw [if_neg hk]
 have KR:=Lib.hid (fun (g:Nat) W (h:Below w.heap.size w W) hG=>over_right e (by omega) s (by omega) hS x hx0 (by omega) hw g W hG ⟨hp.below h,ha.below h⟩ (hg.below h))
 rw [hwant] at KR
 have KQ:=Lib.hid (fun (a4:Option Addr) (c4 g:Nat) (W:World) (h1:Px.PairsAt W a4 (overG x)) (h2:Px.PairsAt W (some ⟨g,0,none⟩) (overG x))=>show Calls Tryz.prog 26 #[.slice a4 2 c4,.slice (some ⟨g,0,none⟩) 2 2] W (fun r w'=>r=.returned (.bool true)∧Below W.heap.size W w') from Px.equal_same a4 _ c4 2 (overG x) (by simp [overG]) W h1 h2)
 have KS:=Lib.hid (fun (ad2:Option Addr) (cap2:Nat) (W:World) (h1:PiecesAt W ad2 e.map) (h2:Below w.heap.size w W)=>show Calls Tryz.prog 21 #[entV { e with name:=x,user:=rootL } (.slice ad2 e.map.length cap2),entV { e with name:=x,user:=rootL } (.slice ad e.map.length cap)] W (fun r w'=>r=.returned (.bool true)∧Below W.heap.size W w') from by
  have:=same_any { e with name:=x,user:=rootL } { e with name:=x,user:=rootL } ad2 ad cap2 cap (by dsimp only;omega) (by dsimp only;omega) W h1 (HM.out W h2)
  rwa [decide_eq_true rfl] at this)
 have KI:=Lib.hid (fun W (h:Below w.heap.size w W)=>rightM_any { e with name:=x,user:=rootL } ad cap (hwE x (Nat.le_refl _)) W (HM.out W h))
 rw [← hwant,hw] at KI
 rw [hwant] at KI
 have q53:((e.kind.toNat:Int)==53)=false:=by rw [show (53:Int)=((53:UInt8).toNat:Int) from rfl,kindE_beq];exact decide_eq_false hk
 have q48:((e.kind.toNat:Int)==48)=false:=by rw [show (48:Int)=((48:UInt8).toNat:Int) from rfl,kindE_beq];exact decide_eq_false hk2
 unfold entC at hEc0 hB0
 unfold entV at KL KW KI KR KS ⊢
 clear hM hc ho hg hp ha z hr hs hS hd hml hk hw hwant hx0 hwE hsl HM hk2
 generalize e.map.length=n at *
 dsimp only at KI KR KS
 simp only [show mkS rootL={ data:=#[114,111,111,116] } from rfl] at KI KR KS
 go_enter Tryz.func8,Tryz.ntmps8
 go_upto_region 9 with (first
   |(go_at_call 17;(with_reducible refine (KT.out _ hB0.out).mono ?_);rintro r w1 ⟨rfl,h1⟩;have hB1:=Lib.hid (hB0.out.trans (h1.mono hB0.out.size));have hEc1:=Lib.hid (hEc0.out.below h1 hEc0.out.lt);clear h1;(try clear c0 c1 c2 c3 c4 c5 c6 c7 c8 c9 c10 c11 c12 c13 c14);obtain ⟨c0,c1,c2,c3,c4,c5,c6,c7,c8,c9,c10,c11,c12,c13,c14⟩:=id hEc1.out)
   |(go_at_call 18;(with_reducible refine (KL.out _ hB1.out).mono ?_);rintro r w2 ⟨rfl,h2⟩;have hB2:=Lib.hid (hB1.out.trans (h2.mono hB1.out.size));have hEc2:=Lib.hid (hEc1.out.below h2 hEc1.out.lt);clear h2;(try clear c0 c1 c2 c3 c4 c5 c6 c7 c8 c9 c10 c11 c12 c13 c14);obtain ⟨c0,c1,c2,c3,c4,c5,c6,c7,c8,c9,c10,c11,c12,c13,c14⟩:=id hEc2.out)
   |(go_at_call 20;(with_reducible refine (KW.out _ hB2.out).mono ?_);rintro r w3 ⟨rfl,h3⟩;have hB3:=Lib.hid (hB2.out.trans (h3.mono hB2.out.size));have hEc3:=Lib.hid (hEc2.out.below h3 hEc2.out.lt);clear h3;(try clear c0 c1 c2 c3 c4 c5 c6 c7 c8 c9 c10 c11 c12 c13 c14);obtain ⟨c0,c1,c2,c3,c4,c5,c6,c7,c8,c9,c10,c11,c12,c13,c14⟩:=id hEc3.out)
   | fail)
 have hbl:=(Below.refl w3.heap.size w3).alloc (Nat.le_refl _) (.cells #[.string { data:=#[112,97,116,104] },.string (mkS x),.string { data:=#[117,110,97,109,101] },.string { data:=#[114,111,111,116] }] 43)
 have hB8:=Lib.hid (hB3.out.trans (hbl.mono hB3.out.size))
 have hEc8:=Lib.hid (hEc3.out.below hbl hEc3.out.lt)
 have hG8:=Lib.hid (pairs_lit x w3)
 clear hbl c0 c1 c2 c3 c4 c5 c6 c7 c8 c9 c10 c11 c12 c13 c14 hl
 generalize World.alloc w3 _=W8 at hB8 hEc8 hG8 ⊢
 generalize w3.heap.size=g at hG8 ⊢
 obtain ⟨c0,c1,c2,c3,c4,c5,c6,c7,c8,c9,c10,c11,c12,c13,c14⟩:=id hEc8.out
 go_upto_region 10 with (first
   |(go_at_call 22;(with_reducible refine (KR.out _ _ hB8.out hG8.out).mono ?_);rintro r w9 ⟨ad2,cap2,aa4,cc4,rfl,hP,hH,h9⟩;have hbl:=(Below.refl w9.heap.size w9).alloc (Nat.le_refl _) (.cells #[.string (mkS x),.int .u8 (e.kind.toNat:Int),.int .i64 e.mode,.int .i64 e.uid,.int .i64 e.gid,.int .i64 e.size,.int .i64 e.sec,.int .i64 e.nano,.string (mkS e.link),.string { data:=#[114,111,111,116] },.string (mkS e.group),.int .i64 e.major,.int .i64 e.minor,.string (mkS e.data),.slice ad2 n cap2] 26);have hb9:=hB8.out.trans (h9.mono hB8.out.size);have hB9:=Lib.hid (hb9.trans (hbl.mono hb9.size));have he9:=hEc8.out.below h9 hEc8.out.lt;have hEc9:=Lib.hid (he9.below hbl he9.lt);have hG9:=Lib.hid ((hG8.out.below h9).below hbl);have hm9:=Lib.hid (heap_alloc_new w9 (.cells #[.string (mkS x),.int .u8 (e.kind.toNat:Int),.int .i64 e.mode,.int .i64 e.uid,.int .i64 e.gid,.int .i64 e.size,.int .i64 e.sec,.int .i64 e.nano,.string (mkS e.link),.string { data:=#[114,111,111,116] },.string (mkS e.group),.int .i64 e.major,.int .i64 e.minor,.string (mkS e.data),.slice ad2 n cap2] 26));have hP9:=Lib.hid (hP.below hbl);have hH9:=Lib.hid (hH.below hbl);clear c0 c1 c2 c3 c4 c5 c6 c7 c8 c9 c10 c11 c12 c13 c14 hP hH hbl hb9 h9 he9)
   | fail)
 generalize World.alloc w9 _=W9 at hB9 hEc9 hG9 hm9 hP9 hH9 ⊢
 generalize w9.heap.size=mb at hm9 ⊢
 obtain ⟨c0,c1,c2,c3,c4,c5,c6,c7,c8,c9,c10,c11,c12,c13,c14⟩:=id hEc9.out
 go_upto_region 12 with fail
 have hw12:=Lib.hid (heap_alloc_new W9 (.cells #[.string (mkS x),.int .u8 (e.kind.toNat:Int),.int .i64 e.mode,.int .i64 e.uid,.int .i64 e.gid,.int .i64 e.size,.int .i64 e.sec,.int .i64 e.nano,.string (mkS e.link),.string { data:=#[114,111,111,116] },.string (mkS e.group),.int .i64 e.major,.int .i64 e.minor,.string (mkS e.data),.slice ad n cap] 26))
 have hbl:=Lib.hid ((Below.refl W9.heap.size W9).alloc (Nat.le_refl _) (.cells #[.string (mkS x),.int .u8 (e.kind.toNat:Int),.int .i64 e.mode,.int .i64 e.uid,.int .i64 e.gid,.int .i64 e.size,.int .i64 e.sec,.int .i64 e.nano,.string (mkS e.link),.string { data:=#[114,111,111,116] },.string (mkS e.group),.int .i64 e.major,.int .i64 e.minor,.string (mkS e.data),.slice ad n cap] 26))
 clear c0 c1 c2 c3 c4 c5 c6 c7 c8 c9 c10 c11 c12 c13 c14
 generalize World.alloc W9 _=W12 at hbl hw12 ⊢
 have hB12:=Lib.hid (hB9.out.trans (hbl.out.mono hB9.out.size))
 have hEc12:=Lib.hid (hEc9.out.below hbl.out hEc9.out.lt)
 have hG12:=Lib.hid (hG9.out.below hbl.out)
 have hm12:=Lib.hid ((hbl.out.block _ (Array.getElem?_eq_some_iff.1 hm9.out).1).trans hm9.out)
 have hP12:=Lib.hid (hP9.out.below hbl.out)
 have hH12:=Lib.hid (hH9.out.below hbl.out)
 clear hbl hB9 hEc9 hG9 hm9 hP9 hH9
 generalize W9.heap.size=cb at hw12 ⊢
 obtain ⟨c0,c1,c2,c3,c4,c5,c6,c7,c8,c9,c10,c11,c12,c13,c14⟩:=id hEc12.out
 obtain ⟨k0,k1,k2,k3,k4,k5,k6,k7,k8,k9,k10,k11,k12,k13,k14⟩:=row15 hw12.out
 obtain ⟨j0,j1,j2,j3,j4,j5,j6,j7,j8,j9,j10,j11,j12,j13,j14⟩:=row15 hm12.out
 go_wp2_with (first
   |(go_at_call 23;(with_reducible refine (KI.out _ hB12.out).mono ?_);rintro r w15 ⟨rfl,h15⟩;have hB15:=Lib.hid (hB12.out.trans (h15.mono hB12.out.size));have hEc15:=Lib.hid (hEc12.out.below h15 hEc12.out.lt);have hw15:=Lib.hid ((h15.block _ (Array.getElem?_eq_some_iff.1 hw12.out).1).trans hw12.out);have hm15:=Lib.hid ((h15.block _ (Array.getElem?_eq_some_iff.1 hm12.out).1).trans hm12.out);have hP15:=Lib.hid (hP12.out.below h15);have hH15:=Lib.hid (hH12.out.below h15);have hG15:=Lib.hid (hG12.out.below h15);clear h15 c0 c1 c2 c3 c4 c5 c6 c7 c8 c9 c10 c11 c12 c13 c14 k0 k1 k2 k3 k4 k5 k6 k7 k8 k9 k10 k11 k12 k13 k14 j0 j1 j2 j3 j4 j5 j6 j7 j8 j9 j10 j11 j12 j13 j14;obtain ⟨c0,c1,c2,c3,c4,c5,c6,c7,c8,c9,c10,c11,c12,c13,c14⟩:=id hEc15.out;obtain ⟨k0,k1,k2,k3,k4,k5,k6,k7,k8,k9,k10,k11,k12,k13,k14⟩:=row15 hw15.out;obtain ⟨j0,j1,j2,j3,j4,j5,j6,j7,j8,j9,j10,j11,j12,j13,j14⟩:=row15 hm15.out)
   |(go_at_call 26;(with_reducible refine (KQ.out _ _ _ _ hH15.out hG15.out).mono ?_);rintro r w16 ⟨rfl,h16⟩;have hB16:=Lib.hid (hB15.out.trans (h16.mono hB15.out.size));have hEc16:=Lib.hid (hEc15.out.below h16 hEc15.out.lt);have hw16:=Lib.hid ((h16.block _ (Array.getElem?_eq_some_iff.1 hw15.out).1).trans hw15.out);have hm16:=Lib.hid ((h16.block _ (Array.getElem?_eq_some_iff.1 hm15.out).1).trans hm15.out);have hP16:=Lib.hid (hP15.out.below h16);have hH16:=Lib.hid (hH15.out.below h16);have hG16:=Lib.hid (hG15.out.below h16);clear h16 c0 c1 c2 c3 c4 c5 c6 c7 c8 c9 c10 c11 c12 c13 c14 k0 k1 k2 k3 k4 k5 k6 k7 k8 k9 k10 k11 k12 k13 k14 j0 j1 j2 j3 j4 j5 j6 j7 j8 j9 j10 j11 j12 j13 j14;obtain ⟨c0,c1,c2,c3,c4,c5,c6,c7,c8,c9,c10,c11,c12,c13,c14⟩:=id hEc16.out;obtain ⟨k0,k1,k2,k3,k4,k5,k6,k7,k8,k9,k10,k11,k12,k13,k14⟩:=row15 hw16.out;obtain ⟨j0,j1,j2,j3,j4,j5,j6,j7,j8,j9,j10,j11,j12,j13,j14⟩:=row15 hm16.out)
   |(go_at_call 21;(with_reducible refine (KS.out _ _ _ hP16.out hB16.out).mono ?_);rintro r w17 ⟨rfl,h17⟩;have hB17:=Lib.hid (hB16.out.trans (h17.mono hB16.out.size));clear h17)
   | fail)
 go_ret
 exact ⟨by first|rfl|simp,hB17.out⟩
set_option maxRecDepth 100000 in
set_option maxHeartbeats 8000000 in
theorem memberOver_walk (e:EntL) (ad:Option Addr) (cap:Nat) (ho:EntOk e) (hc:e.map.length≤cap) (a:ByteArray) (z:a.size≤reachBytes) (w:World) (hM:PiecesAt w ad e.map) (hg:ErrLaid w) (hp:Px.PowLaid w) (ha:Px.AtoiLaid w) :
  Calls Tryz.prog 8 #[entV e (.slice ad e.map.length cap),.string a] w fun r w'=>r=.returned (.bool true)∧Below w.heap.size w w':=by
 obtain ⟨x,rfl⟩:∃ k,a=mkS k:=⟨_,(mkS_self a).symm⟩
 obtain ⟨b,hb,hL⟩:=large_keep e ho ad cap
 cases b with
 | true=>exact over_t e ad cap ho hc x z w hM hg hp ha hL
 | false =>
  have hs:=hb rfl
  by_cases h6:(100:Int)<(x.length:Int)
  ·exact over_long e ad cap ho hc x z w hM hg hp ha hL h6
  by_cases hx0:x=[]
  ·exact over_nil e ad cap ho hc x z w hM hg hp ha hL h6 hx0
  obtain ⟨⟨s,k⟩,hS⟩:∃ q,eWriteF 2 e=q:=⟨_,rfl⟩
  by_cases hk:k=0
  ·subst hk
   cases hw:rightE (wantE e x) with
   | false =>
    by_cases hk:e.kind=53
    ·exact over_dir_w e ad cap ho hc x z w hM hg hp ha hL h6 hx0 hs s hS hk hw
    by_cases hk2:e.kind=48
    ·exact over_file_w e ad cap ho hc x z w hM hg hp ha hL h6 hx0 hs s hS hk2 hw
    ·exact over_other_w e ad cap ho hc x z w hM hg hp ha hL h6 hx0 hs s hS hk hk2 hw
   | true =>
    by_cases hk:e.kind=53
    ·exact over_dir_r e ad cap ho hc x z w hM hg hp ha hL h6 hx0 hs s hS hk hw
    by_cases hk2:e.kind=48
    ·exact over_file_r e ad cap ho hc x z w hM hg hp ha hL h6 hx0 hs s hS hk2 hw
    ·exact over_other_r e ad cap ho hc x z w hM hg hp ha hL h6 hx0 hs s hS hk hk2 hw
  ·exact over_k e ad cap ho hc x z w hM hg hp ha hL h6 hx0 hs s k hS hk
end Go.Proofs.YtdjcjaidklgamaaGreatDoor
end
