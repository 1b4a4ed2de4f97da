import Derived.Test.YtdjcjaidklgamaaGreatDoorQEn
set_option linter.unusedSimpArgs false
set_option linter.unusedVariables false
section
namespace Go.Proofs.YtdjcjaidklgamaaGreatDoor
open Go.RowKit Go.Joins
set_option linter.unusedVariables false
set_option linter.unusedSimpArgs false
structure EntOk (e:EntL):Prop where
 ints:intsE e
 texts:textsE e
 map:e.map.length≤maxLen
 fits:Fits e.map
theorem reach_fits {n:Nat} (h:n≤reachBytes):n≤9223372036854775807:=by have:=reachBytes_lt;omega
theorem kind_cases (c:UInt8):c=48∨c=49∨c=50∨c=51∨c=52∨c=53∨c=54∨(¬ (c.toNat:Int)=48∧¬ (c.toNat:Int)=49∧¬ (c.toNat:Int)=50∧¬ (c.toNat:Int)=51∧¬ (c.toNat:Int)=52∧¬ (c.toNat:Int)=53∧¬ (c.toNat:Int)=54∧¬ c=48∧¬ (49≤c∧c≤54)):=by
 have key:∀ d:UInt8,c=d∨¬ (c.toNat:Int)=(d.toNat:Int):=fun d=>by
  by_cases h:c=d
  ·exact .inl h
  ·right;intro h2;exact h (UInt8.toNat_inj.1 (by omega))
 rcases key 48 with h|h0;· exact .inl h
 rcases key 49 with h|h1;· exact .inr (.inl h)
 rcases key 50 with h|h2;· exact .inr (.inr (.inl h))
 rcases key 51 with h|h3;· exact .inr (.inr (.inr (.inl h)))
 rcases key 52 with h|h4;· exact .inr (.inr (.inr (.inr (.inl h))))
 rcases key 53 with h|h5;· exact .inr (.inr (.inr (.inr (.inr (.inl h)))))
 rcases key 54 with h|h6;· exact .inr (.inr (.inr (.inr (.inr (.inr (.inl h))))))
 refine .inr (.inr (.inr (.inr (.inr (.inr (.inr ⟨h0,h1,h2,h3,h4,h5,h6,fun h=>h0 (by rw [h]),fun ⟨a,b⟩=>?_⟩))))))
 have a':49≤c.toNat:=UInt8.le_iff_toNat_le.1 a
 have b':c.toNat≤54:=UInt8.le_iff_toNat_le.1 b
 change ¬ (c.toNat:Int)=49 at h1
 change ¬ (c.toNat:Int)=50 at h2
 change ¬ (c.toNat:Int)=51 at h3
 change ¬ (c.toNat:Int)=52 at h4
 change ¬ (c.toNat:Int)=53 at h5
 change ¬ (c.toNat:Int)=54 at h6
 omega
set_option maxRecDepth 100000 in
set_option maxHeartbeats 8000000 in
theorem rightData_file (e:EntL) (hk:(e.kind.toNat:Int)=48) (ad:Option Addr) (cap:Nat) (ho:EntOk e) (w:World) (hM:PiecesAt w ad e.map) :
  Calls Tryz.prog 50 #[entV e (.slice ad e.map.length cap)] w fun r w'=>r=.returned (.bool (fitsI e.size 4000&&(!sparseE e || (mapRight e.map e.size&&decide ((e.data.length:Int)=sizeF 0 e.map)))))∧Below w.heap.size w w':=by
 have s1:=mkS_size e.data
 have hkb:((e.kind.toNat:Int)==48)=true:=by rw [beq_iff_eq];exact hk
 clear hk
 have hsz:i64 e.size:=ho.ints.2.2.2.1
 have hdt:e.data.length≤9223372036854775807:=reach_fits ho.texts.2.2.2.2
 have hE:=EntAt.new w e (.slice ad e.map.length cap) 26
 have hB:=Lib.hid (below_alloc1 w (.cells (entC e (.slice ad e.map.length cap)) 26))
 have HM:=Lib.hid (fun W (h:Below w.heap.size w W)=>hM.below h)
 have CP:=Lib.hid (fun w=>sparse_any e ad cap hdt w)
 have CR:=Lib.hid (fun W (h:Below w.heap.size w W)=>rightA_any ad cap e.map e.size hsz ho.map ho.fits W (HM.out W h))
 have CZ:=Lib.hid (fun W (h:Below w.heap.size w W)=>sizeA_any ad cap e.map ho.map ho.fits W (HM.out W h))
 unfold fitsI
 clear ho hM
 generalize sparseE e=b1 at *
 generalize mapRight e.map e.size=b2 at *
 generalize sizeF 0 e.map=S at *
 unfold entC at hB hE
 unfold entV at CP ⊢
 generalize e.map.length=n at *
 go_enter Tryz.func50,Tryz.ntmps50
 go_wp2_with fail
 generalize (w.alloc (.cells _ 26))=w1 at *
 have hb2:=fun d os=>hB.out.trans ((below_regrown w1 d os).mono hB.out.size)
 have HB2:=Lib.hid hb2
 have u:=fun d os=>hE.regrown d os
 unfold EntAt at u
 obtain ⟨c0,c1,c2,c3,c4,c5,c6,c7,c8,c9,c10,c11,c12,c13,c14⟩:=id hE
 have v0:=fun d os=>(u d os).1
 have v1:=fun d os=>(u d os).2.1
 have v2:=fun d os=>(u d os).2.2.1
 have v3:=fun d os=>(u d os).2.2.2.1
 have v4:=fun d os=>(u d os).2.2.2.2.1
 have v5:=fun d os=>(u d os).2.2.2.2.2.1
 have v6:=fun d os=>(u d os).2.2.2.2.2.2.1
 have v7:=fun d os=>(u d os).2.2.2.2.2.2.2.1
 have v8:=fun d os=>(u d os).2.2.2.2.2.2.2.2.1
 have v9:=fun d os=>(u d os).2.2.2.2.2.2.2.2.2.1
 have v10:=fun d os=>(u d os).2.2.2.2.2.2.2.2.2.2.1
 have v11:=fun d os=>(u d os).2.2.2.2.2.2.2.2.2.2.2.1
 have v12:=fun d os=>(u d os).2.2.2.2.2.2.2.2.2.2.2.2.1
 have v13:=fun d os=>(u d os).2.2.2.2.2.2.2.2.2.2.2.2.2.1
 have v14:=fun d os=>(u d os).2.2.2.2.2.2.2.2.2.2.2.2.2.2
 clear u hE hb2
 go_wp2_with fail
 have fin:∀ (x:Bool),True:=fun _=>trivial
 cases h1:decide (0≤e.size)
 case' true=>cases h2:decide (e.size≤4000)
 case' true.true=>cases b1
 case' true.true.true=>cases b2
 all_goals
  refine wp_region_quiet_below (by kernel_rfl) (by kernel_rfl) ?_
  repeat (go_big_quiet_step (first
   |(go_at_call 74;with_reducible exact Calls.regrown_of (CP.out _))
   |(go_at_call 94;with_reducible exact Calls.regrown_of (CR.out _ (HB2.out _ _)))
   |(go_at_call 95;with_reducible exact Calls.regrown_of (CZ.out _ (HB2.out _ _)))))
  refine wpQuiet_nil ?_
  intro _ hw'
  obtain ⟨⟨dq,osq⟩,hw''⟩:=hw'
  subst hw''
  have hq:=Lib.hid (HB2.out dq osq)
  dsimp only at *
  generalize Sort.grow (redrawn _ dq) osq=w2 at *
  go_wp2
  go_ret
  exact ⟨by simp only [*];rfl,hq.out⟩
end Go.Proofs.YtdjcjaidklgamaaGreatDoor
end
set_option linter.unusedSimpArgs false
set_option linter.unusedVariables false
section
namespace Go.Proofs.YtdjcjaidklgamaaGreatDoor
open Go.RowKit Go.Joins
set_option linter.unusedVariables false
set_option linter.unusedSimpArgs false
set_option maxRecDepth 100000 in
set_option maxHeartbeats 8000000 in
theorem rightData_none (e:EntL) (k:UInt8) (hk:e.kind=k) (h5:k=49∨k=50∨k=51∨k=52∨k=53∨k=54) (ad:Option Addr) (cap:Nat) (ho:EntOk e) (w:World) :
  Calls Tryz.prog 50 #[entV e (.slice ad e.map.length cap)] w fun r w'=>r=.returned (.bool (decide (e.size=0)&&!sparseE e))∧Below w.heap.size w w':=by
 have hdt:e.data.length≤9223372036854775807:=reach_fits ho.texts.2.2.2.2
 have CP:=Lib.hid (fun w=>sparse_any e ad cap hdt w)
 have hE:=Lib.hid (EntAt.new w e (.slice ad e.map.length cap) 26)
 have hB:=Lib.hid (below_alloc1 w (.cells (entC e (.slice ad e.map.length cap)) 26))
 clear ho
 have g48:((e.kind.toNat:Int)==48)=(k==48):=by rw [← hk];exact u8_at _ 48 (by omega)
 have g49:((e.kind.toNat:Int)==49)=(k==49):=by rw [← hk];exact u8_at _ 49 (by omega)
 have g50:((e.kind.toNat:Int)==50)=(k==50):=by rw [← hk];exact u8_at _ 50 (by omega)
 have g51:((e.kind.toNat:Int)==51)=(k==51):=by rw [← hk];exact u8_at _ 51 (by omega)
 have g52:((e.kind.toNat:Int)==52)=(k==52):=by rw [← hk];exact u8_at _ 52 (by omega)
 have g53:((e.kind.toNat:Int)==53)=(k==53):=by rw [← hk];exact u8_at _ 53 (by omega)
 have g54:((e.kind.toNat:Int)==54)=(k==54):=by rw [← hk];exact u8_at _ 54 (by omega)
 clear hk
 generalize sparseE _=b1 at *
 unfold entC at hB hE
 unfold entV at CP ⊢
 obtain ⟨a0,a1,a2,a3,a4,a5,a6,a7,a8,a9,a10,a11,a12,a13,a14⟩:=e
 simp only at *
 generalize a14.length=n at *
 cases h0:decide (a5=0)
 case' true=>obtain rfl:=of_decide_eq_true h0
 case' false=>have h1:(a5==0)=false:=by rw [beq_eq_false_iff_ne];exact of_decide_eq_false h0
 all_goals
  clear h0
  rcases h5 with rfl|rfl|rfl|rfl|rfl|rfl
 all_goals
  change _=false at g48
  first|change _=false at g49|change _=true at g49
  first|change _=false at g50|change _=true at g50
  first|change _=false at g51|change _=true at g51
  first|change _=false at g52|change _=true at g52
  first|change _=false at g53|change _=true at g53
  first|change _=false at g54|change _=true at g54
  go_enter Tryz.func50,Tryz.ntmps50
  go_wp2_with (first
   |(go_at_call 74;(with_reducible refine (CP.out _).mono ?_);rintro r w2 ⟨rfl,h2⟩)
   | fail)
  go_ret
  exact ⟨rfl,by first|exact hB.out|exact hB.out.trans (h2.mono hB.out.size)⟩
set_option maxRecDepth 100000 in
set_option maxHeartbeats 8000000 in
theorem rightData_other (e:EntL) (h48:¬ (e.kind.toNat:Int)=48) (h49:¬ (e.kind.toNat:Int)=49) (h50:¬ (e.kind.toNat:Int)=50) (h51:¬ (e.kind.toNat:Int)=51) (h52:¬ (e.kind.toNat:Int)=52) (h53:¬ (e.kind.toNat:Int)=53) (h54:¬ (e.kind.toNat:Int)=54) (v:Value) (w:World) :
  Calls Tryz.prog 50 #[entV e v] w fun r w'=>r=.returned (.bool false)∧Below w.heap.size w w':=by
 have g48:((e.kind.toNat:Int)==48)=false:=by rw [beq_eq_false_iff_ne];exact h48
 have g49:((e.kind.toNat:Int)==49)=false:=by rw [beq_eq_false_iff_ne];exact h49
 have g50:((e.kind.toNat:Int)==50)=false:=by rw [beq_eq_false_iff_ne];exact h50
 have g51:((e.kind.toNat:Int)==51)=false:=by rw [beq_eq_false_iff_ne];exact h51
 have g52:((e.kind.toNat:Int)==52)=false:=by rw [beq_eq_false_iff_ne];exact h52
 have g53:((e.kind.toNat:Int)==53)=false:=by rw [beq_eq_false_iff_ne];exact h53
 have g54:((e.kind.toNat:Int)==54)=false:=by rw [beq_eq_false_iff_ne];exact h54
 clear h48 h49 h50 h51 h52 h53 h54
 unfold entV
 go_enter Tryz.func50,Tryz.ntmps50
 go_wp2_with fail
 go_ret
 exact ⟨rfl,below_alloc1 _ _⟩
theorem rightData_any (e:EntL) (ad:Option Addr) (cap:Nat) (ho:EntOk e) (w:World) (hM:PiecesAt w ad e.map) :
  Calls Tryz.prog 50 #[entV e (.slice ad e.map.length cap)] w fun r w'=>r=.returned (.bool (rightD e))∧Below w.heap.size w w':=by
 unfold rightD
 have none:∀ k,(k=49∨k=50∨k=51∨k=52∨k=53∨k=54)→e.kind=k→Calls Tryz.prog 50 #[entV e (.slice ad e.map.length cap)] w fun r w'=>r=.returned (.bool (if e.kind=48 then fitsI e.size 4000&&(!sparseE e || (mapRight e.map e.size&&decide ((e.data.length:Int)=sizeF 0 e.map))) else if 49≤e.kind∧e.kind≤54 then decide (e.size=0)&&!sparseE e else false))∧Below w.heap.size w w':=fun k hk he=>by
  rw [if_neg (by rw [he];rcases hk with rfl|rfl|rfl|rfl|rfl|rfl <;> decide),if_pos (by rw [he];rcases hk with rfl|rfl|rfl|rfl|rfl|rfl <;> decide)]
  exact rightData_none e k he hk ad cap ho w
 rcases kind_cases e.kind with h|h|h|h|h|h|h|⟨h0,h1,h2,h3,h4,h5,h6,h7,h8⟩
 ·rw [if_pos h]
  exact rightData_file e (by rw [h];rfl) ad cap ho w hM
 ·exact none _ (.inl rfl) h
 ·exact none _ (.inr (.inl rfl)) h
 ·exact none _ (.inr (.inr (.inl rfl))) h
 ·exact none _ (.inr (.inr (.inr (.inl rfl)))) h
 ·exact none _ (.inr (.inr (.inr (.inr (.inl rfl))))) h
 ·exact none _ (.inr (.inr (.inr (.inr (.inr rfl))))) h
 ·rw [if_neg h7,if_neg h8]
  exact rightData_other e h0 h1 h2 h3 h4 h5 h6 _ w
set_option maxRecDepth 100000 in
set_option maxHeartbeats 8000000 in
theorem rightM_any (e:EntL) (ad:Option Addr) (cap:Nat) (ho:EntOk e) (w:World) (hM:PiecesAt w ad e.map) :
  Calls Tryz.prog 23 #[entV e (.slice ad e.map.length cap)] w fun r w'=>r=.returned (.bool (rightE e))∧Below w.heap.size w w':=by
 have z:=ho.texts
 have CT:=Lib.hid (rightTexts_any e (.slice ad e.map.length cap) ⟨reach_fits z.1,reach_fits z.2.1,reach_fits z.2.2.1,reach_fits z.2.2.2.1⟩)
 have CN:=Lib.hid (rightNumbers_any e (.slice ad e.map.length cap))
 have CD:=Lib.hid (fun W (h:Below w.heap.size w W)=>rightData_any e ad cap ho W (hM.below h))
 have hE:=Lib.hid (EntAt.new w e (.slice ad e.map.length cap) 26)
 have hB:=Lib.hid (below_alloc1 w (.cells (entC e (.slice ad e.map.length cap)) 26))
 clear ho hM z
 unfold rightE
 generalize rightT e=b0 at *
 generalize rightN e=b1 at *
 generalize rightD e=b2 at *
 unfold entC at hB hE
 unfold entV at CT CN CD ⊢
 generalize e.map.length=n at *
 cases b0
 case' true=>cases b1
 all_goals
  go_enter Tryz.func23,Tryz.ntmps23
  go_wp2_with (first
   |(go_at_call 48;(with_reducible refine (CT.out _).mono ?_);rintro r w2 ⟨rfl,h2⟩;have hB2:=Lib.hid (hB.out.trans (h2.mono hB.out.size));have hE2:=Lib.hid (hE.out.below h2 hE.out.lt);clear h2;obtain ⟨c0,c1,c2,c3,c4,c5,c6,c7,c8,c9,c10,c11,c12,c13,c14⟩:=id hE2.out)
   |(go_at_call 49;(with_reducible refine (CN.out _).mono ?_);rintro r w3 ⟨rfl,h3⟩;have hB3:=Lib.hid (hB2.out.trans (h3.mono hB2.out.size));have hE3:=Lib.hid (hE2.out.below h3 hE2.out.lt);clear h3 c0 c1 c2 c3 c4 c5 c6 c7 c8 c9 c10 c11 c12 c13 c14;obtain ⟨c0,c1,c2,c3,c4,c5,c6,c7,c8,c9,c10,c11,c12,c13,c14⟩:=id hE3.out)
   |(go_at_call 50;(with_reducible refine (CD.out _ hB3.out).mono ?_);rintro r w4 ⟨rfl,h4⟩;have hB4:=Lib.hid (hB3.out.trans (h4.mono hB3.out.size));clear h4)
   | fail)
  go_ret
  exact ⟨by first|rfl|(cases b2 <;> rfl),by first|exact hB4.out|exact hB3.out|exact hB2.out⟩
end Go.Proofs.YtdjcjaidklgamaaGreatDoor
end
