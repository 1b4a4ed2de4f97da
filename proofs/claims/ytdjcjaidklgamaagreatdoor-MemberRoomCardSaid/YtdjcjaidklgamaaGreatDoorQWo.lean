import Derived.Test.YtdjcjaidklgamaaGreatDoorQWh
import Derived.Test.YtdjcjaidklgamaaGreatDoorQEp
import Derived.Deep.DeepCutAuto
set_option linter.unusedSimpArgs false
set_option linter.unusedVariables false
section
namespace Go.Proofs.YtdjcjaidklgamaaGreatDoor
open Go.RowKit Go.Joins
set_option linter.unusedVariables false
set_option linter.unusedSimpArgs false
theorem storedE_len (e:EntL):(storedE e).length≤e.name.length+1:=by
 unfold storedE
 split <;> simp
theorem storedName_any (e:EntL) (v:Value) (hn:e.name.length≤1000000) (w:World) :
  Calls Tryz.prog 72 #[entV e v] w fun r w'=>r=.returned (.string (mkS (storedE e)))∧Below w.heap.size w w':=by
 have g:((e.kind.toNat:Int)==53)=(e.kind==53):=u8_at e.kind 53 (by omega)
 have hcat:∀ w,(Op.stringOp .add (mkS e.name) (⟨#[47]⟩:ByteArray)).run Tryz.prog w=.ok (.string (mkS (e.name++[47]))) w:=fun w=>mkS_cat2 e.name [47] (by simp;omega) w
 unfold storedE entV
 by_cases h:e.kind=53
 ·rw [if_pos h]
  rw [show (e.kind==53)=true by rw [h];rfl] at g
  clear h
  go_enter Tryz.func72,Tryz.ntmps72
  go_wp2
  go_ret
  exact ⟨rfl,below_alloc1 _ _⟩
 ·rw [if_neg h]
  rw [show (e.kind==53)=false by simpa using h] at g
  clear h
  go_enter Tryz.func72,Tryz.ntmps72
  go_wp2
  go_ret
  exact ⟨rfl,below_alloc1 _ _⟩
theorem plainRaw_any (e:EntL) (v:Value) (w:World) :
  Calls Tryz.prog 73 #[entV e v] w fun r w'=>r=.returned (rawV (rawE e))∧Below w.heap.size w w':=by
 have s1:=mkS_size e.data
 unfold entV
 go_enter Tryz.func73,Tryz.ntmps73
 go_wp2
 refine bodyPost_ret (v:=rawV (rawE e)) (by simp [results,Tryz.results73,go_sem];exact ⟨rfl,rfl,rfl,rfl,rfl,rfl,rfl,rfl,rfl,rfl,rfl,rfl,rfl⟩) rfl ?_
 exact ⟨rfl,below_alloc2 _ _ _⟩
structure Held (e:EntL):Prop where
 ints:intsE e
 name:e.name.length≤10000
 link:e.link.length≤10000
 user:e.user.length≤10000
 group:e.group.length≤10000
 data:e.data.length≤20000
theorem Held.raw {e:EntL} (h:Held e):intsL (rawE e):=by
 obtain ⟨i1,i2,i3,i4,i5,i6,i7,i8⟩:=h.ints
 have hd:=h.data
 exact ⟨i1,i2,i3,by unfold i64 rawE;simp only;omega,i5,i7,i8⟩
theorem oldF_eq (d:Nat) (e:EntL):oldF d e=if (sparseE e || (e.nano != 0))=true then ([],2) else if (decide (d=1)&&((e.kind==51) || ((e.kind==52) || (e.kind==54))))=true then ([],2) else wholeF d { rawE e with kind:=if (decide (d=1)&&(e.kind==53))=true then 48 else e.kind } (storedE e) e.link e.data:=by
 unfold oldF
 have h1:(sparseE e=true∨e.nano≠0)↔(sparseE e || (e.nano != 0))=true:=by simp
 have h2:(d=1∧(e.kind=51∨e.kind=52∨e.kind=54))↔(decide (d=1)&&((e.kind==51) || ((e.kind==52) || (e.kind==54))))=true:=by simp
 have h3:(d=1∧e.kind=53)↔(decide (d=1)&&(e.kind==53))=true:=by simp
 simp only [h1,h2,h3]
 by_cases h:(decide (d=1)&&(e.kind==53))=true
 ·rw [if_pos h,if_pos h]
 ·rw [if_neg h,if_neg h];rfl
set_option maxRecDepth 100000 in
set_option maxHeartbeats 8000000 in
theorem writeOld_sparse (d:Nat) (hd:d=1∨d=2) (e:EntL) (hk:e.kind≠0) (ad:Option Addr) (cap:Nat) (ho:Held e) (hsp:sparseE e=true)  (w:World) :
  Calls Tryz.prog 43 #[.int .i64 (d:Int),entV e (.slice ad e.map.length cap)] w fun r w'=>r=.returned (.tuple #[.string (mkS (oldF d e).1),errV (oldF d e).2])∧Below w.heap.size w w':=by
 have hdt:e.data.length≤9223372036854775807:=by have:=ho.data;omega
 have CP:=Lib.hid (fun w=>sparse_any e ad cap hdt w)
 have CR:=Lib.hid (fun w=>plainRaw_any e (.slice ad e.map.length cap) w)
 have CS:=Lib.hid (fun w=>storedName_any e (.slice ad e.map.length cap) (by have:=ho.name;omega) w)
 have hd4:1≤d∧d≤4:=by omega
 have hsl:=storedE_len e
 have hri:=ho.raw
 have CW:=Lib.hid (fun (D:Int) (hD:D=(d:Int)) (k:UInt8) (h0:k≠0) w=>written_at D d hD hd4 { rawE e with kind:=k } (storedE e) e.link e.data h0 (by have:=ho.name;omega) (by have:=ho.link;omega) (by have:=ho.user;show e.user.length≤_;omega) (by have:=ho.group;show e.group.length≤_;omega) (by have:=ho.data;omega) hri w)
 have g51:((e.kind.toNat:Int)==51)=(e.kind==51):=u8_at e.kind 51 (by omega)
 have g52:((e.kind.toNat:Int)==52)=(e.kind==52):=u8_at e.kind 52 (by omega)
 have g53:((e.kind.toNat:Int)==53)=(e.kind==53):=u8_at e.kind 53 (by omega)
 have g54:((e.kind.toNat:Int)==54)=(e.kind==54):=u8_at e.kind 54 (by omega)
 have hE:=Lib.hid (EntAt.new w e (.slice ad e.map.length cap) 26)
 have hB:=Lib.hid (below_alloc1 w (.cells (entC e (.slice ad e.map.length cap)) 26))
 have hO:=oldF_eq d e
 rw [hO]
 have HK:=Lib.hid hk
 clear hk hO ho hdt hsl hri hd4
 unfold entC at hE hB
 unfold entV at CP CR CS ⊢
 unfold rawV at CR
 rw [hsp] at CP ⊢
 generalize e.map.length=n at *
 rw [Bool.true_or,if_pos rfl,show errV 2=.iface 68 (.int .i64 2) from rfl]
 go_enter Tryz.func43,Tryz.ntmps43
 go_wp2_with (first
  |(go_at_call 74;(with_reducible refine (CP.out _).mono ?_);rintro r w2 ⟨rfl,h2⟩;have hB2:=Lib.hid (hB.out.trans (h2.mono hB.out.size));have hE2:=Lib.hid (hE.out.below h2 hE.out.lt);clear h2;obtain ⟨c0,c1,c2,c3,c4,c5,c6,c7,c8,c9,c10,c11,c12,c13,c14⟩:=id hE2.out)
  |(go_at_call 73;(with_reducible refine (CR.out _).mono ?_);rintro r w3 ⟨rfl,h3⟩;have hB3:=Lib.hid (hB2.out.trans (h3.mono hB2.out.size));have hE3:=Lib.hid (hE2.out.below h3 hE2.out.lt);clear h3 c0 c1 c2 c3 c4 c5 c6 c7 c8 c9 c10 c11 c12 c13 c14;obtain ⟨c0,c1,c2,c3,c4,c5,c6,c7,c8,c9,c10,c11,c12,c13,c14⟩:=id hE3.out)
  | fail)
 go_ret2
 exact ⟨rfl,hB2.out⟩
set_option maxRecDepth 100000 in
set_option maxHeartbeats 8000000 in
theorem writeOld_nano (d:Nat) (hd:d=1∨d=2) (e:EntL) (hk:e.kind≠0) (ad:Option Addr) (cap:Nat) (ho:Held e) (hsp:sparseE e=false) (h0:¬ e.nano=0) (w:World) :
  Calls Tryz.prog 43 #[.int .i64 (d:Int),entV e (.slice ad e.map.length cap)] w fun r w'=>r=.returned (.tuple #[.string (mkS (oldF d e).1),errV (oldF d e).2])∧Below w.heap.size w w':=by
 have hdt:e.data.length≤9223372036854775807:=by have:=ho.data;omega
 have CP:=Lib.hid (fun w=>sparse_any e ad cap hdt w)
 have CR:=Lib.hid (fun w=>plainRaw_any e (.slice ad e.map.length cap) w)
 have CS:=Lib.hid (fun w=>storedName_any e (.slice ad e.map.length cap) (by have:=ho.name;omega) w)
 have hd4:1≤d∧d≤4:=by omega
 have hsl:=storedE_len e
 have hri:=ho.raw
 have CW:=Lib.hid (fun (D:Int) (hD:D=(d:Int)) (k:UInt8) (h0:k≠0) w=>written_at D d hD hd4 { rawE e with kind:=k } (storedE e) e.link e.data h0 (by have:=ho.name;omega) (by have:=ho.link;omega) (by have:=ho.user;show e.user.length≤_;omega) (by have:=ho.group;show e.group.length≤_;omega) (by have:=ho.data;omega) hri w)
 have g51:((e.kind.toNat:Int)==51)=(e.kind==51):=u8_at e.kind 51 (by omega)
 have g52:((e.kind.toNat:Int)==52)=(e.kind==52):=u8_at e.kind 52 (by omega)
 have g53:((e.kind.toNat:Int)==53)=(e.kind==53):=u8_at e.kind 53 (by omega)
 have g54:((e.kind.toNat:Int)==54)=(e.kind==54):=u8_at e.kind 54 (by omega)
 have hE:=Lib.hid (EntAt.new w e (.slice ad e.map.length cap) 26)
 have hB:=Lib.hid (below_alloc1 w (.cells (entC e (.slice ad e.map.length cap)) 26))
 have hO:=oldF_eq d e
 rw [hO]
 have HK:=Lib.hid hk
 clear hk hO ho hdt hsl hri hd4
 unfold entC at hE hB
 unfold entV at CP CR CS ⊢
 unfold rawV at CR
 rw [hsp] at CP ⊢
 generalize e.map.length=n at *
 have hn0:(e.nano != 0)=true:=by simpa using h0
 rw [hn0,Bool.false_or,if_pos rfl,show errV 2=.iface 68 (.int .i64 2) from rfl]
 clear h0
 go_enter Tryz.func43,Tryz.ntmps43
 go_wp2_with (first
  |(go_at_call 74;(with_reducible refine (CP.out _).mono ?_);rintro r w2 ⟨rfl,h2⟩;have hB2:=Lib.hid (hB.out.trans (h2.mono hB.out.size));have hE2:=Lib.hid (hE.out.below h2 hE.out.lt);clear h2;obtain ⟨c0,c1,c2,c3,c4,c5,c6,c7,c8,c9,c10,c11,c12,c13,c14⟩:=id hE2.out)
  |(go_at_call 73;(with_reducible refine (CR.out _).mono ?_);rintro r w3 ⟨rfl,h3⟩;have hB3:=Lib.hid (hB2.out.trans (h3.mono hB2.out.size));have hE3:=Lib.hid (hE2.out.below h3 hE2.out.lt);clear h3 c0 c1 c2 c3 c4 c5 c6 c7 c8 c9 c10 c11 c12 c13 c14;obtain ⟨c0,c1,c2,c3,c4,c5,c6,c7,c8,c9,c10,c11,c12,c13,c14⟩:=id hE3.out)
  | fail)
 go_ret2
 exact ⟨rfl,hB2.out⟩
set_option maxRecDepth 100000 in
set_option maxHeartbeats 8000000 in
theorem writeOld_bad51 (e:EntL) (hk:e.kind≠0) (ad:Option Addr) (cap:Nat) (ho:Held e) (hsp:sparseE e=false) (h0:e.nano=0) (h51:(e.kind==51)=true) (w:World) :
  Calls Tryz.prog 43 #[.int .i64 1,entV e (.slice ad e.map.length cap)] w fun r w'=>r=.returned (.tuple #[.string (mkS (oldF 1 e).1),errV (oldF 1 e).2])∧Below w.heap.size w w':=by
 have hdt:e.data.length≤9223372036854775807:=by have:=ho.data;omega
 have CP:=Lib.hid (fun w=>sparse_any e ad cap hdt w)
 have CR:=Lib.hid (fun w=>plainRaw_any e (.slice ad e.map.length cap) w)
 have CS:=Lib.hid (fun w=>storedName_any e (.slice ad e.map.length cap) (by have:=ho.name;omega) w)
 have hd4:1≤1∧1≤4:=by omega
 have hsl:=storedE_len e
 have hri:=ho.raw
 have CW:=Lib.hid (fun (D:Int) (hD:D=((1:Nat):Int)) (k:UInt8) (h0:k≠0) w=>written_at D 1 hD hd4 { rawE e with kind:=k } (storedE e) e.link e.data h0 (by have:=ho.name;omega) (by have:=ho.link;omega) (by have:=ho.user;show e.user.length≤_;omega) (by have:=ho.group;show e.group.length≤_;omega) (by have:=ho.data;omega) hri w)
 have g51:((e.kind.toNat:Int)==51)=(e.kind==51):=u8_at e.kind 51 (by omega)
 have g52:((e.kind.toNat:Int)==52)=(e.kind==52):=u8_at e.kind 52 (by omega)
 have g53:((e.kind.toNat:Int)==53)=(e.kind==53):=u8_at e.kind 53 (by omega)
 have g54:((e.kind.toNat:Int)==54)=(e.kind==54):=u8_at e.kind 54 (by omega)
 have hE:=Lib.hid (EntAt.new w e (.slice ad e.map.length cap) 26)
 have hB:=Lib.hid (below_alloc1 w (.cells (entC e (.slice ad e.map.length cap)) 26))
 have hO:=oldF_eq 1 e
 rw [hO]
 have HK:=Lib.hid hk
 clear hk hO ho hdt hsl hri hd4
 unfold entC at hE hB
 unfold entV at CP CR CS ⊢
 unfold rawV at CR
 rw [hsp] at CP ⊢
 generalize e.map.length=n at *
 have hn0:(e.nano != 0)=false:=by simpa using h0
 rw [hn0,Bool.false_or,if_neg (by simp)]
 clear h0
 rw [h51] at g51 ⊢
 clear h51
 clear g53 g52 g54
 rw [if_pos (by simp),show errV 2=.iface 68 (.int .i64 2) from rfl]
 go_enter Tryz.func43,Tryz.ntmps43
 go_upto_region 4 with (first
  |(go_at_call 74;(with_reducible refine (CP.out _).mono ?_);rintro r w2 ⟨rfl,h2⟩;have hB2:=Lib.hid (hB.out.trans (h2.mono hB.out.size));have hE2:=Lib.hid (hE.out.below h2 hE.out.lt);clear h2;obtain ⟨c0,c1,c2,c3,c4,c5,c6,c7,c8,c9,c10,c11,c12,c13,c14⟩:=id hE2.out)
  |(go_at_call 73;(with_reducible refine (CR.out _).mono ?_);rintro r w3 ⟨rfl,h3⟩;have hB3:=Lib.hid (hB2.out.trans (h3.mono hB2.out.size));have hE3:=Lib.hid (hE2.out.below h3 hE2.out.lt);clear h3 c0 c1 c2 c3 c4 c5 c6 c7 c8 c9 c10 c11 c12 c13 c14;obtain ⟨c0,c1,c2,c3,c4,c5,c6,c7,c8,c9,c10,c11,c12,c13,c14⟩:=id hE3.out)
  | fail)
 have hB4:=Lib.hid (hB3.out.alloc hB3.out.size (.cells (rawC (rawE e)) 117))
 have hE4:=Lib.hid (hE3.out.below ((Below.refl w3.heap.size w3).alloc (Nat.le_refl _) (.cells (rawC (rawE e)) 117)) hE3.out.lt)
 have hK4:=Lib.hid (show (w3.alloc (.cells (rawC (rawE e)) 117)).heap[w3.heap.size]?=some (.cells (rawC (rawE e)) 117 (0,0)) from heap_alloc_new w3 _)
 have hlt4:=Lib.hid (And.intro hE3.out.lt hB3.out.size)
 clear c0 c1 c2 c3 c4 c5 c6 c7 c8 c9 c10 c11 c12 c13 c14 hB2 hE2 hB3 hE3
 unfold rawC at hB4 hE4 hK4
 generalize (w3.alloc (.cells _ 117))=w4 at *
 generalize w3.heap.size=B at *
 clear w3
 obtain ⟨c0,c1,c2,c3,c4,c5,c6,c7,c8,c9,c10,c11,c12,c13,c14⟩:=id hE4.out
 have k5:=row_cell hK4.out 5 _ rfl
 have f5:=row_free hK4.out 5
 go_wp2_with fail
 go_ret2
 exact ⟨rfl,hB4.out⟩
set_option maxRecDepth 100000 in
set_option maxHeartbeats 8000000 in
theorem writeOld_bad52 (e:EntL) (hk:e.kind≠0) (ad:Option Addr) (cap:Nat) (ho:Held e) (hsp:sparseE e=false) (h0:e.nano=0) (h51:(e.kind==51)=false) (h52:(e.kind==52)=true) (w:World) :
  Calls Tryz.prog 43 #[.int .i64 1,entV e (.slice ad e.map.length cap)] w fun r w'=>r=.returned (.tuple #[.string (mkS (oldF 1 e).1),errV (oldF 1 e).2])∧Below w.heap.size w w':=by
 have hdt:e.data.length≤9223372036854775807:=by have:=ho.data;omega
 have CP:=Lib.hid (fun w=>sparse_any e ad cap hdt w)
 have CR:=Lib.hid (fun w=>plainRaw_any e (.slice ad e.map.length cap) w)
 have CS:=Lib.hid (fun w=>storedName_any e (.slice ad e.map.length cap) (by have:=ho.name;omega) w)
 have hd4:1≤1∧1≤4:=by omega
 have hsl:=storedE_len e
 have hri:=ho.raw
 have CW:=Lib.hid (fun (D:Int) (hD:D=((1:Nat):Int)) (k:UInt8) (h0:k≠0) w=>written_at D 1 hD hd4 { rawE e with kind:=k } (storedE e) e.link e.data h0 (by have:=ho.name;omega) (by have:=ho.link;omega) (by have:=ho.user;show e.user.length≤_;omega) (by have:=ho.group;show e.group.length≤_;omega) (by have:=ho.data;omega) hri w)
 have g51:((e.kind.toNat:Int)==51)=(e.kind==51):=u8_at e.kind 51 (by omega)
 have g52:((e.kind.toNat:Int)==52)=(e.kind==52):=u8_at e.kind 52 (by omega)
 have g53:((e.kind.toNat:Int)==53)=(e.kind==53):=u8_at e.kind 53 (by omega)
 have g54:((e.kind.toNat:Int)==54)=(e.kind==54):=u8_at e.kind 54 (by omega)
 have hE:=Lib.hid (EntAt.new w e (.slice ad e.map.length cap) 26)
 have hB:=Lib.hid (below_alloc1 w (.cells (entC e (.slice ad e.map.length cap)) 26))
 have hO:=oldF_eq 1 e
 rw [hO]
 have HK:=Lib.hid hk
 clear hk hO ho hdt hsl hri hd4
 unfold entC at hE hB
 unfold entV at CP CR CS ⊢
 unfold rawV at CR
 rw [hsp] at CP ⊢
 generalize e.map.length=n at *
 have hn0:(e.nano != 0)=false:=by simpa using h0
 rw [hn0,Bool.false_or,if_neg (by simp)]
 clear h0
 rw [h51] at g51 ⊢
 clear h51
 rw [h52] at g52 ⊢
 clear h52
 clear g53 g54
 rw [if_pos (by simp),show errV 2=.iface 68 (.int .i64 2) from rfl]
 go_enter Tryz.func43,Tryz.ntmps43
 go_upto_region 4 with (first
  |(go_at_call 74;(with_reducible refine (CP.out _).mono ?_);rintro r w2 ⟨rfl,h2⟩;have hB2:=Lib.hid (hB.out.trans (h2.mono hB.out.size));have hE2:=Lib.hid (hE.out.below h2 hE.out.lt);clear h2;obtain ⟨c0,c1,c2,c3,c4,c5,c6,c7,c8,c9,c10,c11,c12,c13,c14⟩:=id hE2.out)
  |(go_at_call 73;(with_reducible refine (CR.out _).mono ?_);rintro r w3 ⟨rfl,h3⟩;have hB3:=Lib.hid (hB2.out.trans (h3.mono hB2.out.size));have hE3:=Lib.hid (hE2.out.below h3 hE2.out.lt);clear h3 c0 c1 c2 c3 c4 c5 c6 c7 c8 c9 c10 c11 c12 c13 c14;obtain ⟨c0,c1,c2,c3,c4,c5,c6,c7,c8,c9,c10,c11,c12,c13,c14⟩:=id hE3.out)
  | fail)
 have hB4:=Lib.hid (hB3.out.alloc hB3.out.size (.cells (rawC (rawE e)) 117))
 have hE4:=Lib.hid (hE3.out.below ((Below.refl w3.heap.size w3).alloc (Nat.le_refl _) (.cells (rawC (rawE e)) 117)) hE3.out.lt)
 have hK4:=Lib.hid (show (w3.alloc (.cells (rawC (rawE e)) 117)).heap[w3.heap.size]?=some (.cells (rawC (rawE e)) 117 (0,0)) from heap_alloc_new w3 _)
 have hlt4:=Lib.hid (And.intro hE3.out.lt hB3.out.size)
 clear c0 c1 c2 c3 c4 c5 c6 c7 c8 c9 c10 c11 c12 c13 c14 hB2 hE2 hB3 hE3
 unfold rawC at hB4 hE4 hK4
 generalize (w3.alloc (.cells _ 117))=w4 at *
 generalize w3.heap.size=B at *
 clear w3
 obtain ⟨c0,c1,c2,c3,c4,c5,c6,c7,c8,c9,c10,c11,c12,c13,c14⟩:=id hE4.out
 have k5:=row_cell hK4.out 5 _ rfl
 have f5:=row_free hK4.out 5
 go_wp2_with fail
 go_ret2
 exact ⟨rfl,hB4.out⟩
set_option maxRecDepth 100000 in
set_option maxHeartbeats 8000000 in
theorem writeOld_bad54 (e:EntL) (hk:e.kind≠0) (ad:Option Addr) (cap:Nat) (ho:Held e) (hsp:sparseE e=false) (h0:e.nano=0) (h51:(e.kind==51)=false) (h52:(e.kind==52)=false) (h54:(e.kind==54)=true) (w:World) :
  Calls Tryz.prog 43 #[.int .i64 1,entV e (.slice ad e.map.length cap)] w fun r w'=>r=.returned (.tuple #[.string (mkS (oldF 1 e).1),errV (oldF 1 e).2])∧Below w.heap.size w w':=by
 have hdt:e.data.length≤9223372036854775807:=by have:=ho.data;omega
 have CP:=Lib.hid (fun w=>sparse_any e ad cap hdt w)
 have CR:=Lib.hid (fun w=>plainRaw_any e (.slice ad e.map.length cap) w)
 have CS:=Lib.hid (fun w=>storedName_any e (.slice ad e.map.length cap) (by have:=ho.name;omega) w)
 have hd4:1≤1∧1≤4:=by omega
 have hsl:=storedE_len e
 have hri:=ho.raw
 have CW:=Lib.hid (fun (D:Int) (hD:D=((1:Nat):Int)) (k:UInt8) (h0:k≠0) w=>written_at D 1 hD hd4 { rawE e with kind:=k } (storedE e) e.link e.data h0 (by have:=ho.name;omega) (by have:=ho.link;omega) (by have:=ho.user;show e.user.length≤_;omega) (by have:=ho.group;show e.group.length≤_;omega) (by have:=ho.data;omega) hri w)
 have g51:((e.kind.toNat:Int)==51)=(e.kind==51):=u8_at e.kind 51 (by omega)
 have g52:((e.kind.toNat:Int)==52)=(e.kind==52):=u8_at e.kind 52 (by omega)
 have g53:((e.kind.toNat:Int)==53)=(e.kind==53):=u8_at e.kind 53 (by omega)
 have g54:((e.kind.toNat:Int)==54)=(e.kind==54):=u8_at e.kind 54 (by omega)
 have hE:=Lib.hid (EntAt.new w e (.slice ad e.map.length cap) 26)
 have hB:=Lib.hid (below_alloc1 w (.cells (entC e (.slice ad e.map.length cap)) 26))
 have hO:=oldF_eq 1 e
 rw [hO]
 have HK:=Lib.hid hk
 clear hk hO ho hdt hsl hri hd4
 unfold entC at hE hB
 unfold entV at CP CR CS ⊢
 unfold rawV at CR
 rw [hsp] at CP ⊢
 generalize e.map.length=n at *
 have hn0:(e.nano != 0)=false:=by simpa using h0
 rw [hn0,Bool.false_or,if_neg (by simp)]
 clear h0
 rw [h51] at g51 ⊢
 clear h51
 rw [h52] at g52 ⊢
 clear h52
 rw [h54] at g54 ⊢
 clear h54
 clear g53
 rw [if_pos (by simp),show errV 2=.iface 68 (.int .i64 2) from rfl]
 go_enter Tryz.func43,Tryz.ntmps43
 go_upto_region 4 with (first
  |(go_at_call 74;(with_reducible refine (CP.out _).mono ?_);rintro r w2 ⟨rfl,h2⟩;have hB2:=Lib.hid (hB.out.trans (h2.mono hB.out.size));have hE2:=Lib.hid (hE.out.below h2 hE.out.lt);clear h2;obtain ⟨c0,c1,c2,c3,c4,c5,c6,c7,c8,c9,c10,c11,c12,c13,c14⟩:=id hE2.out)
  |(go_at_call 73;(with_reducible refine (CR.out _).mono ?_);rintro r w3 ⟨rfl,h3⟩;have hB3:=Lib.hid (hB2.out.trans (h3.mono hB2.out.size));have hE3:=Lib.hid (hE2.out.below h3 hE2.out.lt);clear h3 c0 c1 c2 c3 c4 c5 c6 c7 c8 c9 c10 c11 c12 c13 c14;obtain ⟨c0,c1,c2,c3,c4,c5,c6,c7,c8,c9,c10,c11,c12,c13,c14⟩:=id hE3.out)
  | fail)
 have hB4:=Lib.hid (hB3.out.alloc hB3.out.size (.cells (rawC (rawE e)) 117))
 have hE4:=Lib.hid (hE3.out.below ((Below.refl w3.heap.size w3).alloc (Nat.le_refl _) (.cells (rawC (rawE e)) 117)) hE3.out.lt)
 have hK4:=Lib.hid (show (w3.alloc (.cells (rawC (rawE e)) 117)).heap[w3.heap.size]?=some (.cells (rawC (rawE e)) 117 (0,0)) from heap_alloc_new w3 _)
 have hlt4:=Lib.hid (And.intro hE3.out.lt hB3.out.size)
 clear c0 c1 c2 c3 c4 c5 c6 c7 c8 c9 c10 c11 c12 c13 c14 hB2 hE2 hB3 hE3
 unfold rawC at hB4 hE4 hK4
 generalize (w3.alloc (.cells _ 117))=w4 at *
 generalize w3.heap.size=B at *
 clear w3
 obtain ⟨c0,c1,c2,c3,c4,c5,c6,c7,c8,c9,c10,c11,c12,c13,c14⟩:=id hE4.out
 have k5:=row_cell hK4.out 5 _ rfl
 have f5:=row_free hK4.out 5
 go_wp2_with fail
 go_ret2
 exact ⟨rfl,hB4.out⟩
set_option maxRecDepth 100000 in
set_option maxHeartbeats 8000000 in
theorem writeOld_dir (e:EntL) (hk:e.kind≠0) (ad:Option Addr) (cap:Nat) (ho:Held e) (hsp:sparseE e=false) (h0:e.nano=0) (h51:(e.kind==51)=false) (h52:(e.kind==52)=false) (h54:(e.kind==54)=false) (h53:(e.kind==53)=true) (w:World) :
  Calls Tryz.prog 43 #[.int .i64 1,entV e (.slice ad e.map.length cap)] w fun r w'=>r=.returned (.tuple #[.string (mkS (oldF 1 e).1),errV (oldF 1 e).2])∧Below w.heap.size w w':=by
 have hdt:e.data.length≤9223372036854775807:=by have:=ho.data;omega
 have CP:=Lib.hid (fun w=>sparse_any e ad cap hdt w)
 have CR:=Lib.hid (fun w=>plainRaw_any e (.slice ad e.map.length cap) w)
 have CS:=Lib.hid (fun w=>storedName_any e (.slice ad e.map.length cap) (by have:=ho.name;omega) w)
 have hd4:1≤1∧1≤4:=by omega
 have hsl:=storedE_len e
 have hri:=ho.raw
 have CW:=Lib.hid (fun (D:Int) (hD:D=((1:Nat):Int)) (k:UInt8) (h0:k≠0) w=>written_at D 1 hD hd4 { rawE e with kind:=k } (storedE e) e.link e.data h0 (by have:=ho.name;omega) (by have:=ho.link;omega) (by have:=ho.user;show e.user.length≤_;omega) (by have:=ho.group;show e.group.length≤_;omega) (by have:=ho.data;omega) hri w)
 have g51:((e.kind.toNat:Int)==51)=(e.kind==51):=u8_at e.kind 51 (by omega)
 have g52:((e.kind.toNat:Int)==52)=(e.kind==52):=u8_at e.kind 52 (by omega)
 have g53:((e.kind.toNat:Int)==53)=(e.kind==53):=u8_at e.kind 53 (by omega)
 have g54:((e.kind.toNat:Int)==54)=(e.kind==54):=u8_at e.kind 54 (by omega)
 have hE:=Lib.hid (EntAt.new w e (.slice ad e.map.length cap) 26)
 have hB:=Lib.hid (below_alloc1 w (.cells (entC e (.slice ad e.map.length cap)) 26))
 have hO:=oldF_eq 1 e
 rw [hO]
 have HK:=Lib.hid hk
 clear hk hO ho hdt hsl hri hd4
 unfold entC at hE hB
 unfold entV at CP CR CS ⊢
 unfold rawV at CR
 rw [hsp] at CP ⊢
 generalize e.map.length=n at *
 have hn0:(e.nano != 0)=false:=by simpa using h0
 rw [hn0,Bool.false_or,if_neg (by simp)]
 clear h0
 rw [h51] at g51 ⊢
 rw [h52] at g52 ⊢
 rw [h54] at g54 ⊢
 clear h51 h52 h54
 rw [h53] at g53 ⊢
 clear h53
 rw [if_neg (by simp),if_pos (by simp)]
 have CW1:=CW.out 1 rfl 48 (by first|decide|exact HK.out)
 obtain ⟨S,hS⟩:∃ S,wholeF 1 { rawE e with kind:=48 } (storedE e) e.link e.data=S:=⟨_,rfl⟩
 rw [hS] at CW1
 have CWK:Hid (∀ w,Calls Tryz.prog 71 #[.int .i64 1,.agg #[.string (mkS (rawE e).name),.string (mkS (rawE e).link),.string (mkS (rawE e).user),.string (mkS (rawE e).group),.string (mkS (rawE e).front),.int .u8 48,.int .i64 (rawE e).mode,.int .i64 (rawE e).uid,.int .i64 (rawE e).gid,.int .i64 (rawE e).size,.int .i64 (rawE e).time,.int .i64 (rawE e).major,.int .i64 (rawE e).minor],.string (mkS (storedE e)),.string (mkS e.link),.string (mkS e.data)] w fun r w'=>r=.returned (.tuple #[.string (mkS S.1),errV S.2])∧Below w.heap.size w w'):=Lib.hid CW1
 clear CW1
 suffices hG:Calls Tryz.prog 43 #[.int .i64 1,.agg #[.string (mkS e.name),.int .u8 (e.kind.toNat:Int),.int .i64 e.mode,.int .i64 e.uid,.int .i64 e.gid,.int .i64 e.size,.int .i64 e.sec,.int .i64 e.nano,.string (mkS e.link),.string (mkS e.user),.string (mkS e.group),.int .i64 e.major,.int .i64 e.minor,.string (mkS e.data),.slice ad n cap]] w fun r w'=>r=.returned (.tuple #[.string (mkS S.1),errV S.2])∧Below w.heap.size w w' by rw [← hS] at hG;exact hG
 clear hS
 obtain ⟨s,k⟩:=S
 simp only at CWK ⊢
 generalize errV k=K at *
 go_enter Tryz.func43,Tryz.ntmps43
 go_upto_region 4 with (first
  |(go_at_call 74;(with_reducible refine (CP.out _).mono ?_);rintro r w2 ⟨rfl,h2⟩;have hB2:=Lib.hid (hB.out.trans (h2.mono hB.out.size));have hE2:=Lib.hid (hE.out.below h2 hE.out.lt);clear h2;obtain ⟨c0,c1,c2,c3,c4,c5,c6,c7,c8,c9,c10,c11,c12,c13,c14⟩:=id hE2.out)
  |(go_at_call 73;(with_reducible refine (CR.out _).mono ?_);rintro r w3 ⟨rfl,h3⟩;have hB3:=Lib.hid (hB2.out.trans (h3.mono hB2.out.size));have hE3:=Lib.hid (hE2.out.below h3 hE2.out.lt);clear h3 c0 c1 c2 c3 c4 c5 c6 c7 c8 c9 c10 c11 c12 c13 c14;obtain ⟨c0,c1,c2,c3,c4,c5,c6,c7,c8,c9,c10,c11,c12,c13,c14⟩:=id hE3.out)
  | fail)
 have hB4:=Lib.hid (hB3.out.alloc hB3.out.size (.cells (rawC (rawE e)) 117))
 have hE4:=Lib.hid (hE3.out.below ((Below.refl w3.heap.size w3).alloc (Nat.le_refl _) (.cells (rawC (rawE e)) 117)) hE3.out.lt)
 have hK4:=Lib.hid (show (w3.alloc (.cells (rawC (rawE e)) 117)).heap[w3.heap.size]?=some (.cells (rawC (rawE e)) 117 (0,0)) from heap_alloc_new w3 _)
 have hlt4:=Lib.hid (And.intro hE3.out.lt hB3.out.size)
 clear c0 c1 c2 c3 c4 c5 c6 c7 c8 c9 c10 c11 c12 c13 c14 hB2 hE2 hB3 hE3
 unfold rawC at hB4 hE4 hK4
 generalize (w3.alloc (.cells _ 117))=w4 at *
 generalize w3.heap.size=B at *
 clear w3
 obtain ⟨c0,c1,c2,c3,c4,c5,c6,c7,c8,c9,c10,c11,c12,c13,c14⟩:=id hE4.out
 have k5:=row_cell hK4.out 5 _ rfl
 have f5:=row_free hK4.out 5
 go_upto_region 12 with fail
 have hS:=setCell_row (i:=5) (v:=.int .u8 48) hK4.out
 have hB5:=Lib.hid (hS.2 _ hlt4.out.2 _ hB4.out)
 have hE5:=Lib.hid (hE4.out.below (hS.2 B (Nat.le_refl _) _ (Below.refl _ _)) hlt4.out.1)
 have hR5:=Lib.hid (show RawAt (w4.setCell ⟨B,5,none⟩ (.int .u8 48)) B { rawE e with kind:=48 } from RawAt.of_row hS.1)
 clear hS
 generalize (w4.setCell ⟨B,5,none⟩ (.int .u8 48))=w5 at *
 clear c0 c1 c2 c3 c4 c5 c6 c7 c8 c9 c10 c11 c12 c13 c14 k5 f5
 obtain ⟨c0,c1,c2,c3,c4,c5,c6,c7,c8,c9,c10,c11,c12,c13,c14⟩:=id hE5.out
 obtain ⟨r0,r1,r2,r3,r4,r5,r6,r7,r8,r9,r10,r11,r12⟩:=id hR5.out
 change _=some (Value.int .u8 48) at r5
 have v0:=fun d os=>cell_regrown c0 d os
 have v1:=fun d os=>cell_regrown c1 d os
 have v2:=fun d os=>cell_regrown c2 d os
 have v3:=fun d os=>cell_regrown c3 d os
 have v4:=fun d os=>cell_regrown c4 d os
 have v5:=fun d os=>cell_regrown c5 d os
 have v6:=fun d os=>cell_regrown c6 d os
 have v7:=fun d os=>cell_regrown c7 d os
 have v8:=fun d os=>cell_regrown c8 d os
 have v9:=fun d os=>cell_regrown c9 d os
 have v10:=fun d os=>cell_regrown c10 d os
 have v11:=fun d os=>cell_regrown c11 d os
 have v12:=fun d os=>cell_regrown c12 d os
 have v13:=fun d os=>cell_regrown c13 d os
 have v14:=fun d os=>cell_regrown c14 d os
 have x0:=fun d os=>cell_regrown r0 d os
 have x1:=fun d os=>cell_regrown r1 d os
 have x2:=fun d os=>cell_regrown r2 d os
 have x3:=fun d os=>cell_regrown r3 d os
 have x4:=fun d os=>cell_regrown r4 d os
 have x5:=fun d os=>cell_regrown r5 d os
 have x6:=fun d os=>cell_regrown r6 d os
 have x7:=fun d os=>cell_regrown r7 d os
 have x8:=fun d os=>cell_regrown r8 d os
 have x9:=fun d os=>cell_regrown r9 d os
 have x10:=fun d os=>cell_regrown r10 d os
 have x11:=fun d os=>cell_regrown r11 d os
 have x12:=fun d os=>cell_regrown r12 d os
 clear c0 c1 c2 c3 c4 c5 c6 c7 c8 c9 c10 c11 c12 c13 c14 r0 r1 r2 r3 r4 r5 r6 r7 r8 r9 r10 r11 r12
 refine wp_region_quiet_below (by kernel_rfl) (by kernel_rfl) ?_
 repeat (go_big_quiet_step (first
  |(go_at_call 72;with_reducible exact Calls.regrown_of (CS.out _))
  |(go_at_call 71;with_reducible exact Calls.regrown_of (CWK.out _))))
 refine wpQuiet_nil ?_
 intro _ hw'
 obtain ⟨⟨dq,osq⟩,hw''⟩:=hw'
 subst hw''
 have hq:=Lib.hid (hB5.out.trans ((below_regrown _ dq osq).mono hB5.out.size))
 dsimp only at *
 generalize Sort.grow (redrawn _ dq) osq=w6 at *
 go_wp2_with fail
 go_ret2
 exact ⟨rfl,hq.out⟩
set_option maxRecDepth 100000 in
set_option maxHeartbeats 8000000 in
theorem writeOld_one (e:EntL) (hk:e.kind≠0) (ad:Option Addr) (cap:Nat) (ho:Held e) (hsp:sparseE e=false) (h0:e.nano=0) (h51:(e.kind==51)=false) (h52:(e.kind==52)=false) (h54:(e.kind==54)=false) (h53:(e.kind==53)=false) (w:World) :
  Calls Tryz.prog 43 #[.int .i64 1,entV e (.slice ad e.map.length cap)] w fun r w'=>r=.returned (.tuple #[.string (mkS (oldF 1 e).1),errV (oldF 1 e).2])∧Below w.heap.size w w':=by
 have hdt:e.data.length≤9223372036854775807:=by have:=ho.data;omega
 have CP:=Lib.hid (fun w=>sparse_any e ad cap hdt w)
 have CR:=Lib.hid (fun w=>plainRaw_any e (.slice ad e.map.length cap) w)
 have CS:=Lib.hid (fun w=>storedName_any e (.slice ad e.map.length cap) (by have:=ho.name;omega) w)
 have hd4:1≤1∧1≤4:=by omega
 have hsl:=storedE_len e
 have hri:=ho.raw
 have CW:=Lib.hid (fun (D:Int) (hD:D=((1:Nat):Int)) (k:UInt8) (h0:k≠0) w=>written_at D 1 hD hd4 { rawE e with kind:=k } (storedE e) e.link e.data h0 (by have:=ho.name;omega) (by have:=ho.link;omega) (by have:=ho.user;show e.user.length≤_;omega) (by have:=ho.group;show e.group.length≤_;omega) (by have:=ho.data;omega) hri w)
 have g51:((e.kind.toNat:Int)==51)=(e.kind==51):=u8_at e.kind 51 (by omega)
 have g52:((e.kind.toNat:Int)==52)=(e.kind==52):=u8_at e.kind 52 (by omega)
 have g53:((e.kind.toNat:Int)==53)=(e.kind==53):=u8_at e.kind 53 (by omega)
 have g54:((e.kind.toNat:Int)==54)=(e.kind==54):=u8_at e.kind 54 (by omega)
 have hE:=Lib.hid (EntAt.new w e (.slice ad e.map.length cap) 26)
 have hB:=Lib.hid (below_alloc1 w (.cells (entC e (.slice ad e.map.length cap)) 26))
 have hO:=oldF_eq 1 e
 rw [hO]
 have HK:=Lib.hid hk
 clear hk hO ho hdt hsl hri hd4
 unfold entC at hE hB
 unfold entV at CP CR CS ⊢
 unfold rawV at CR
 rw [hsp] at CP ⊢
 generalize e.map.length=n at *
 have hn0:(e.nano != 0)=false:=by simpa using h0
 rw [hn0,Bool.false_or,if_neg (by simp)]
 clear h0
 rw [h51] at g51 ⊢
 rw [h52] at g52 ⊢
 rw [h54] at g54 ⊢
 clear h51 h52 h54
 rw [h53] at g53 ⊢
 clear h53
 rw [if_neg (by simp),if_neg (by simp)]
 have CW1:=CW.out 1 rfl e.kind (by first|decide|exact HK.out)
 obtain ⟨S,hS⟩:∃ S,wholeF 1 { rawE e with kind:=e.kind } (storedE e) e.link e.data=S:=⟨_,rfl⟩
 rw [hS] at CW1
 have CWK:Hid (∀ w,Calls Tryz.prog 71 #[.int .i64 1,.agg #[.string (mkS (rawE e).name),.string (mkS (rawE e).link),.string (mkS (rawE e).user),.string (mkS (rawE e).group),.string (mkS (rawE e).front),.int .u8 (e.kind.toNat:Int),.int .i64 (rawE e).mode,.int .i64 (rawE e).uid,.int .i64 (rawE e).gid,.int .i64 (rawE e).size,.int .i64 (rawE e).time,.int .i64 (rawE e).major,.int .i64 (rawE e).minor],.string (mkS (storedE e)),.string (mkS e.link),.string (mkS e.data)] w fun r w'=>r=.returned (.tuple #[.string (mkS S.1),errV S.2])∧Below w.heap.size w w'):=Lib.hid CW1
 clear CW1
 suffices hG:Calls Tryz.prog 43 #[.int .i64 1,.agg #[.string (mkS e.name),.int .u8 (e.kind.toNat:Int),.int .i64 e.mode,.int .i64 e.uid,.int .i64 e.gid,.int .i64 e.size,.int .i64 e.sec,.int .i64 e.nano,.string (mkS e.link),.string (mkS e.user),.string (mkS e.group),.int .i64 e.major,.int .i64 e.minor,.string (mkS e.data),.slice ad n cap]] w fun r w'=>r=.returned (.tuple #[.string (mkS S.1),errV S.2])∧Below w.heap.size w w' by rw [← hS] at hG;exact hG
 clear hS
 obtain ⟨s,k⟩:=S
 simp only at CWK ⊢
 generalize errV k=K at *
 go_enter Tryz.func43,Tryz.ntmps43
 go_upto_region 4 with (first
  |(go_at_call 74;(with_reducible refine (CP.out _).mono ?_);rintro r w2 ⟨rfl,h2⟩;have hB2:=Lib.hid (hB.out.trans (h2.mono hB.out.size));have hE2:=Lib.hid (hE.out.below h2 hE.out.lt);clear h2;obtain ⟨c0,c1,c2,c3,c4,c5,c6,c7,c8,c9,c10,c11,c12,c13,c14⟩:=id hE2.out)
  |(go_at_call 73;(with_reducible refine (CR.out _).mono ?_);rintro r w3 ⟨rfl,h3⟩;have hB3:=Lib.hid (hB2.out.trans (h3.mono hB2.out.size));have hE3:=Lib.hid (hE2.out.below h3 hE2.out.lt);clear h3 c0 c1 c2 c3 c4 c5 c6 c7 c8 c9 c10 c11 c12 c13 c14;obtain ⟨c0,c1,c2,c3,c4,c5,c6,c7,c8,c9,c10,c11,c12,c13,c14⟩:=id hE3.out)
  | fail)
 have hB4:=Lib.hid (hB3.out.alloc hB3.out.size (.cells (rawC (rawE e)) 117))
 have hE4:=Lib.hid (hE3.out.below ((Below.refl w3.heap.size w3).alloc (Nat.le_refl _) (.cells (rawC (rawE e)) 117)) hE3.out.lt)
 have hK4:=Lib.hid (show (w3.alloc (.cells (rawC (rawE e)) 117)).heap[w3.heap.size]?=some (.cells (rawC (rawE e)) 117 (0,0)) from heap_alloc_new w3 _)
 have hlt4:=Lib.hid (And.intro hE3.out.lt hB3.out.size)
 clear c0 c1 c2 c3 c4 c5 c6 c7 c8 c9 c10 c11 c12 c13 c14 hB2 hE2 hB3 hE3
 unfold rawC at hB4 hE4 hK4
 generalize (w3.alloc (.cells _ 117))=w4 at *
 generalize w3.heap.size=B at *
 clear w3
 obtain ⟨c0,c1,c2,c3,c4,c5,c6,c7,c8,c9,c10,c11,c12,c13,c14⟩:=id hE4.out
 have k5:=row_cell hK4.out 5 _ rfl
 have f5:=row_free hK4.out 5
 go_upto_region 12 with fail
 have hB5:=hB4
 have hE5:=hE4
 have hR5:=Lib.hid (show RawAt w4 B { rawE e with kind:=e.kind } from RawAt.of_row hK4.out)
 clear c0 c1 c2 c3 c4 c5 c6 c7 c8 c9 c10 c11 c12 c13 c14 k5 f5
 obtain ⟨c0,c1,c2,c3,c4,c5,c6,c7,c8,c9,c10,c11,c12,c13,c14⟩:=id hE5.out
 obtain ⟨r0,r1,r2,r3,r4,r5,r6,r7,r8,r9,r10,r11,r12⟩:=id hR5.out
 have v0:=fun d os=>cell_regrown c0 d os
 have v1:=fun d os=>cell_regrown c1 d os
 have v2:=fun d os=>cell_regrown c2 d os
 have v3:=fun d os=>cell_regrown c3 d os
 have v4:=fun d os=>cell_regrown c4 d os
 have v5:=fun d os=>cell_regrown c5 d os
 have v6:=fun d os=>cell_regrown c6 d os
 have v7:=fun d os=>cell_regrown c7 d os
 have v8:=fun d os=>cell_regrown c8 d os
 have v9:=fun d os=>cell_regrown c9 d os
 have v10:=fun d os=>cell_regrown c10 d os
 have v11:=fun d os=>cell_regrown c11 d os
 have v12:=fun d os=>cell_regrown c12 d os
 have v13:=fun d os=>cell_regrown c13 d os
 have v14:=fun d os=>cell_regrown c14 d os
 have x0:=fun d os=>cell_regrown r0 d os
 have x1:=fun d os=>cell_regrown r1 d os
 have x2:=fun d os=>cell_regrown r2 d os
 have x3:=fun d os=>cell_regrown r3 d os
 have x4:=fun d os=>cell_regrown r4 d os
 have x5:=fun d os=>cell_regrown r5 d os
 have x6:=fun d os=>cell_regrown r6 d os
 have x7:=fun d os=>cell_regrown r7 d os
 have x8:=fun d os=>cell_regrown r8 d os
 have x9:=fun d os=>cell_regrown r9 d os
 have x10:=fun d os=>cell_regrown r10 d os
 have x11:=fun d os=>cell_regrown r11 d os
 have x12:=fun d os=>cell_regrown r12 d os
 clear c0 c1 c2 c3 c4 c5 c6 c7 c8 c9 c10 c11 c12 c13 c14 r0 r1 r2 r3 r4 r5 r6 r7 r8 r9 r10 r11 r12
 refine wp_region_quiet_below (by kernel_rfl) (by kernel_rfl) ?_
 repeat (go_big_quiet_step (first
  |(go_at_call 72;with_reducible exact Calls.regrown_of (CS.out _))
  |(go_at_call 71;with_reducible exact Calls.regrown_of (CWK.out _))))
 refine wpQuiet_nil ?_
 intro _ hw'
 obtain ⟨⟨dq,osq⟩,hw''⟩:=hw'
 subst hw''
 have hq:=Lib.hid (hB5.out.trans ((below_regrown _ dq osq).mono hB5.out.size))
 dsimp only at *
 generalize Sort.grow (redrawn _ dq) osq=w6 at *
 go_wp2_with fail
 go_ret2
 exact ⟨rfl,hq.out⟩
set_option maxRecDepth 100000 in
set_option maxHeartbeats 8000000 in
theorem writeOld_two (e:EntL) (hk:e.kind≠0) (ad:Option Addr) (cap:Nat) (ho:Held e) (hsp:sparseE e=false) (h0:e.nano=0) (w:World) :
  Calls Tryz.prog 43 #[.int .i64 2,entV e (.slice ad e.map.length cap)] w fun r w'=>r=.returned (.tuple #[.string (mkS (oldF 2 e).1),errV (oldF 2 e).2])∧Below w.heap.size w w':=by
 have hdt:e.data.length≤9223372036854775807:=by have:=ho.data;omega
 have CP:=Lib.hid (fun w=>sparse_any e ad cap hdt w)
 have CR:=Lib.hid (fun w=>plainRaw_any e (.slice ad e.map.length cap) w)
 have CS:=Lib.hid (fun w=>storedName_any e (.slice ad e.map.length cap) (by have:=ho.name;omega) w)
 have hd4:1≤2∧2≤4:=by omega
 have hsl:=storedE_len e
 have hri:=ho.raw
 have CW:=Lib.hid (fun (D:Int) (hD:D=((2:Nat):Int)) (k:UInt8) (h0:k≠0) w=>written_at D 2 hD hd4 { rawE e with kind:=k } (storedE e) e.link e.data h0 (by have:=ho.name;omega) (by have:=ho.link;omega) (by have:=ho.user;show e.user.length≤_;omega) (by have:=ho.group;show e.group.length≤_;omega) (by have:=ho.data;omega) hri w)
 have g51:((e.kind.toNat:Int)==51)=(e.kind==51):=u8_at e.kind 51 (by omega)
 have g52:((e.kind.toNat:Int)==52)=(e.kind==52):=u8_at e.kind 52 (by omega)
 have g53:((e.kind.toNat:Int)==53)=(e.kind==53):=u8_at e.kind 53 (by omega)
 have g54:((e.kind.toNat:Int)==54)=(e.kind==54):=u8_at e.kind 54 (by omega)
 have hE:=Lib.hid (EntAt.new w e (.slice ad e.map.length cap) 26)
 have hB:=Lib.hid (below_alloc1 w (.cells (entC e (.slice ad e.map.length cap)) 26))
 have hO:=oldF_eq 2 e
 rw [hO]
 have HK:=Lib.hid hk
 clear hk hO ho hdt hsl hri hd4
 unfold entC at hE hB
 unfold entV at CP CR CS ⊢
 unfold rawV at CR
 rw [hsp] at CP ⊢
 generalize e.map.length=n at *
 have hn0:(e.nano != 0)=false:=by simpa using h0
 rw [hn0,Bool.false_or,if_neg (by simp)]
 clear h0
 rw [show decide (2=1)=false from rfl,Bool.false_and,Bool.false_and,if_neg (by simp),if_neg (by simp)]
 clear g51 g52 g53 g54
 have CW1:=CW.out 2 rfl e.kind (by first|decide|exact HK.out)
 obtain ⟨S,hS⟩:∃ S,wholeF 2 { rawE e with kind:=e.kind } (storedE e) e.link e.data=S:=⟨_,rfl⟩
 rw [hS] at CW1
 have CWK:Hid (∀ w,Calls Tryz.prog 71 #[.int .i64 2,.agg #[.string (mkS (rawE e).name),.string (mkS (rawE e).link),.string (mkS (rawE e).user),.string (mkS (rawE e).group),.string (mkS (rawE e).front),.int .u8 (e.kind.toNat:Int),.int .i64 (rawE e).mode,.int .i64 (rawE e).uid,.int .i64 (rawE e).gid,.int .i64 (rawE e).size,.int .i64 (rawE e).time,.int .i64 (rawE e).major,.int .i64 (rawE e).minor],.string (mkS (storedE e)),.string (mkS e.link),.string (mkS e.data)] w fun r w'=>r=.returned (.tuple #[.string (mkS S.1),errV S.2])∧Below w.heap.size w w'):=Lib.hid CW1
 clear CW1
 suffices hG:Calls Tryz.prog 43 #[.int .i64 2,.agg #[.string (mkS e.name),.int .u8 (e.kind.toNat:Int),.int .i64 e.mode,.int .i64 e.uid,.int .i64 e.gid,.int .i64 e.size,.int .i64 e.sec,.int .i64 e.nano,.string (mkS e.link),.string (mkS e.user),.string (mkS e.group),.int .i64 e.major,.int .i64 e.minor,.string (mkS e.data),.slice ad n cap]] w fun r w'=>r=.returned (.tuple #[.string (mkS S.1),errV S.2])∧Below w.heap.size w w' by rw [← hS] at hG;exact hG
 clear hS
 obtain ⟨s,k⟩:=S
 simp only at CWK ⊢
 generalize errV k=K at *
 go_enter Tryz.func43,Tryz.ntmps43
 go_upto_region 4 with (first
  |(go_at_call 74;(with_reducible refine (CP.out _).mono ?_);rintro r w2 ⟨rfl,h2⟩;have hB2:=Lib.hid (hB.out.trans (h2.mono hB.out.size));have hE2:=Lib.hid (hE.out.below h2 hE.out.lt);clear h2;obtain ⟨c0,c1,c2,c3,c4,c5,c6,c7,c8,c9,c10,c11,c12,c13,c14⟩:=id hE2.out)
  |(go_at_call 73;(with_reducible refine (CR.out _).mono ?_);rintro r w3 ⟨rfl,h3⟩;have hB3:=Lib.hid (hB2.out.trans (h3.mono hB2.out.size));have hE3:=Lib.hid (hE2.out.below h3 hE2.out.lt);clear h3 c0 c1 c2 c3 c4 c5 c6 c7 c8 c9 c10 c11 c12 c13 c14;obtain ⟨c0,c1,c2,c3,c4,c5,c6,c7,c8,c9,c10,c11,c12,c13,c14⟩:=id hE3.out)
  | fail)
 have hB4:=Lib.hid (hB3.out.alloc hB3.out.size (.cells (rawC (rawE e)) 117))
 have hE4:=Lib.hid (hE3.out.below ((Below.refl w3.heap.size w3).alloc (Nat.le_refl _) (.cells (rawC (rawE e)) 117)) hE3.out.lt)
 have hK4:=Lib.hid (show (w3.alloc (.cells (rawC (rawE e)) 117)).heap[w3.heap.size]?=some (.cells (rawC (rawE e)) 117 (0,0)) from heap_alloc_new w3 _)
 have hlt4:=Lib.hid (And.intro hE3.out.lt hB3.out.size)
 clear c0 c1 c2 c3 c4 c5 c6 c7 c8 c9 c10 c11 c12 c13 c14 hB2 hE2 hB3 hE3
 unfold rawC at hB4 hE4 hK4
 generalize (w3.alloc (.cells _ 117))=w4 at *
 generalize w3.heap.size=B at *
 clear w3
 obtain ⟨c0,c1,c2,c3,c4,c5,c6,c7,c8,c9,c10,c11,c12,c13,c14⟩:=id hE4.out
 have k5:=row_cell hK4.out 5 _ rfl
 have f5:=row_free hK4.out 5
 go_upto_region 12 with fail
 have hB5:=hB4
 have hE5:=hE4
 have hR5:=Lib.hid (show RawAt w4 B { rawE e with kind:=e.kind } from RawAt.of_row hK4.out)
 clear c0 c1 c2 c3 c4 c5 c6 c7 c8 c9 c10 c11 c12 c13 c14 k5 f5
 obtain ⟨c0,c1,c2,c3,c4,c5,c6,c7,c8,c9,c10,c11,c12,c13,c14⟩:=id hE5.out
 obtain ⟨r0,r1,r2,r3,r4,r5,r6,r7,r8,r9,r10,r11,r12⟩:=id hR5.out
 have v0:=fun d os=>cell_regrown c0 d os
 have v1:=fun d os=>cell_regrown c1 d os
 have v2:=fun d os=>cell_regrown c2 d os
 have v3:=fun d os=>cell_regrown c3 d os
 have v4:=fun d os=>cell_regrown c4 d os
 have v5:=fun d os=>cell_regrown c5 d os
 have v6:=fun d os=>cell_regrown c6 d os
 have v7:=fun d os=>cell_regrown c7 d os
 have v8:=fun d os=>cell_regrown c8 d os
 have v9:=fun d os=>cell_regrown c9 d os
 have v10:=fun d os=>cell_regrown c10 d os
 have v11:=fun d os=>cell_regrown c11 d os
 have v12:=fun d os=>cell_regrown c12 d os
 have v13:=fun d os=>cell_regrown c13 d os
 have v14:=fun d os=>cell_regrown c14 d os
 have x0:=fun d os=>cell_regrown r0 d os
 have x1:=fun d os=>cell_regrown r1 d os
 have x2:=fun d os=>cell_regrown r2 d os
 have x3:=fun d os=>cell_regrown r3 d os
 have x4:=fun d os=>cell_regrown r4 d os
 have x5:=fun d os=>cell_regrown r5 d os
 have x6:=fun d os=>cell_regrown r6 d os
 have x7:=fun d os=>cell_regrown r7 d os
 have x8:=fun d os=>cell_regrown r8 d os
 have x9:=fun d os=>cell_regrown r9 d os
 have x10:=fun d os=>cell_regrown r10 d os
 have x11:=fun d os=>cell_regrown r11 d os
 have x12:=fun d os=>cell_regrown r12 d os
 clear c0 c1 c2 c3 c4 c5 c6 c7 c8 c9 c10 c11 c12 c13 c14 r0 r1 r2 r3 r4 r5 r6 r7 r8 r9 r10 r11 r12
 refine wp_region_quiet_below (by kernel_rfl) (by kernel_rfl) ?_
 repeat (go_big_quiet_step (first
  |(go_at_call 72;with_reducible exact Calls.regrown_of (CS.out _))
  |(go_at_call 71;with_reducible exact Calls.regrown_of (CWK.out _))))
 refine wpQuiet_nil ?_
 intro _ hw'
 obtain ⟨⟨dq,osq⟩,hw''⟩:=hw'
 subst hw''
 have hq:=Lib.hid (hB5.out.trans ((below_regrown _ dq osq).mono hB5.out.size))
 dsimp only at *
 generalize Sort.grow (redrawn _ dq) osq=w6 at *
 go_wp2_with fail
 go_ret2
 exact ⟨rfl,hq.out⟩
set_option maxRecDepth 100000 in
set_option maxHeartbeats 8000000 in
theorem writeOld_any (d:Nat) (hd:d=1∨d=2) (e:EntL) (hk:e.kind≠0) (ad:Option Addr) (cap:Nat) (ho:Held e) (w:World) :
  Calls Tryz.prog 43 #[.int .i64 (d:Int),entV e (.slice ad e.map.length cap)] w fun r w'=>r=.returned (.tuple #[.string (mkS (oldF d e).1),errV (oldF d e).2])∧Below w.heap.size w w':=by
 cases hsp:sparseE e with
 | true=>exact writeOld_sparse d hd e hk ad cap ho hsp w
 | false =>
  by_cases h0:e.nano=0
  ·rcases hd with rfl|rfl
   ·cases h51:(e.kind==51) with
    | true=>exact writeOld_bad51 e hk ad cap ho hsp h0 h51 w
    | false =>
     cases h52:(e.kind==52) with
     | true=>exact writeOld_bad52 e hk ad cap ho hsp h0 h51 h52 w
     | false =>
      cases h54:(e.kind==54) with
      | true=>exact writeOld_bad54 e hk ad cap ho hsp h0 h51 h52 h54 w
      | false =>
       cases h53:(e.kind==53) with
       | true=>exact writeOld_dir e hk ad cap ho hsp h0 h51 h52 h54 h53 w
       | false=>exact writeOld_one e hk ad cap ho hsp h0 h51 h52 h54 h53 w
   ·exact writeOld_two e hk ad cap ho hsp h0 w
  ·exact writeOld_nano d hd e hk ad cap ho hsp h0 w
end Go.Proofs.YtdjcjaidklgamaaGreatDoor
end
