import Derived.Test.YtdjcjaidklgamaaGreatDoorQGu
import Derived.Test.YtdjcjaidklgamaaGreatDoorQWo
import Derived.Test.YtdjcjaidklgamaaGreatDoorQBr
import Derived.Test.YtdjcjaidklgamaaGreatDoorQEp
set_option linter.unusedSimpArgs false
set_option linter.unusedVariables false
section
namespace Go.Proofs.YtdjcjaidklgamaaGreatDoor
open Go.RowKit Go.Joins
set_option linter.unusedVariables false
set_option linter.unusedSimpArgs false
theorem longF_le (k:UInt8) (hk:k≠0) (t:List UInt8) (ht:t.length≤2000):(longF k t).length≤5000:=by
 unfold longF
 by_cases h:100<t.length
 ·rw [if_pos h]
  have:=fillL_le (t++[0])
  have h3:(writeL 3 (rawLong k (t.length+1))).length=512:=write_length (goodLong k hk _ (by omega) (by omega))
  rw [List.length_append] at *
  rw [List.length_singleton] at this
  omega
 ·rw [if_neg h];decide
theorem whole_two (d:Nat) (R:RawL) (n link data:List UInt8):(∃ s,wholeF d R n link data=(s,0))∨wholeF d R n link data=([],2):=by
 unfold wholeF
 split
 ·exact .inl ⟨_,rfl⟩
 ·exact .inr rfl
theorem whole_len (d:Nat) (R:RawL) (n link data:List UInt8):(wholeF d R n link data).1.length≤data.length+1100:=by
 unfold wholeF
 split
 ·next h =>
  have h1:=write_length h.2
  have h2:=fillL_le data
  show (writeL _ _++fillL data).length≤_
  rw [List.length_append,h1]
  omega
 ·simp
theorem whole_ge {d:Nat} {R:RawL} {n link data X:List UInt8} (h:wholeF d R n link data=(X,0)):512≤X.length:=by
 unfold wholeF at h
 split at h
 ·next h2 =>
  have h1:=write_length h2.2
  have hX:=(Prod.mk.inj h).1
  rw [← hX,List.length_append,h1]
  omega
 ·simp at h
theorem holesF_len (X:List UInt8) (e:EntL) (h:512≤X.length):(holesF X e).length≤X.length+1100:=by
 have h1:=octL_length e.size
 have h2:=listF_len e.map 4
 have h3:=moreF_len (e.map.drop 4)
 have hB:(X.take 386++(listF e.map 4++(octL e.size++sub X 495 17))).length=512:=by
  simp only [List.length_append,List.length_take,sub,List.length_drop]
  omega
 have h4:=sealL_length _ hB
 unfold holesF
 rw [List.length_append,List.length_append,h4,List.length_drop]
 omega
theorem bd_lt {B b:Nat} {l:List UInt8} {w:World} (h:Bd B b l w):b<w.heap.size:=by
 rcases h with ⟨_,_,h,_⟩|⟨_,_,h,_⟩ <;> exact (Array.getElem?_eq_some_iff.1 h).1
theorem bd_store {B b k:Nat} {l:List UInt8} {w w':World} {cs:Array Value} {t:TypeId} {fr:Nat × Nat} (h:Bd B b l w) (hb:b<k) (hk:w.heap[k]?=some (.cells cs t fr)) (ht:t≠5) (hs:∀ j,j≠k→w'.heap[j]?=w.heap[j]?):Bd B b l w':=by
 have row:∀ {v:Value} {n:Nat} {xs:List Value},w.ownsRowF B 5 1 v n xs→w'.ownsRowF B 5 1 v n xs:=fun {v n xs} hr=>by
  refine ⟨hr.1,?_⟩
  rcases hr.2 with h0|⟨g,cap,cur,fz,h1,h2,h3,h4⟩
  ·exact Or.inl h0
  ·refine Or.inr ⟨g,cap,cur,fz,h1,h2,(hs g fun e=>?_).trans h3,h4⟩
   subst e
   rw [h3] at hk
   simp only [Option.some.injEq,Obj.cells.injEq] at hk
   exact ht hk.2.1.symm
 rcases h with ⟨h1,v,h2,h3,h4⟩|⟨h1,v,h2,h3,h4⟩
 ·exact Or.inl ⟨h1,v,(hs _ (Nat.ne_of_lt hb)).trans h2,row h3,h4⟩
 ·exact Or.inr ⟨h1,v,(hs _ (Nat.ne_of_lt hb)).trans h2,row h3,h4⟩
end Go.Proofs.YtdjcjaidklgamaaGreatDoor
end
set_option linter.unusedSimpArgs false
set_option linter.unusedVariables false
section
namespace Go.Proofs.YtdjcjaidklgamaaGreatDoor
open Go.RowKit Go.Joins
set_option linter.unusedVariables false
set_option linter.unusedSimpArgs false
set_option maxRecDepth 100000 in
set_option maxHeartbeats 8000000 in
theorem writeGnu_nano (e:EntL) (ad:Option Addr) (cap:Nat) (h0:¬ e.nano=0) (w:World) :
  Calls Tryz.prog 41 #[entV e (.slice ad e.map.length cap)] w fun r w'=>r=.returned (.tuple #[.string (mkS (gnuF e).1),errV (gnuF e).2])∧Below w.heap.size w w':=by
 have hE:=Lib.hid (EntAt.new w e (.slice ad e.map.length cap) 26)
 have hB:=Lib.hid (below_alloc1 w (.cells (entC e (.slice ad e.map.length cap)) 26))
 have hF:gnuF e=([],2):=by unfold gnuF;rw [if_pos h0]
 rw [hF]
 show Calls _ _ _ _ fun r w'=>r=.returned (.tuple #[.string (mkS []),.iface 68 (.int .i64 2)])∧Below w.heap.size w w'
 unfold entC at hE hB
 unfold entV
 generalize e.map.length=n at *
 go_enter Tryz.func41,Tryz.ntmps41
 go_wp2_with fail
 try go_ret2
 exact ⟨rfl,hB.out⟩
set_option maxRecDepth 100000 in
set_option maxHeartbeats 8000000 in
theorem writeGnu_dense_ok (e:EntL) (hk:e.kind≠0) (ad:Option Addr) (cap:Nat) (ho:Held e) (hl:e.link.length≤1000) (hn:e.name.length≤1000) (hdl:e.data.length≤5000) (hsp:sparseE e=false) (h0:e.nano=0) (X:List UInt8) (hX:gnuX e=(X,0)) (w:World) :
  Calls Tryz.prog 41 #[entV e (.slice ad e.map.length cap)] w fun r w'=>r=.returned (.tuple #[.string (mkS (longF 75 e.link++(longF 76 (storedE e)++X))),.nilIface])∧Below w.heap.size w w':=by
 have hdt:e.data.length≤9223372036854775807:=by have:=ho.data;omega
 have CP:=Lib.hid (fun w=>sparse_any e ad cap hdt w)
 have CR:=Lib.hid (fun w=>plainRaw_any e (.slice ad e.map.length cap) w)
 have CS:=Lib.hid (fun w=>storedName_any e (.slice ad e.map.length cap) (by have:=ho.name;omega) w)
 have hsl:=storedE_len e
 have CL:=Lib.hid (fun B b l (hl2:l.length≤10000) w h hB=>gnuCut_any 75 75 (by decide) (by decide) e.link (by omega) B b l hl2 w h hB)
 have CN:=Lib.hid (fun B b l (hl2:l.length≤10000) w h hB=>gnuCut_any 76 76 (by decide) (by decide) (storedE e) (by omega) B b l hl2 w h hB)
 have hri:=ho.raw
 have hXX:gnuX e=wholeF 3 { rawE e with kind:=e.kind } ((storedE e).take 100) (e.link.take 100) e.data:=by unfold gnuX gnuRaw;rw [if_neg (by rw [hsp];decide)];rfl
 have CW:=Lib.hid (fun w=>written_at 3 3 rfl (by decide) { rawE e with kind:=e.kind } ((storedE e).take 100) (e.link.take 100) e.data (by first|exact hk|(show (83:UInt8)≠0;decide)) (by rw [List.length_take];omega) (by rw [List.length_take];omega) (by have:=ho.user;show e.user.length≤_;omega) (by have:=ho.group;show e.group.length≤_;omega) (by have:=ho.data;omega) hri w)
 have hXl:X.length≤6200:=by have h:=whole_len 3 { rawE e with kind:=e.kind } ((storedE e).take 100) (e.link.take 100) e.data;rw [← hXX,hX] at h;dsimp only at h;omega
 rw [← hXX,hX] at CW
 clear hXX hX
 have hE:=Lib.hid (EntAt.new w e (.slice ad e.map.length cap) 26)
 have hB:=Lib.hid (below_alloc1 w (.cells (entC e (.slice ad e.map.length cap)) 26))
 unfold entC at hB
 unfold entV at CP CR CS ⊢
 unfold rawV at CR CW
 simp only [show errV 0=.nilIface from rfl] at CW
 rw [hsp] at CP
 generalize e.map.length=n at *
 rw [h0] at hB CP CR CS ⊢
 have hsz:(w.alloc (.cells #[.string (mkS e.name),.int .u8 (e.kind.toNat:Int),.int .i64 e.mode,.int .i64 e.uid,.int .i64 e.gid,.int .i64 e.size,.int .i64 e.sec,.int .i64 0,.string (mkS e.link),.string (mkS e.user),.string (mkS e.group),.int .i64 e.major,.int .i64 e.minor,.string (mkS e.data),.slice ad n cap] 26)).heap.size=w.heap.size+1:=Array.size_push ..
 have HN:=Lib.hid (bd_new (w.alloc (.cells #[.string (mkS e.name),.int .u8 (e.kind.toNat:Int),.int .i64 e.mode,.int .i64 e.uid,.int .i64 e.gid,.int .i64 e.size,.int .i64 e.sec,.int .i64 0,.string (mkS e.link),.string (mkS e.user),.string (mkS e.group),.int .i64 e.major,.int .i64 e.minor,.string (mkS e.data),.slice ad n cap] 26)))
 have HB:=Lib.hid (below_alloc1 (w.alloc (.cells #[.string (mkS e.name),.int .u8 (e.kind.toNat:Int),.int .i64 e.mode,.int .i64 e.uid,.int .i64 e.gid,.int .i64 e.size,.int .i64 e.sec,.int .i64 0,.string (mkS e.link),.string (mkS e.user),.string (mkS e.group),.int .i64 e.major,.int .i64 e.minor,.string (mkS e.data),.slice ad n cap] 26)) (.cells #[.pointer none,.slice none 0 0] 99))
 have HS:=Lib.hid (Nat.le_trans (Nat.le_of_eq hsz.symm) HB.out.size)
 rw [hsz] at HN HB
 have hE':=hE.out
 unfold entC at hE'
 rw [h0] at hE'
 have HE1:=Lib.hid (hE'.below HB.out (Nat.lt_succ_self _))
 have HW1:=Lib.hid (hB.out.trans (HB.out.mono (Nat.le_succ _)))
 have HL1:=Lib.hid (show (longF 75 e.link).length≤5000∧(longF 76 (storedE e)).length≤5000 from ⟨longF_le _ (by decide) _ (by omega),longF_le _ (by decide) _ (by omega)⟩)
 have KC:=fun W=>mkS_cat (longF 75 e.link++longF 76 (storedE e)) X (by have:=HL1.out;rw [List.length_append];omega) W
 clear hsz hE hE' hB
 generalize longF 75 e.link=P1 at *
 generalize longF 76 (storedE e)=P2 at *
 go_enter Tryz.func41,Tryz.ntmps41
 go_upto_region 12 with (first
  |(go_at_call 70;(with_reducible refine (CL.out (w.heap.size+1) (w.heap.size+1) [] (by decide) _ HN.out HS.out).mono ?_);rintro r w2 ⟨rfl,h1,h2⟩;have HD2:=Lib.hid (show Bd (w.heap.size+1) (w.heap.size+1) P1 w2 from h1);have HS2:=Lib.hid (Nat.le_trans HS.out h2.size);have HB2:=Lib.hid (HW1.out.trans (h2.mono (Nat.le_succ _)));have HE2:=Lib.hid (HE1.out.below h2 (Nat.lt_succ_self _));clear h1 h2;obtain ⟨c0,c1,c2,c3,c4,c5,c6,c7,c8,c9,c10,c11,c12,c13,c14⟩:=id HE2.out)
  |(go_at_call 72;(with_reducible refine (CS.out _).mono ?_);rintro r w3 ⟨rfl,h3⟩;have HD3:=Lib.hid (bd_below HD2.out h3);have HS3:=Lib.hid (Nat.le_trans HS2.out h3.size);have HE3:=Lib.hid (HE2.out.below h3 HE2.out.lt);have HB3:=Lib.hid (HB2.out.trans (h3.mono HB2.out.size));clear h3 c0 c1 c2 c3 c4 c5 c6 c7 c8 c9 c10 c11 c12 c13 c14)
  |(go_at_call 70;(with_reducible refine (CN.out (w.heap.size+1) (w.heap.size+1) _ (by have:=HL1.out.1;omega) _ HD3.out HS3.out).mono ?_);rintro r w4 ⟨rfl,h1,h2⟩;have HD4:=Lib.hid h1;have HS4:=Lib.hid (Nat.le_trans HS3.out h2.size);have HB4:=Lib.hid (HB3.out.trans (h2.mono (Nat.le_succ _)));have HE4:=Lib.hid (HE3.out.below h2 (Nat.lt_succ_self _));clear h1 h2;obtain ⟨c0,c1,c2,c3,c4,c5,c6,c7,c8,c9,c10,c11,c12,c13,c14⟩:=id HE4.out)
  |(go_at_call 73;(with_reducible refine (CR.out _).mono ?_);rintro r w5 ⟨rfl,h3⟩;have HD5:=Lib.hid (bd_below HD4.out h3);have HE5:=Lib.hid (HE4.out.below h3 HE4.out.lt);have HB5:=Lib.hid (HB4.out.trans (h3.mono HB4.out.size));have HS5:=Lib.hid (Nat.le_trans HS4.out h3.size);clear h3 c0 c1 c2 c3 c4 c5 c6 c7 c8 c9 c10 c11 c12 c13 c14;obtain ⟨c0,c1,c2,c3,c4,c5,c6,c7,c8,c9,c10,c11,c12,c13,c14⟩:=id HE5.out)
  | fail)
 have HSB:=Lib.hid (bd_lt HD5.out)
 have hB6:=Lib.hid (HB5.out.alloc HB5.out.size (.cells (rawC (rawE e)) 117))
 have hb6:=(Below.refl w5.heap.size w5).alloc (Nat.le_refl _) (.cells (rawC (rawE e)) 117)
 have HS6:=Lib.hid (Nat.le_trans HS5.out hb6.size)
 have hE6:=Lib.hid (HE5.out.below hb6 HE5.out.lt)
 have hD6:=Lib.hid (bd_below HD5.out hb6)
 have hK6:=Lib.hid (show (w5.alloc (.cells (rawC (rawE e)) 117)).heap[w5.heap.size]?=some (.cells (rawC (rawE e)) 117 (0,0)) from heap_alloc_new w5 _)
 clear c0 c1 c2 c3 c4 c5 c6 c7 c8 c9 c10 c11 c12 c13 c14 hb6 HB5 HE5 HD5 HE4 HB4 HD4 HB3 HD3 HE3 HB2 HE2 HD2
 unfold rawC at hB6 hE6 hK6 hD6 HS6
 generalize (w5.alloc (.cells _ 117))=w6 at *
 generalize w5.heap.size=B at *
 obtain ⟨c0,c1,c2,c3,c4,c5,c6,c7,c8,c9,c10,c11,c12,c13,c14⟩:=id hE6.out
 go_upto_region 14 with (first
  |(go_at_call 74;(with_reducible refine (CP.out _).mono ?_);rintro r w7 ⟨rfl,h3⟩;have HD7:=Lib.hid (bd_below hD6.out h3);have HE7:=Lib.hid (hE6.out.below h3 hE6.out.lt);have HB7:=Lib.hid (hB6.out.trans (h3.mono hB6.out.size));have HS7:=Lib.hid (Nat.le_trans HS6.out h3.size);have HR7:=Lib.hid (show RawAt w7 B { rawE e with kind:=e.kind } from RawAt.of_row ((h3.block _ (Array.getElem?_eq_some_iff.1 hK6.out).1).trans hK6.out));clear h3 c0 c1 c2 c3 c4 c5 c6 c7 c8 c9 c10 c11 c12 c13 c14)
  | fail)
 obtain ⟨c0,c1,c2,c3,c4,c5,c6,c7,c8,c9,c10,c11,c12,c13,c14⟩:=id HE7.out
 obtain ⟨r0,r1,r2,r3,r4,r5,r6,r7,r8,r9,r10,r11,r12⟩:=id HR7.out
 clear hE6 hD6 hB6 hK6
 go_wp2_with (first
  |(go_at_call 71;(with_reducible refine (CW.out _).mono ?_);rintro r w9 ⟨rfl,h3⟩;have HD9:=Lib.hid (bd_below HD7.out h3);have HE9:=Lib.hid (HE7.out.below h3 HE7.out.lt);have HB9:=Lib.hid (HB7.out.trans (h3.mono HB7.out.size));have HS9:=Lib.hid (Nat.le_trans HS7.out h3.size);clear h3 r0 r1 r2 r3 r4 r5 r6 r7 r8 r9 r10 r11 r12 c0 c1 c2 c3 c4 c5 c6 c7 c8 c9 c10 c11 c12 c13 c14;obtain ⟨c0,c1,c2,c3,c4,c5,c6,c7,c8,c9,c10,c11,c12,c13,c14⟩:=id HE9.out)
  |(go_at_call 74;(with_reducible refine (CP.out _).mono ?_);rintro r wa ⟨rfl,h3⟩;have HDa:=Lib.hid (bd_below HD9.out h3);have HEa:=Lib.hid (HE9.out.below h3 HE9.out.lt);have HBa:=Lib.hid (HB9.out.trans (h3.mono HB9.out.size));have HSa:=Lib.hid (Nat.le_trans HS9.out h3.size);clear h3 c0 c1 c2 c3 c4 c5 c6 c7 c8 c9 c10 c11 c12 c13 c14;obtain ⟨c0,c1,c2,c3,c4,c5,c6,c7,c8,c9,c10,c11,c12,c13,c14⟩:=id HEa.out)
  |(go_at_call 61;(with_reducible refine (bd_string (w.heap.size+1) (w.heap.size+1) (P1++P2) _ HDa.out HSa.out).mono ?_);rintro r wc ⟨rfl,h4⟩;have HC:=Lib.hid (HBa.out.trans (h4.mono (Nat.le_succ _)));clear h4)
  | fail)
 try go_ret2
 exact ⟨rfl,HC.out⟩
set_option maxRecDepth 100000 in
set_option maxHeartbeats 8000000 in
theorem writeGnu_dense_bad (e:EntL) (hk:e.kind≠0) (ad:Option Addr) (cap:Nat) (ho:Held e) (hl:e.link.length≤1000) (hn:e.name.length≤1000) (hdl:e.data.length≤5000) (hsp:sparseE e=false) (h0:e.nano=0) (hX:gnuX e=([],2)) (w:World) :
  Calls Tryz.prog 41 #[entV e (.slice ad e.map.length cap)] w fun r w'=>r=.returned (.tuple #[.string ⟨#[]⟩,.iface 68 (.int .i64 2)])∧Below w.heap.size w w':=by
 have hdt:e.data.length≤9223372036854775807:=by have:=ho.data;omega
 have CP:=Lib.hid (fun w=>sparse_any e ad cap hdt w)
 have CR:=Lib.hid (fun w=>plainRaw_any e (.slice ad e.map.length cap) w)
 have CS:=Lib.hid (fun w=>storedName_any e (.slice ad e.map.length cap) (by have:=ho.name;omega) w)
 have hsl:=storedE_len e
 have CL:=Lib.hid (fun B b l (hl2:l.length≤10000) w h hB=>gnuCut_any 75 75 (by decide) (by decide) e.link (by omega) B b l hl2 w h hB)
 have CN:=Lib.hid (fun B b l (hl2:l.length≤10000) w h hB=>gnuCut_any 76 76 (by decide) (by decide) (storedE e) (by omega) B b l hl2 w h hB)
 have hri:=ho.raw
 have hXX:gnuX e=wholeF 3 { rawE e with kind:=e.kind } ((storedE e).take 100) (e.link.take 100) e.data:=by unfold gnuX gnuRaw;rw [if_neg (by rw [hsp];decide)];rfl
 have CW:=Lib.hid (fun w=>written_at 3 3 rfl (by decide) { rawE e with kind:=e.kind } ((storedE e).take 100) (e.link.take 100) e.data (by first|exact hk|(show (83:UInt8)≠0;decide)) (by rw [List.length_take];omega) (by rw [List.length_take];omega) (by have:=ho.user;show e.user.length≤_;omega) (by have:=ho.group;show e.group.length≤_;omega) (by have:=ho.data;omega) hri w)
 rw [← hXX,hX] at CW
 clear hXX hX
 have hE:=Lib.hid (EntAt.new w e (.slice ad e.map.length cap) 26)
 have hB:=Lib.hid (below_alloc1 w (.cells (entC e (.slice ad e.map.length cap)) 26))
 unfold entC at hB
 unfold entV at CP CR CS ⊢
 unfold rawV at CR CW
 simp only [show errV 2=.iface 68 (.int .i64 2) from rfl,show mkS []=⟨#[]⟩ from rfl] at CW
 rw [hsp] at CP
 generalize e.map.length=n at *
 rw [h0] at hB CP CR CS ⊢
 have hsz:(w.alloc (.cells #[.string (mkS e.name),.int .u8 (e.kind.toNat:Int),.int .i64 e.mode,.int .i64 e.uid,.int .i64 e.gid,.int .i64 e.size,.int .i64 e.sec,.int .i64 0,.string (mkS e.link),.string (mkS e.user),.string (mkS e.group),.int .i64 e.major,.int .i64 e.minor,.string (mkS e.data),.slice ad n cap] 26)).heap.size=w.heap.size+1:=Array.size_push ..
 have HN:=Lib.hid (bd_new (w.alloc (.cells #[.string (mkS e.name),.int .u8 (e.kind.toNat:Int),.int .i64 e.mode,.int .i64 e.uid,.int .i64 e.gid,.int .i64 e.size,.int .i64 e.sec,.int .i64 0,.string (mkS e.link),.string (mkS e.user),.string (mkS e.group),.int .i64 e.major,.int .i64 e.minor,.string (mkS e.data),.slice ad n cap] 26)))
 have HB:=Lib.hid (below_alloc1 (w.alloc (.cells #[.string (mkS e.name),.int .u8 (e.kind.toNat:Int),.int .i64 e.mode,.int .i64 e.uid,.int .i64 e.gid,.int .i64 e.size,.int .i64 e.sec,.int .i64 0,.string (mkS e.link),.string (mkS e.user),.string (mkS e.group),.int .i64 e.major,.int .i64 e.minor,.string (mkS e.data),.slice ad n cap] 26)) (.cells #[.pointer none,.slice none 0 0] 99))
 have HS:=Lib.hid (Nat.le_trans (Nat.le_of_eq hsz.symm) HB.out.size)
 rw [hsz] at HN HB
 have hE':=hE.out
 unfold entC at hE'
 rw [h0] at hE'
 have HE1:=Lib.hid (hE'.below HB.out (Nat.lt_succ_self _))
 have HW1:=Lib.hid (hB.out.trans (HB.out.mono (Nat.le_succ _)))
 have HL1:=Lib.hid (show (longF 75 e.link).length≤5000∧(longF 76 (storedE e)).length≤5000 from ⟨longF_le _ (by decide) _ (by omega),longF_le _ (by decide) _ (by omega)⟩)
 clear hsz hE hE' hB
 generalize longF 75 e.link=P1 at *
 generalize longF 76 (storedE e)=P2 at *
 go_enter Tryz.func41,Tryz.ntmps41
 go_upto_region 12 with (first
  |(go_at_call 70;(with_reducible refine (CL.out (w.heap.size+1) (w.heap.size+1) [] (by decide) _ HN.out HS.out).mono ?_);rintro r w2 ⟨rfl,h1,h2⟩;have HD2:=Lib.hid (show Bd (w.heap.size+1) (w.heap.size+1) P1 w2 from h1);have HS2:=Lib.hid (Nat.le_trans HS.out h2.size);have HB2:=Lib.hid (HW1.out.trans (h2.mono (Nat.le_succ _)));have HE2:=Lib.hid (HE1.out.below h2 (Nat.lt_succ_self _));clear h1 h2;obtain ⟨c0,c1,c2,c3,c4,c5,c6,c7,c8,c9,c10,c11,c12,c13,c14⟩:=id HE2.out)
  |(go_at_call 72;(with_reducible refine (CS.out _).mono ?_);rintro r w3 ⟨rfl,h3⟩;have HD3:=Lib.hid (bd_below HD2.out h3);have HS3:=Lib.hid (Nat.le_trans HS2.out h3.size);have HE3:=Lib.hid (HE2.out.below h3 HE2.out.lt);have HB3:=Lib.hid (HB2.out.trans (h3.mono HB2.out.size));clear h3 c0 c1 c2 c3 c4 c5 c6 c7 c8 c9 c10 c11 c12 c13 c14)
  |(go_at_call 70;(with_reducible refine (CN.out (w.heap.size+1) (w.heap.size+1) _ (by have:=HL1.out.1;omega) _ HD3.out HS3.out).mono ?_);rintro r w4 ⟨rfl,h1,h2⟩;have HD4:=Lib.hid h1;have HS4:=Lib.hid (Nat.le_trans HS3.out h2.size);have HB4:=Lib.hid (HB3.out.trans (h2.mono (Nat.le_succ _)));have HE4:=Lib.hid (HE3.out.below h2 (Nat.lt_succ_self _));clear h1 h2;obtain ⟨c0,c1,c2,c3,c4,c5,c6,c7,c8,c9,c10,c11,c12,c13,c14⟩:=id HE4.out)
  |(go_at_call 73;(with_reducible refine (CR.out _).mono ?_);rintro r w5 ⟨rfl,h3⟩;have HD5:=Lib.hid (bd_below HD4.out h3);have HE5:=Lib.hid (HE4.out.below h3 HE4.out.lt);have HB5:=Lib.hid (HB4.out.trans (h3.mono HB4.out.size));have HS5:=Lib.hid (Nat.le_trans HS4.out h3.size);clear h3 c0 c1 c2 c3 c4 c5 c6 c7 c8 c9 c10 c11 c12 c13 c14;obtain ⟨c0,c1,c2,c3,c4,c5,c6,c7,c8,c9,c10,c11,c12,c13,c14⟩:=id HE5.out)
  | fail)
 have HSB:=Lib.hid (bd_lt HD5.out)
 have hB6:=Lib.hid (HB5.out.alloc HB5.out.size (.cells (rawC (rawE e)) 117))
 have hb6:=(Below.refl w5.heap.size w5).alloc (Nat.le_refl _) (.cells (rawC (rawE e)) 117)
 have HS6:=Lib.hid (Nat.le_trans HS5.out hb6.size)
 have hE6:=Lib.hid (HE5.out.below hb6 HE5.out.lt)
 have hD6:=Lib.hid (bd_below HD5.out hb6)
 have hK6:=Lib.hid (show (w5.alloc (.cells (rawC (rawE e)) 117)).heap[w5.heap.size]?=some (.cells (rawC (rawE e)) 117 (0,0)) from heap_alloc_new w5 _)
 clear c0 c1 c2 c3 c4 c5 c6 c7 c8 c9 c10 c11 c12 c13 c14 hb6 HB5 HE5 HD5 HE4 HB4 HD4 HB3 HD3 HE3 HB2 HE2 HD2
 unfold rawC at hB6 hE6 hK6 hD6 HS6
 generalize (w5.alloc (.cells _ 117))=w6 at *
 generalize w5.heap.size=B at *
 obtain ⟨c0,c1,c2,c3,c4,c5,c6,c7,c8,c9,c10,c11,c12,c13,c14⟩:=id hE6.out
 go_upto_region 14 with (first
  |(go_at_call 74;(with_reducible refine (CP.out _).mono ?_);rintro r w7 ⟨rfl,h3⟩;have HD7:=Lib.hid (bd_below hD6.out h3);have HE7:=Lib.hid (hE6.out.below h3 hE6.out.lt);have HB7:=Lib.hid (hB6.out.trans (h3.mono hB6.out.size));have HS7:=Lib.hid (Nat.le_trans HS6.out h3.size);have HR7:=Lib.hid (show RawAt w7 B { rawE e with kind:=e.kind } from RawAt.of_row ((h3.block _ (Array.getElem?_eq_some_iff.1 hK6.out).1).trans hK6.out));clear h3 c0 c1 c2 c3 c4 c5 c6 c7 c8 c9 c10 c11 c12 c13 c14)
  | fail)
 obtain ⟨c0,c1,c2,c3,c4,c5,c6,c7,c8,c9,c10,c11,c12,c13,c14⟩:=id HE7.out
 obtain ⟨r0,r1,r2,r3,r4,r5,r6,r7,r8,r9,r10,r11,r12⟩:=id HR7.out
 clear hE6 hD6 hB6 hK6
 go_wp2_with (first
  |(go_at_call 71;(with_reducible refine (CW.out _).mono ?_);rintro r w9 ⟨rfl,h3⟩;have HD9:=Lib.hid (bd_below HD7.out h3);have HE9:=Lib.hid (HE7.out.below h3 HE7.out.lt);have HB9:=Lib.hid (HB7.out.trans (h3.mono HB7.out.size));have HS9:=Lib.hid (Nat.le_trans HS7.out h3.size);clear h3 r0 r1 r2 r3 r4 r5 r6 r7 r8 r9 r10 r11 r12 c0 c1 c2 c3 c4 c5 c6 c7 c8 c9 c10 c11 c12 c13 c14;obtain ⟨c0,c1,c2,c3,c4,c5,c6,c7,c8,c9,c10,c11,c12,c13,c14⟩:=id HE9.out)
  | fail)
 try go_ret2
 exact ⟨rfl,HB9.out⟩
set_option maxRecDepth 100000 in
set_option maxHeartbeats 8000000 in
theorem writeGnu_sparse_ok (e:EntL) (hk:e.kind≠0) (ad:Option Addr) (cap:Nat) (ho:Held e) (hl:e.link.length≤1000) (hn:e.name.length≤1000) (ho2:Octs e.map) (hm2:e.map.length≤20) (hc2:e.map.length≤cap) (hz2:0≤e.size∧e.size≤8589934591) (hdl:e.data.length≤5000) (hsp:sparseE e=true) (h0:e.nano=0) (X:List UInt8) (hX:gnuX e=(X,0)) (w:World) (hM:PiecesAt w ad e.map) :
  Calls Tryz.prog 41 #[entV e (.slice ad e.map.length cap)] w fun r w'=>r=.returned (.tuple #[.string (mkS (longF 75 e.link++(longF 76 (storedE e)++holesF X e))),.nilIface])∧Below w.heap.size w w':=by
 have hdt:e.data.length≤9223372036854775807:=by have:=ho.data;omega
 have CP:=Lib.hid (fun w=>sparse_any e ad cap hdt w)
 have CR:=Lib.hid (fun w=>plainRaw_any e (.slice ad e.map.length cap) w)
 have CS:=Lib.hid (fun w=>storedName_any e (.slice ad e.map.length cap) (by have:=ho.name;omega) w)
 have hsl:=storedE_len e
 have CL:=Lib.hid (fun B b l (hl2:l.length≤10000) w h hB=>gnuCut_any 75 75 (by decide) (by decide) e.link (by omega) B b l hl2 w h hB)
 have CN:=Lib.hid (fun B b l (hl2:l.length≤10000) w h hB=>gnuCut_any 76 76 (by decide) (by decide) (storedE e) (by omega) B b l hl2 w h hB)
 have hri:=ho.raw
 have hXX:gnuX e=wholeF 3 { rawE e with kind:=83 } ((storedE e).take 100) (e.link.take 100) e.data:=by unfold gnuX gnuRaw;rw [if_pos hsp]
 have CW:=Lib.hid (fun w=>written_at 3 3 rfl (by decide) { rawE e with kind:=83 } ((storedE e).take 100) (e.link.take 100) e.data (by first|exact hk|(show (83:UInt8)≠0;decide)) (by rw [List.length_take];omega) (by rw [List.length_take];omega) (by have:=ho.user;show e.user.length≤_;omega) (by have:=ho.group;show e.group.length≤_;omega) (by have:=ho.data;omega) hri w)
 have hXl:X.length≤6200:=by have h:=whole_len 3 { rawE e with kind:=83 } ((storedE e).take 100) (e.link.take 100) e.data;rw [← hXX,hX] at h;dsimp only at h;omega
 have hX5:512≤X.length:=whole_ge (hXX.symm.trans hX)
 have CH:=Lib.hid (fun W (h:Below w.heap.size w W)=>withPieces_any e ad cap X hX5 (by omega) hm2 hc2 ho2 hz2 W (hM.below h))
 have hHl:=holesF_len X e hX5
 generalize holesF X e=Y at *
 rw [← hXX,hX] at CW
 clear hXX hX
 have hE:=Lib.hid (EntAt.new w e (.slice ad e.map.length cap) 26)
 have hB:=Lib.hid (below_alloc1 w (.cells (entC e (.slice ad e.map.length cap)) 26))
 unfold entC at hB
 unfold entV at CP CR CS CH ⊢
 unfold rawV at CR CW
 simp only [show errV 0=.nilIface from rfl] at CW
 have CW:=Lib.hid (fun w=>show Calls Tryz.prog 71 #[.int .i64 3,.agg #[.string (mkS (rawE e).name),.string (mkS (rawE e).link),.string (mkS (rawE e).user),.string (mkS (rawE e).group),.string (mkS (rawE e).front),.int .u8 83,.int .i64 (rawE e).mode,.int .i64 (rawE e).uid,.int .i64 (rawE e).gid,.int .i64 (rawE e).size,.int .i64 (rawE e).time,.int .i64 (rawE e).major,.int .i64 (rawE e).minor],.string (mkS ((storedE e).take 100)),.string (mkS (e.link.take 100)),.string (mkS e.data)] w fun r w'=>r=.returned (.tuple #[.string (mkS X),.nilIface])∧Below w.heap.size w w' from CW.out w)
 rw [hsp] at CP
 generalize e.map.length=n at *
 rw [h0] at hB CP CR CS CH ⊢
 have hsz:(w.alloc (.cells #[.string (mkS e.name),.int .u8 (e.kind.toNat:Int),.int .i64 e.mode,.int .i64 e.uid,.int .i64 e.gid,.int .i64 e.size,.int .i64 e.sec,.int .i64 0,.string (mkS e.link),.string (mkS e.user),.string (mkS e.group),.int .i64 e.major,.int .i64 e.minor,.string (mkS e.data),.slice ad n cap] 26)).heap.size=w.heap.size+1:=Array.size_push ..
 have HN:=Lib.hid (bd_new (w.alloc (.cells #[.string (mkS e.name),.int .u8 (e.kind.toNat:Int),.int .i64 e.mode,.int .i64 e.uid,.int .i64 e.gid,.int .i64 e.size,.int .i64 e.sec,.int .i64 0,.string (mkS e.link),.string (mkS e.user),.string (mkS e.group),.int .i64 e.major,.int .i64 e.minor,.string (mkS e.data),.slice ad n cap] 26)))
 have HB:=Lib.hid (below_alloc1 (w.alloc (.cells #[.string (mkS e.name),.int .u8 (e.kind.toNat:Int),.int .i64 e.mode,.int .i64 e.uid,.int .i64 e.gid,.int .i64 e.size,.int .i64 e.sec,.int .i64 0,.string (mkS e.link),.string (mkS e.user),.string (mkS e.group),.int .i64 e.major,.int .i64 e.minor,.string (mkS e.data),.slice ad n cap] 26)) (.cells #[.pointer none,.slice none 0 0] 99))
 have HS:=Lib.hid (Nat.le_trans (Nat.le_of_eq hsz.symm) HB.out.size)
 rw [hsz] at HN HB
 have hE':=hE.out
 unfold entC at hE'
 rw [h0] at hE'
 have HE1:=Lib.hid (hE'.below HB.out (Nat.lt_succ_self _))
 have HW1:=Lib.hid (hB.out.trans (HB.out.mono (Nat.le_succ _)))
 have HL1:=Lib.hid (show (longF 75 e.link).length≤5000∧(longF 76 (storedE e)).length≤5000 from ⟨longF_le _ (by decide) _ (by omega),longF_le _ (by decide) _ (by omega)⟩)
 have KC:=fun W=>mkS_cat (longF 75 e.link++longF 76 (storedE e)) Y (by have:=HL1.out;rw [List.length_append];omega) W
 clear hsz hE hE' hB hM
 generalize longF 75 e.link=P1 at *
 generalize longF 76 (storedE e)=P2 at *
 go_enter Tryz.func41,Tryz.ntmps41
 go_upto_region 12 with (first
  |(go_at_call 70;(with_reducible refine (CL.out (w.heap.size+1) (w.heap.size+1) [] (by decide) _ HN.out HS.out).mono ?_);rintro r w2 ⟨rfl,h1,h2⟩;have HD2:=Lib.hid (show Bd (w.heap.size+1) (w.heap.size+1) P1 w2 from h1);have HS2:=Lib.hid (Nat.le_trans HS.out h2.size);have HB2:=Lib.hid (HW1.out.trans (h2.mono (Nat.le_succ _)));have HE2:=Lib.hid (HE1.out.below h2 (Nat.lt_succ_self _));clear h1 h2;obtain ⟨c0,c1,c2,c3,c4,c5,c6,c7,c8,c9,c10,c11,c12,c13,c14⟩:=id HE2.out)
  |(go_at_call 72;(with_reducible refine (CS.out _).mono ?_);rintro r w3 ⟨rfl,h3⟩;have HD3:=Lib.hid (bd_below HD2.out h3);have HS3:=Lib.hid (Nat.le_trans HS2.out h3.size);have HE3:=Lib.hid (HE2.out.below h3 HE2.out.lt);have HB3:=Lib.hid (HB2.out.trans (h3.mono HB2.out.size));clear h3 c0 c1 c2 c3 c4 c5 c6 c7 c8 c9 c10 c11 c12 c13 c14)
  |(go_at_call 70;(with_reducible refine (CN.out (w.heap.size+1) (w.heap.size+1) _ (by have:=HL1.out.1;omega) _ HD3.out HS3.out).mono ?_);rintro r w4 ⟨rfl,h1,h2⟩;have HD4:=Lib.hid h1;have HS4:=Lib.hid (Nat.le_trans HS3.out h2.size);have HB4:=Lib.hid (HB3.out.trans (h2.mono (Nat.le_succ _)));have HE4:=Lib.hid (HE3.out.below h2 (Nat.lt_succ_self _));clear h1 h2;obtain ⟨c0,c1,c2,c3,c4,c5,c6,c7,c8,c9,c10,c11,c12,c13,c14⟩:=id HE4.out)
  |(go_at_call 73;(with_reducible refine (CR.out _).mono ?_);rintro r w5 ⟨rfl,h3⟩;have HD5:=Lib.hid (bd_below HD4.out h3);have HE5:=Lib.hid (HE4.out.below h3 HE4.out.lt);have HB5:=Lib.hid (HB4.out.trans (h3.mono HB4.out.size));have HS5:=Lib.hid (Nat.le_trans HS4.out h3.size);clear h3 c0 c1 c2 c3 c4 c5 c6 c7 c8 c9 c10 c11 c12 c13 c14;obtain ⟨c0,c1,c2,c3,c4,c5,c6,c7,c8,c9,c10,c11,c12,c13,c14⟩:=id HE5.out)
  | fail)
 have HSB:=Lib.hid (bd_lt HD5.out)
 have hB6:=Lib.hid (HB5.out.alloc HB5.out.size (.cells (rawC (rawE e)) 117))
 have hb6:=(Below.refl w5.heap.size w5).alloc (Nat.le_refl _) (.cells (rawC (rawE e)) 117)
 have HS6:=Lib.hid (Nat.le_trans HS5.out hb6.size)
 have hE6:=Lib.hid (HE5.out.below hb6 HE5.out.lt)
 have hD6:=Lib.hid (bd_below HD5.out hb6)
 have hK6:=Lib.hid (show (w5.alloc (.cells (rawC (rawE e)) 117)).heap[w5.heap.size]?=some (.cells (rawC (rawE e)) 117 (0,0)) from heap_alloc_new w5 _)
 clear c0 c1 c2 c3 c4 c5 c6 c7 c8 c9 c10 c11 c12 c13 c14 hb6 HB5 HE5 HD5 HE4 HB4 HD4 HB3 HD3 HE3 HB2 HE2 HD2
 unfold rawC at hB6 hE6 hK6 hD6 HS6
 generalize (w5.alloc (.cells _ 117))=w6 at *
 generalize w5.heap.size=B at *
 obtain ⟨c0,c1,c2,c3,c4,c5,c6,c7,c8,c9,c10,c11,c12,c13,c14⟩:=id hE6.out
 go_upto_region 14 with (first
  |(go_at_call 74;(with_reducible refine (CP.out _).mono ?_);rintro r w7 ⟨rfl,h3⟩;have HD7:=Lib.hid (bd_below hD6.out h3);have HE7:=Lib.hid (hE6.out.below h3 hE6.out.lt);have HB7:=Lib.hid (hB6.out.trans (h3.mono hB6.out.size));have HS7:=Lib.hid (Nat.le_trans HS6.out h3.size);have HK7:=Lib.hid ((h3.block _ (Array.getElem?_eq_some_iff.1 hK6.out).1).trans hK6.out);clear h3 c0 c1 c2 c3 c4 c5 c6 c7 c8 c9 c10 c11 c12 c13 c14;have k5:=row_cell HK7.out 5 _ rfl;have f5:=row_free HK7.out 5)
  | fail)
 have hS:=setCell_row (i:=5) (v:=.int .u8 83) HK7.out
 have hBB:Below B w7 (w7.setCell ⟨B,5,none⟩ (.int .u8 83)):=hS.2 B (Nat.le_refl _) _ (Below.refl _ _)
 have HB8:=Lib.hid (HB7.out.trans (hBB.mono (by have:=HSB.out;omega)))
 have HE8:=Lib.hid (HE7.out.below hBB (by have:=HSB.out;omega))
 have HD8:=Lib.hid (bd_store HD7.out HSB.out HK7.out (by decide) (fun j hj=>Below.heap_setCell w7 ⟨B,5,none⟩ (.int .u8 83) j hj))
 have HR8:=Lib.hid (show RawAt (w7.setCell ⟨B,5,none⟩ (.int .u8 83)) B { rawE e with kind:=83 } from RawAt.of_row hS.1)
 have HS8:=Lib.hid (Nat.le_trans HS7.out hBB.size)
 clear hS hBB k5 f5 HD7 HE7 HB7 HK7 HS7
 generalize (w7.setCell ⟨B,5,none⟩ (.int .u8 83))=w8 at *
 obtain ⟨c0,c1,c2,c3,c4,c5,c6,c7,c8,c9,c10,c11,c12,c13,c14⟩:=id HE8.out
 obtain ⟨r0,r1,r2,r3,r4,r5,r6,r7,r8,r9,r10,r11,r12⟩:=id HR8.out
 change _=some (Value.int .u8 83) at r5
 clear hE6 hD6 hB6 hK6
 go_wp2_with (first
  |(go_at_call 71;(with_reducible refine (CW.out _).mono ?_);rintro r w9 ⟨rfl,h3⟩;have HD9:=Lib.hid (bd_below HD8.out h3);have HE9:=Lib.hid (HE8.out.below h3 HE8.out.lt);have HB9:=Lib.hid (HB8.out.trans (h3.mono HB8.out.size));have HS9:=Lib.hid (Nat.le_trans HS8.out h3.size);clear h3 r0 r1 r2 r3 r4 r5 r6 r7 r8 r9 r10 r11 r12 c0 c1 c2 c3 c4 c5 c6 c7 c8 c9 c10 c11 c12 c13 c14;obtain ⟨c0,c1,c2,c3,c4,c5,c6,c7,c8,c9,c10,c11,c12,c13,c14⟩:=id HE9.out)
  |(go_at_call 74;(with_reducible refine (CP.out _).mono ?_);rintro r wa ⟨rfl,h3⟩;have HDa:=Lib.hid (bd_below HD9.out h3);have HEa:=Lib.hid (HE9.out.below h3 HE9.out.lt);have HBa:=Lib.hid (HB9.out.trans (h3.mono HB9.out.size));have HSa:=Lib.hid (Nat.le_trans HS9.out h3.size);clear h3 c0 c1 c2 c3 c4 c5 c6 c7 c8 c9 c10 c11 c12 c13 c14;obtain ⟨c0,c1,c2,c3,c4,c5,c6,c7,c8,c9,c10,c11,c12,c13,c14⟩:=id HEa.out)
  |(go_at_call 75;(with_reducible refine (CH.out _ HBa.out).mono ?_);rintro r wb ⟨rfl,h3⟩;have HDb:=Lib.hid (bd_below HDa.out h3);have HBb:=Lib.hid (HBa.out.trans (h3.mono HBa.out.size));have HSb:=Lib.hid (Nat.le_trans HSa.out h3.size);clear h3 c0 c1 c2 c3 c4 c5 c6 c7 c8 c9 c10 c11 c12 c13 c14)
  |(go_at_call 61;(with_reducible refine (bd_string (w.heap.size+1) (w.heap.size+1) (P1++P2) _ HDb.out HSb.out).mono ?_);rintro r wc ⟨rfl,h4⟩;have HC:=Lib.hid (HBb.out.trans (h4.mono (Nat.le_succ _)));clear h4)
  | fail)
 try go_ret2
 exact ⟨rfl,HC.out⟩
set_option maxRecDepth 100000 in
set_option maxHeartbeats 8000000 in
theorem writeGnu_sparse_bad (e:EntL) (hk:e.kind≠0) (ad:Option Addr) (cap:Nat) (ho:Held e) (hl:e.link.length≤1000) (hn:e.name.length≤1000) (hdl:e.data.length≤5000) (hsp:sparseE e=true) (h0:e.nano=0) (hX:gnuX e=([],2)) (w:World) :
  Calls Tryz.prog 41 #[entV e (.slice ad e.map.length cap)] w fun r w'=>r=.returned (.tuple #[.string ⟨#[]⟩,.iface 68 (.int .i64 2)])∧Below w.heap.size w w':=by
 have hdt:e.data.length≤9223372036854775807:=by have:=ho.data;omega
 have CP:=Lib.hid (fun w=>sparse_any e ad cap hdt w)
 have CR:=Lib.hid (fun w=>plainRaw_any e (.slice ad e.map.length cap) w)
 have CS:=Lib.hid (fun w=>storedName_any e (.slice ad e.map.length cap) (by have:=ho.name;omega) w)
 have hsl:=storedE_len e
 have CL:=Lib.hid (fun B b l (hl2:l.length≤10000) w h hB=>gnuCut_any 75 75 (by decide) (by decide) e.link (by omega) B b l hl2 w h hB)
 have CN:=Lib.hid (fun B b l (hl2:l.length≤10000) w h hB=>gnuCut_any 76 76 (by decide) (by decide) (storedE e) (by omega) B b l hl2 w h hB)
 have hri:=ho.raw
 have hXX:gnuX e=wholeF 3 { rawE e with kind:=83 } ((storedE e).take 100) (e.link.take 100) e.data:=by unfold gnuX gnuRaw;rw [if_pos hsp]
 have CW:=Lib.hid (fun w=>written_at 3 3 rfl (by decide) { rawE e with kind:=83 } ((storedE e).take 100) (e.link.take 100) e.data (by first|exact hk|(show (83:UInt8)≠0;decide)) (by rw [List.length_take];omega) (by rw [List.length_take];omega) (by have:=ho.user;show e.user.length≤_;omega) (by have:=ho.group;show e.group.length≤_;omega) (by have:=ho.data;omega) hri w)
 rw [← hXX,hX] at CW
 clear hXX hX
 have hE:=Lib.hid (EntAt.new w e (.slice ad e.map.length cap) 26)
 have hB:=Lib.hid (below_alloc1 w (.cells (entC e (.slice ad e.map.length cap)) 26))
 unfold entC at hB
 unfold entV at CP CR CS ⊢
 unfold rawV at CR CW
 simp only [show errV 2=.iface 68 (.int .i64 2) from rfl,show mkS []=⟨#[]⟩ from rfl] at CW
 have CW:=Lib.hid (fun w=>show Calls Tryz.prog 71 #[.int .i64 3,.agg #[.string (mkS (rawE e).name),.string (mkS (rawE e).link),.string (mkS (rawE e).user),.string (mkS (rawE e).group),.string (mkS (rawE e).front),.int .u8 83,.int .i64 (rawE e).mode,.int .i64 (rawE e).uid,.int .i64 (rawE e).gid,.int .i64 (rawE e).size,.int .i64 (rawE e).time,.int .i64 (rawE e).major,.int .i64 (rawE e).minor],.string (mkS ((storedE e).take 100)),.string (mkS (e.link.take 100)),.string (mkS e.data)] w fun r w'=>r=.returned (.tuple #[.string ⟨#[]⟩,.iface 68 (.int .i64 2)])∧Below w.heap.size w w' from CW.out w)
 rw [hsp] at CP
 generalize e.map.length=n at *
 rw [h0] at hB CP CR CS ⊢
 have hsz:(w.alloc (.cells #[.string (mkS e.name),.int .u8 (e.kind.toNat:Int),.int .i64 e.mode,.int .i64 e.uid,.int .i64 e.gid,.int .i64 e.size,.int .i64 e.sec,.int .i64 0,.string (mkS e.link),.string (mkS e.user),.string (mkS e.group),.int .i64 e.major,.int .i64 e.minor,.string (mkS e.data),.slice ad n cap] 26)).heap.size=w.heap.size+1:=Array.size_push ..
 have HN:=Lib.hid (bd_new (w.alloc (.cells #[.string (mkS e.name),.int .u8 (e.kind.toNat:Int),.int .i64 e.mode,.int .i64 e.uid,.int .i64 e.gid,.int .i64 e.size,.int .i64 e.sec,.int .i64 0,.string (mkS e.link),.string (mkS e.user),.string (mkS e.group),.int .i64 e.major,.int .i64 e.minor,.string (mkS e.data),.slice ad n cap] 26)))
 have HB:=Lib.hid (below_alloc1 (w.alloc (.cells #[.string (mkS e.name),.int .u8 (e.kind.toNat:Int),.int .i64 e.mode,.int .i64 e.uid,.int .i64 e.gid,.int .i64 e.size,.int .i64 e.sec,.int .i64 0,.string (mkS e.link),.string (mkS e.user),.string (mkS e.group),.int .i64 e.major,.int .i64 e.minor,.string (mkS e.data),.slice ad n cap] 26)) (.cells #[.pointer none,.slice none 0 0] 99))
 have HS:=Lib.hid (Nat.le_trans (Nat.le_of_eq hsz.symm) HB.out.size)
 rw [hsz] at HN HB
 have hE':=hE.out
 unfold entC at hE'
 rw [h0] at hE'
 have HE1:=Lib.hid (hE'.below HB.out (Nat.lt_succ_self _))
 have HW1:=Lib.hid (hB.out.trans (HB.out.mono (Nat.le_succ _)))
 have HL1:=Lib.hid (show (longF 75 e.link).length≤5000∧(longF 76 (storedE e)).length≤5000 from ⟨longF_le _ (by decide) _ (by omega),longF_le _ (by decide) _ (by omega)⟩)
 clear hsz hE hE' hB
 generalize longF 75 e.link=P1 at *
 generalize longF 76 (storedE e)=P2 at *
 go_enter Tryz.func41,Tryz.ntmps41
 go_upto_region 12 with (first
  |(go_at_call 70;(with_reducible refine (CL.out (w.heap.size+1) (w.heap.size+1) [] (by decide) _ HN.out HS.out).mono ?_);rintro r w2 ⟨rfl,h1,h2⟩;have HD2:=Lib.hid (show Bd (w.heap.size+1) (w.heap.size+1) P1 w2 from h1);have HS2:=Lib.hid (Nat.le_trans HS.out h2.size);have HB2:=Lib.hid (HW1.out.trans (h2.mono (Nat.le_succ _)));have HE2:=Lib.hid (HE1.out.below h2 (Nat.lt_succ_self _));clear h1 h2;obtain ⟨c0,c1,c2,c3,c4,c5,c6,c7,c8,c9,c10,c11,c12,c13,c14⟩:=id HE2.out)
  |(go_at_call 72;(with_reducible refine (CS.out _).mono ?_);rintro r w3 ⟨rfl,h3⟩;have HD3:=Lib.hid (bd_below HD2.out h3);have HS3:=Lib.hid (Nat.le_trans HS2.out h3.size);have HE3:=Lib.hid (HE2.out.below h3 HE2.out.lt);have HB3:=Lib.hid (HB2.out.trans (h3.mono HB2.out.size));clear h3 c0 c1 c2 c3 c4 c5 c6 c7 c8 c9 c10 c11 c12 c13 c14)
  |(go_at_call 70;(with_reducible refine (CN.out (w.heap.size+1) (w.heap.size+1) _ (by have:=HL1.out.1;omega) _ HD3.out HS3.out).mono ?_);rintro r w4 ⟨rfl,h1,h2⟩;have HD4:=Lib.hid h1;have HS4:=Lib.hid (Nat.le_trans HS3.out h2.size);have HB4:=Lib.hid (HB3.out.trans (h2.mono (Nat.le_succ _)));have HE4:=Lib.hid (HE3.out.below h2 (Nat.lt_succ_self _));clear h1 h2;obtain ⟨c0,c1,c2,c3,c4,c5,c6,c7,c8,c9,c10,c11,c12,c13,c14⟩:=id HE4.out)
  |(go_at_call 73;(with_reducible refine (CR.out _).mono ?_);rintro r w5 ⟨rfl,h3⟩;have HD5:=Lib.hid (bd_below HD4.out h3);have HE5:=Lib.hid (HE4.out.below h3 HE4.out.lt);have HB5:=Lib.hid (HB4.out.trans (h3.mono HB4.out.size));have HS5:=Lib.hid (Nat.le_trans HS4.out h3.size);clear h3 c0 c1 c2 c3 c4 c5 c6 c7 c8 c9 c10 c11 c12 c13 c14;obtain ⟨c0,c1,c2,c3,c4,c5,c6,c7,c8,c9,c10,c11,c12,c13,c14⟩:=id HE5.out)
  | fail)
 have HSB:=Lib.hid (bd_lt HD5.out)
 have hB6:=Lib.hid (HB5.out.alloc HB5.out.size (.cells (rawC (rawE e)) 117))
 have hb6:=(Below.refl w5.heap.size w5).alloc (Nat.le_refl _) (.cells (rawC (rawE e)) 117)
 have HS6:=Lib.hid (Nat.le_trans HS5.out hb6.size)
 have hE6:=Lib.hid (HE5.out.below hb6 HE5.out.lt)
 have hD6:=Lib.hid (bd_below HD5.out hb6)
 have hK6:=Lib.hid (show (w5.alloc (.cells (rawC (rawE e)) 117)).heap[w5.heap.size]?=some (.cells (rawC (rawE e)) 117 (0,0)) from heap_alloc_new w5 _)
 clear c0 c1 c2 c3 c4 c5 c6 c7 c8 c9 c10 c11 c12 c13 c14 hb6 HB5 HE5 HD5 HE4 HB4 HD4 HB3 HD3 HE3 HB2 HE2 HD2
 unfold rawC at hB6 hE6 hK6 hD6 HS6
 generalize (w5.alloc (.cells _ 117))=w6 at *
 generalize w5.heap.size=B at *
 obtain ⟨c0,c1,c2,c3,c4,c5,c6,c7,c8,c9,c10,c11,c12,c13,c14⟩:=id hE6.out
 go_upto_region 14 with (first
  |(go_at_call 74;(with_reducible refine (CP.out _).mono ?_);rintro r w7 ⟨rfl,h3⟩;have HD7:=Lib.hid (bd_below hD6.out h3);have HE7:=Lib.hid (hE6.out.below h3 hE6.out.lt);have HB7:=Lib.hid (hB6.out.trans (h3.mono hB6.out.size));have HS7:=Lib.hid (Nat.le_trans HS6.out h3.size);have HK7:=Lib.hid ((h3.block _ (Array.getElem?_eq_some_iff.1 hK6.out).1).trans hK6.out);clear h3 c0 c1 c2 c3 c4 c5 c6 c7 c8 c9 c10 c11 c12 c13 c14;have k5:=row_cell HK7.out 5 _ rfl;have f5:=row_free HK7.out 5)
  | fail)
 have hS:=setCell_row (i:=5) (v:=.int .u8 83) HK7.out
 have hBB:Below B w7 (w7.setCell ⟨B,5,none⟩ (.int .u8 83)):=hS.2 B (Nat.le_refl _) _ (Below.refl _ _)
 have HB8:=Lib.hid (HB7.out.trans (hBB.mono (by have:=HSB.out;omega)))
 have HE8:=Lib.hid (HE7.out.below hBB (by have:=HSB.out;omega))
 have HD8:=Lib.hid (bd_store HD7.out HSB.out HK7.out (by decide) (fun j hj=>Below.heap_setCell w7 ⟨B,5,none⟩ (.int .u8 83) j hj))
 have HR8:=Lib.hid (show RawAt (w7.setCell ⟨B,5,none⟩ (.int .u8 83)) B { rawE e with kind:=83 } from RawAt.of_row hS.1)
 have HS8:=Lib.hid (Nat.le_trans HS7.out hBB.size)
 clear hS hBB k5 f5 HD7 HE7 HB7 HK7 HS7
 generalize (w7.setCell ⟨B,5,none⟩ (.int .u8 83))=w8 at *
 obtain ⟨c0,c1,c2,c3,c4,c5,c6,c7,c8,c9,c10,c11,c12,c13,c14⟩:=id HE8.out
 obtain ⟨r0,r1,r2,r3,r4,r5,r6,r7,r8,r9,r10,r11,r12⟩:=id HR8.out
 change _=some (Value.int .u8 83) at r5
 clear hE6 hD6 hB6 hK6
 go_wp2_with (first
  |(go_at_call 71;(with_reducible refine (CW.out _).mono ?_);rintro r w9 ⟨rfl,h3⟩;have HD9:=Lib.hid (bd_below HD8.out h3);have HE9:=Lib.hid (HE8.out.below h3 HE8.out.lt);have HB9:=Lib.hid (HB8.out.trans (h3.mono HB8.out.size));have HS9:=Lib.hid (Nat.le_trans HS8.out h3.size);clear h3 r0 r1 r2 r3 r4 r5 r6 r7 r8 r9 r10 r11 r12 c0 c1 c2 c3 c4 c5 c6 c7 c8 c9 c10 c11 c12 c13 c14;obtain ⟨c0,c1,c2,c3,c4,c5,c6,c7,c8,c9,c10,c11,c12,c13,c14⟩:=id HE9.out)
  | fail)
 try go_ret2
 exact ⟨rfl,HB9.out⟩
end Go.Proofs.YtdjcjaidklgamaaGreatDoor
end
set_option linter.unusedSimpArgs false
set_option linter.unusedVariables false
section
namespace Go.Proofs.YtdjcjaidklgamaaGreatDoor
open Go.RowKit Go.Joins
set_option linter.unusedVariables false
theorem writeGnu_any (e:EntL) (hr:rightE e=true) (ad:Option Addr) (cap:Nat) (ho:Held e) (hdl:e.data.length≤5000) (hc:e.map.length≤cap) (w:World) (hM:PiecesAt w ad e.map) :
  Calls Tryz.prog 41 #[entV e (.slice ad e.map.length cap)] w fun r w'=>r=.returned (.tuple #[.string (mkS (gnuF e).1),errV (gnuF e).2])∧Below w.heap.size w w':=by
 have hx:=right_txt hr
 have hn:e.name.length≤1000:=by have:=(txtOk_iff.1 hx.2.1).1;omega
 have hl:e.link.length≤1000:=by have:=(txtOk_iff.1 hx.2.2.1).1;omega
 have hk:=kind_nz hr
 by_cases h0:e.nano=0
 ·have hsm:sparseE e=true→Octs e.map∧e.map.length≤20∧0≤e.size∧e.size≤8589934591:=fun hsp=>by
   have hk48:e.kind=48:=by
    by_cases hh:e.kind=48
    ·exact hh
    ·have:=(right_other hr hh).2.2.2;rw [hsp] at this;cases this
   obtain ⟨⟨z1,z2⟩,hmr⟩:=right_file hr hk48
   obtain ⟨hm1,hm2⟩:=mapRight_parts (by omega) (hmr hsp).1
   exact ⟨fun p hp=>by have:=hm2 p hp;omega,hm1,z1,by omega⟩
  rcases whole_two 3 (gnuRaw e) ((storedE e).take 100) (e.link.take 100) e.data with ⟨X,hX⟩|hX
  ·have hX:gnuX e=(X,0):=hX
   have hG:gnuF e=(longF 75 e.link++(longF 76 (storedE e)++(if sparseE e=true then holesF X e else X)),0):=by
    unfold gnuF
    rw [if_neg (fun h=>h h0),hX,if_neg (by simp)]
   rw [hG]
   cases hsp:sparseE e with
   | true =>
    obtain ⟨o1,o2,o3,o4⟩:=hsm hsp
    exact writeGnu_sparse_ok e hk ad cap ho hl hn o1 o2 hc ⟨o3,o4⟩ hdl hsp h0 X hX w hM
   | false=>exact writeGnu_dense_ok e hk ad cap ho hl hn hdl hsp h0 X hX w
  ·have hX:gnuX e=([],2):=hX
   have hG:gnuF e=([],2):=by
    unfold gnuF
    rw [if_neg (fun h=>h h0),hX,if_pos (by simp)]
   rw [hG]
   cases hsp:sparseE e with
   | true=>exact writeGnu_sparse_bad e hk ad cap ho hl hn hdl hsp h0 hX w
   | false=>exact writeGnu_dense_bad e hk ad cap ho hl hn hdl hsp h0 hX w
 ·exact writeGnu_nano e ad cap h0 w
end Go.Proofs.YtdjcjaidklgamaaGreatDoor
end
set_option linter.unusedSimpArgs false
set_option linter.unusedVariables false
section
namespace Go.Proofs.YtdjcjaidklgamaaGreatDoor
open Go.RowKit Go.Joins
set_option linter.unusedVariables false
set_option linter.unusedSimpArgs false
set_option maxRecDepth 100000 in
set_option maxHeartbeats 8000000 in
theorem mw_arg (d:Int) (e:EntL) (ad:Option Addr) (cap:Nat) (ho:EntOk e) (h:d<1∨4<d∨rightE e=false) (w:World) (hM:PiecesAt w ad e.map) :
  Calls Tryz.prog 20 #[.int .i64 d,entV e (.slice ad e.map.length cap)] w fun r w'=>r=.returned (.tuple #[.string (mkS []),.iface 68 (.int .i64 1)])∧Below w.heap.size w w':=by
 have HM:=Lib.hid (fun W (h:Below w.heap.size w W)=>hM.below h)
 have CA:=Lib.hid (fun W (h:Below w.heap.size w W)=>rightM_any e ad cap ho W (HM.out W h))
 have hE:=EntAt.new w e (.slice ad e.map.length cap) 26
 have hB:=Lib.hid (below_alloc1 w (.cells (entC e (.slice ad e.map.length cap)) 26))
 unfold entC at hE hB
 unfold entV at CA ⊢
 clear ho hM HM
 generalize e.map.length=n at *
 by_cases h1:d<1
 ·clear h CA hE
  go_enter Tryz.func20,Tryz.ntmps20
  go_wp2_with fail
  go_ret2
  exact ⟨rfl,hB.out⟩
 ·by_cases h2:4<d
  ·clear h CA hE
   go_enter Tryz.func20,Tryz.ntmps20
   go_wp2_with fail
   go_ret2
   exact ⟨rfl,hB.out⟩
  ·have hr:rightE e=false:=by
    rcases h with h|h|h
    ·exact absurd h h1
    ·exact absurd h h2
    ·exact h
   rw [hr] at CA
   clear h hr hE
   go_enter Tryz.func20,Tryz.ntmps20
   go_wp2_with (first
    |(go_at_call 23;(with_reducible refine (CA.out _ hB.out).mono ?_);rintro r w2 ⟨rfl,h2⟩;have hB2:=Lib.hid (hB.out.trans (h2.mono hB.out.size));clear h2)
    | fail)
   go_ret2
   exact ⟨rfl,hB2.out⟩
set_option maxRecDepth 100000 in
set_option maxHeartbeats 8000000 in
theorem mw_gnu (e:EntL) (ad:Option Addr) (cap:Nat) (ho:EntOk e) (hr:rightE e=true) (w:World) (S:List UInt8 × Int) (hM:PiecesAt w ad e.map)
  (CG:∀ W,Below w.heap.size w W→Calls Tryz.prog 41 #[entV e (.slice ad e.map.length cap)] W fun r w'=>r=.returned (.tuple #[.string (mkS S.1),errV S.2])∧Below W.heap.size W w') :
  Calls Tryz.prog 20 #[.int .i64 3,entV e (.slice ad e.map.length cap)] w fun r w'=>r=.returned (.tuple #[.string (mkS S.1),errV S.2])∧Below w.heap.size w w':=by
 have HM:=Lib.hid (fun W (h:Below w.heap.size w W)=>hM.below h)
 have CA:=Lib.hid (fun W (h:Below w.heap.size w W)=>rightM_any e ad cap ho W (HM.out W h))
 have CG:=Lib.hid CG
 have hE:=EntAt.new w e (.slice ad e.map.length cap) 26
 have hB:=Lib.hid (below_alloc1 w (.cells (entC e (.slice ad e.map.length cap)) 26))
 have HE:=Lib.hid hE
 clear hE ho hM HM
 rw [hr] at CA
 obtain ⟨s,k⟩:=S
 dsimp only at CG ⊢
 generalize errV k=K at *
 unfold entC at HE hB
 unfold entV at CA CG ⊢
 generalize e.map.length=n at *
 go_enter Tryz.func20,Tryz.ntmps20
 go_wp2_with (first
  |(go_at_call 23;(with_reducible refine (CA.out _ hB.out).mono ?_);rintro r w2 ⟨rfl,h2⟩;have hB2:=Lib.hid (hB.out.trans (h2.mono hB.out.size));have hE2:=Lib.hid (HE.out.below h2 HE.out.lt);clear h2;obtain ⟨c0,c1,c2,c3,c4,c5,c6,c7,c8,c9,c10,c11,c12,c13,c14⟩:=id hE2.out)
  |(go_at_call 41;(with_reducible refine (CG.out _ hB2.out).mono ?_);rintro r w3 ⟨rfl,h3⟩;have hB3:=Lib.hid (hB2.out.trans (h3.mono hB2.out.size));clear h3)
  | fail)
 go_ret2
 exact ⟨rfl,hB3.out⟩
set_option maxRecDepth 100000 in
set_option maxHeartbeats 8000000 in
theorem mw_pax (e:EntL) (ad:Option Addr) (cap:Nat) (ho:EntOk e) (hr:rightE e=true) (w:World) (S:List UInt8 × Int) (hM:PiecesAt w ad e.map)
  (CG:∀ W,Below w.heap.size w W→Calls Tryz.prog 42 #[entV e (.slice ad e.map.length cap)] W fun r w'=>r=.returned (.tuple #[.string (mkS S.1),errV S.2])∧Below W.heap.size W w') :
  Calls Tryz.prog 20 #[.int .i64 4,entV e (.slice ad e.map.length cap)] w fun r w'=>r=.returned (.tuple #[.string (mkS S.1),errV S.2])∧Below w.heap.size w w':=by
 have HM:=Lib.hid (fun W (h:Below w.heap.size w W)=>hM.below h)
 have CA:=Lib.hid (fun W (h:Below w.heap.size w W)=>rightM_any e ad cap ho W (HM.out W h))
 have CG:=Lib.hid CG
 have hE:=EntAt.new w e (.slice ad e.map.length cap) 26
 have hB:=Lib.hid (below_alloc1 w (.cells (entC e (.slice ad e.map.length cap)) 26))
 have HE:=Lib.hid hE
 clear hE ho hM HM
 rw [hr] at CA
 obtain ⟨s,k⟩:=S
 dsimp only at CG ⊢
 generalize errV k=K at *
 unfold entC at HE hB
 unfold entV at CA CG ⊢
 generalize e.map.length=n at *
 go_enter Tryz.func20,Tryz.ntmps20
 go_wp2_with (first
  |(go_at_call 23;(with_reducible refine (CA.out _ hB.out).mono ?_);rintro r w2 ⟨rfl,h2⟩;have hB2:=Lib.hid (hB.out.trans (h2.mono hB.out.size));have hE2:=Lib.hid (HE.out.below h2 HE.out.lt);clear h2;obtain ⟨c0,c1,c2,c3,c4,c5,c6,c7,c8,c9,c10,c11,c12,c13,c14⟩:=id hE2.out)
  |(go_at_call 42;(with_reducible refine (CG.out _ hB2.out).mono ?_);rintro r w3 ⟨rfl,h3⟩;have hB3:=Lib.hid (hB2.out.trans (h3.mono hB2.out.size));clear h3)
  | fail)
 go_ret2
 exact ⟨rfl,hB3.out⟩
set_option maxRecDepth 100000 in
set_option maxHeartbeats 8000000 in
theorem mw_old (d:Int) (hd:d=1∨d=2) (e:EntL) (ad:Option Addr) (cap:Nat) (ho:EntOk e) (hr:rightE e=true) (w:World) (S:List UInt8 × Int) (hM:PiecesAt w ad e.map)
  (CG:∀ W,Below w.heap.size w W→Calls Tryz.prog 43 #[.int .i64 d,entV e (.slice ad e.map.length cap)] W fun r w'=>r=.returned (.tuple #[.string (mkS S.1),errV S.2])∧Below W.heap.size W w') :
  Calls Tryz.prog 20 #[.int .i64 d,entV e (.slice ad e.map.length cap)] w fun r w'=>r=.returned (.tuple #[.string (mkS S.1),errV S.2])∧Below w.heap.size w w':=by
 have HM:=Lib.hid (fun W (h:Below w.heap.size w W)=>hM.below h)
 have CA:=Lib.hid (fun W (h:Below w.heap.size w W)=>rightM_any e ad cap ho W (HM.out W h))
 have CG:=Lib.hid CG
 have hE:=EntAt.new w e (.slice ad e.map.length cap) 26
 have hB:=Lib.hid (below_alloc1 w (.cells (entC e (.slice ad e.map.length cap)) 26))
 have HE:=Lib.hid hE
 clear hE ho hM HM
 rw [hr] at CA
 obtain ⟨s,k⟩:=S
 dsimp only at CG ⊢
 generalize errV k=K at *
 unfold entC at HE hB
 unfold entV at CA CG ⊢
 generalize e.map.length=n at *
 rcases hd with rfl|rfl
 all_goals
  go_enter Tryz.func20,Tryz.ntmps20
  go_wp2_with (first
   |(go_at_call 23;(with_reducible refine (CA.out _ hB.out).mono ?_);rintro r w2 ⟨rfl,h2⟩;have hB2:=Lib.hid (hB.out.trans (h2.mono hB.out.size));have hE2:=Lib.hid (HE.out.below h2 HE.out.lt);clear h2;obtain ⟨c0,c1,c2,c3,c4,c5,c6,c7,c8,c9,c10,c11,c12,c13,c14⟩:=id hE2.out)
   |(go_at_call 43;(with_reducible refine (CG.out _ hB2.out).mono ?_);rintro r w3 ⟨rfl,h3⟩;have hB3:=Lib.hid (hB2.out.trans (h3.mono hB2.out.size));clear h3)
   | fail)
  go_ret2
  exact ⟨rfl,hB3.out⟩
end Go.Proofs.YtdjcjaidklgamaaGreatDoor
end
