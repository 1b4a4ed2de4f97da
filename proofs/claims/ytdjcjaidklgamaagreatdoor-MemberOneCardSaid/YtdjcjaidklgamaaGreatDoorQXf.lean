import Derived.Test.YtdjcjaidklgamaaGreatDoorQXa
import Derived.Test.YtdjcjaidklgamaaGreatDoorQEp
set_option linter.unusedSimpArgs false
set_option linter.unusedVariables false
section
namespace Go.Proofs.YtdjcjaidklgamaaGreatDoor
open Go.RowKit Go.Joins
theorem text_is (a b:List UInt8):((mkS a).toList==b)=decide (a=b):=by
 rw [ByteArray.toList_eq,mkS_list]
 by_cases h:a=b
 ·rw [decide_eq_true h,h];simp
 ·rw [decide_eq_false h];simpa using h
theorem errV_0:errV 0=.nilIface:=rfl
def Applied (c:Nat) (q:EntL × Int) (v:Value) (w:World) (r:Ending) (w':World):Prop :=
 r=.returned (errV q.2)∧w'.heap[c]?=some (.cells (entC q.1 v) 26 (0,0))∧Bar w.heap.size [c] w w'
set_option maxRecDepth 100000 in
set_option maxHeartbeats 4000000 in
theorem apply_name (c:Nat) (e:EntL) (v:Value) (k x:List UInt8) (h:k=pathK) (w:World) (hE:w.heap[c]?=some (.cells (entC e v) 26 (0,0))) :
  Calls Tryz.prog 134 #[.pointer (some ⟨c,0,none⟩),.agg #[.string (mkS k),.string (mkS x)]] w (Applied c (applyF e (k,x)) v w):=by
 have hF:applyF e (k,x)=({ e with name:=x },0):=by
  unfold applyF
  simp only
  rw [if_pos h]
 have q0:((mkS k).toList==([112,97,116,104]:List UInt8))=true:=by rw [text_is];exact decide_eq_true h
 rw [hF]
 unfold Applied
 clear hF  h
 have hlt:=(Array.getElem?_eq_some_iff.1 hE).1
 have hB:=Lib.hid (below_alloc1 w (.cells #[.string (mkS k),.string (mkS x)] 43))
 have hR:=Lib.hid ((hB.out.block c hlt).trans hE)
 have HL:=Lib.hid hlt
 rw [errV_0]
 clear hE hlt
 have c0:(w.alloc (.cells #[.string (mkS k),.string (mkS x)] 43)).cell? ⟨w.heap.size,1,none⟩=some (.string (mkS x)):=row_cell (heap_alloc_new w _) 1 _ rfl
 have k0:=row_cell hR.out 0 (.string (mkS e.name)) rfl
 have f0:=row_free hR.out 0
 unfold entC at hR k0 f0
 go_enter Tryz.func134,Tryz.ntmps134
 go_wp2_with fail
 first|go_ret2|go_ret
 have hS:=setCell_row (i:=0) (v:=.string (mkS x)) hR.out
 exact ⟨rfl,hS.1,(Bar.of_below (X:=[c]) hB.out).setCell (i:=0) (v:=.string (mkS x)) hR.out (.inl (by simp))⟩
set_option maxRecDepth 100000 in
set_option maxHeartbeats 4000000 in
theorem apply_link (c:Nat) (e:EntL) (v:Value) (k x:List UInt8) (h0:¬ k=pathK) (h:k=linkK) (w:World) (hE:w.heap[c]?=some (.cells (entC e v) 26 (0,0))) :
  Calls Tryz.prog 134 #[.pointer (some ⟨c,0,none⟩),.agg #[.string (mkS k),.string (mkS x)]] w (Applied c (applyF e (k,x)) v w):=by
 have hF:applyF e (k,x)=({ e with link:=x },0):=by
  unfold applyF
  simp only
  rw [if_neg h0,if_pos h]
 have q0:((mkS k).toList==([112,97,116,104]:List UInt8))=false:=by rw [text_is];exact decide_eq_false h0
 have q1:((mkS k).toList==([108,105,110,107,112,97,116,104]:List UInt8))=true:=by rw [text_is];exact decide_eq_true h
 rw [hF]
 unfold Applied
 clear hF h0 h
 have hlt:=(Array.getElem?_eq_some_iff.1 hE).1
 have hB:=Lib.hid (below_alloc1 w (.cells #[.string (mkS k),.string (mkS x)] 43))
 have hR:=Lib.hid ((hB.out.block c hlt).trans hE)
 have HL:=Lib.hid hlt
 rw [errV_0]
 clear hE hlt
 have c0:(w.alloc (.cells #[.string (mkS k),.string (mkS x)] 43)).cell? ⟨w.heap.size,1,none⟩=some (.string (mkS x)):=row_cell (heap_alloc_new w _) 1 _ rfl
 have k0:=row_cell hR.out 8 (.string (mkS e.link)) rfl
 have f0:=row_free hR.out 8
 unfold entC at hR k0 f0
 go_enter Tryz.func134,Tryz.ntmps134
 go_wp2_with fail
 first|go_ret2|go_ret
 have hS:=setCell_row (i:=8) (v:=.string (mkS x)) hR.out
 exact ⟨rfl,hS.1,(Bar.of_below (X:=[c]) hB.out).setCell (i:=8) (v:=.string (mkS x)) hR.out (.inl (by simp))⟩
set_option maxRecDepth 100000 in
set_option maxHeartbeats 4000000 in
theorem apply_user (c:Nat) (e:EntL) (v:Value) (k x:List UInt8) (h0:¬ k=pathK) (h1:¬ k=linkK) (h:k=unameK) (w:World) (hE:w.heap[c]?=some (.cells (entC e v) 26 (0,0))) :
  Calls Tryz.prog 134 #[.pointer (some ⟨c,0,none⟩),.agg #[.string (mkS k),.string (mkS x)]] w (Applied c (applyF e (k,x)) v w):=by
 have hF:applyF e (k,x)=({ e with user:=x },0):=by
  unfold applyF
  simp only
  rw [if_neg h0,if_neg h1,if_pos h]
 have q0:((mkS k).toList==([112,97,116,104]:List UInt8))=false:=by rw [text_is];exact decide_eq_false h0
 have q1:((mkS k).toList==([108,105,110,107,112,97,116,104]:List UInt8))=false:=by rw [text_is];exact decide_eq_false h1
 have q2:((mkS k).toList==([117,110,97,109,101]:List UInt8))=true:=by rw [text_is];exact decide_eq_true h
 rw [hF]
 unfold Applied
 clear hF h0 h1 h
 have hlt:=(Array.getElem?_eq_some_iff.1 hE).1
 have hB:=Lib.hid (below_alloc1 w (.cells #[.string (mkS k),.string (mkS x)] 43))
 have hR:=Lib.hid ((hB.out.block c hlt).trans hE)
 have HL:=Lib.hid hlt
 rw [errV_0]
 clear hE hlt
 have c0:(w.alloc (.cells #[.string (mkS k),.string (mkS x)] 43)).cell? ⟨w.heap.size,1,none⟩=some (.string (mkS x)):=row_cell (heap_alloc_new w _) 1 _ rfl
 have k0:=row_cell hR.out 9 (.string (mkS e.user)) rfl
 have f0:=row_free hR.out 9
 unfold entC at hR k0 f0
 go_enter Tryz.func134,Tryz.ntmps134
 go_wp2_with fail
 first|go_ret2|go_ret
 have hS:=setCell_row (i:=9) (v:=.string (mkS x)) hR.out
 exact ⟨rfl,hS.1,(Bar.of_below (X:=[c]) hB.out).setCell (i:=9) (v:=.string (mkS x)) hR.out (.inl (by simp))⟩
set_option maxRecDepth 100000 in
set_option maxHeartbeats 4000000 in
theorem apply_group (c:Nat) (e:EntL) (v:Value) (k x:List UInt8) (h0:¬ k=pathK) (h1:¬ k=linkK) (h2:¬ k=unameK) (h:k=gnameK) (w:World) (hE:w.heap[c]?=some (.cells (entC e v) 26 (0,0))) :
  Calls Tryz.prog 134 #[.pointer (some ⟨c,0,none⟩),.agg #[.string (mkS k),.string (mkS x)]] w (Applied c (applyF e (k,x)) v w):=by
 have hF:applyF e (k,x)=({ e with group:=x },0):=by
  unfold applyF
  simp only
  rw [if_neg h0,if_neg h1,if_neg h2,if_pos h]
 have q0:((mkS k).toList==([112,97,116,104]:List UInt8))=false:=by rw [text_is];exact decide_eq_false h0
 have q1:((mkS k).toList==([108,105,110,107,112,97,116,104]:List UInt8))=false:=by rw [text_is];exact decide_eq_false h1
 have q2:((mkS k).toList==([117,110,97,109,101]:List UInt8))=false:=by rw [text_is];exact decide_eq_false h2
 have q3:((mkS k).toList==([103,110,97,109,101]:List UInt8))=true:=by rw [text_is];exact decide_eq_true h
 rw [hF]
 unfold Applied
 clear hF h0 h1 h2 h
 have hlt:=(Array.getElem?_eq_some_iff.1 hE).1
 have hB:=Lib.hid (below_alloc1 w (.cells #[.string (mkS k),.string (mkS x)] 43))
 have hR:=Lib.hid ((hB.out.block c hlt).trans hE)
 have HL:=Lib.hid hlt
 rw [errV_0]
 clear hE hlt
 have c0:(w.alloc (.cells #[.string (mkS k),.string (mkS x)] 43)).cell? ⟨w.heap.size,1,none⟩=some (.string (mkS x)):=row_cell (heap_alloc_new w _) 1 _ rfl
 have k0:=row_cell hR.out 10 (.string (mkS e.group)) rfl
 have f0:=row_free hR.out 10
 unfold entC at hR k0 f0
 go_enter Tryz.func134,Tryz.ntmps134
 go_wp2_with fail
 first|go_ret2|go_ret
 have hS:=setCell_row (i:=10) (v:=.string (mkS x)) hR.out
 exact ⟨rfl,hS.1,(Bar.of_below (X:=[c]) hB.out).setCell (i:=10) (v:=.string (mkS x)) hR.out (.inl (by simp))⟩
set_option maxRecDepth 100000 in
set_option maxHeartbeats 4000000 in
theorem apply_time (c:Nat) (e:EntL) (v:Value) (k x:List UInt8) (h0:¬ k=pathK) (h1:¬ k=linkK) (h2:¬ k=unameK) (h3:¬ k=gnameK) (h:k=mtimeK) (w:World) (hl:x.length≤1000) (hE:w.heap[c]?=some (.cells (entC e v) 26 (0,0))) :
  Calls Tryz.prog 134 #[.pointer (some ⟨c,0,none⟩),.agg #[.string (mkS k),.string (mkS x)]] w (Applied c (applyF e (k,x)) v w):=by
 have hF:applyF e (k,x)=({ e with sec:=(St.parseF x).2.1,nano:=(St.parseF x).2.2 },(St.parseF x).1):=by
  unfold applyF
  simp only
  rw [if_neg h0,if_neg h1,if_neg h2,if_neg h3,if_pos h]
 have q0:((mkS k).toList==([112,97,116,104]:List UInt8))=false:=by rw [text_is];exact decide_eq_false h0
 have q1:((mkS k).toList==([108,105,110,107,112,97,116,104]:List UInt8))=false:=by rw [text_is];exact decide_eq_false h1
 have q2:((mkS k).toList==([117,110,97,109,101]:List UInt8))=false:=by rw [text_is];exact decide_eq_false h2
 have q3:((mkS k).toList==([103,110,97,109,101]:List UInt8))=false:=by rw [text_is];exact decide_eq_false h3
 have q4:((mkS k).toList==([109,116,105,109,101]:List UInt8))=true:=by rw [text_is];exact decide_eq_true h
 rw [hF]
 unfold Applied
 clear hF h0 h1 h2 h3 h
 have hlt:=(Array.getElem?_eq_some_iff.1 hE).1
 have hB:=Lib.hid (below_alloc1 w (.cells #[.string (mkS k),.string (mkS x)] 43))
 have hR:=Lib.hid ((hB.out.block c hlt).trans hE)
 have HL:=Lib.hid hlt
 have CC:=Lib.hid (fun w=>St.parse_any x w hl)
 generalize St.parseF x=P at *
 obtain ⟨p0,p1,p2⟩:=P
 simp only at CC ⊢
 clear hE hlt
 have c0:(w.alloc (.cells #[.string (mkS k),.string (mkS x)] 43)).cell? ⟨w.heap.size,1,none⟩=some (.string (mkS x)):=row_cell (heap_alloc_new w _) 1 _ rfl
 unfold St.tmV at CC
 unfold entC at hR
 go_enter Tryz.func134,Tryz.ntmps134
 go_wp2_with (first
  |(go_at_call 166;(with_reducible refine (CC.out _).mono ?_);rintro r w2 ⟨rfl,h2⟩;have hB2:=Lib.hid (hB.out.trans (h2.mono hB.out.size));have hR2:=Lib.hid ((h2.block _ (Array.getElem?_eq_some_iff.1 hR.out).1).trans hR.out);clear h2;have k6:=row_cell hR2.out 6 _ rfl;have k7:=row_cell hR2.out 7 _ rfl;have f6:=row_free hR2.out 6;have f7:=row_free hR2.out 7)
  | fail)
 first|go_ret2|go_ret
 have hS:=setCell_row (i:=6) (v:=.int .i64 p1) hR2.out
 have hS2:=setCell_row (i:=7) (v:=.int .i64 p2) hS.1
 exact ⟨rfl,hS2.1,((Bar.of_below (X:=[c]) hB2.out).setCell (i:=6) (v:=.int .i64 p1) hR2.out (.inl (by simp))).setCell (i:=7) (v:=.int .i64 p2) hS.1 (.inl (by simp))⟩
set_option maxRecDepth 100000 in
set_option maxHeartbeats 4000000 in
theorem apply_uid (c:Nat) (e:EntL) (v:Value) (k x:List UInt8) (h0:¬ k=pathK) (h1:¬ k=linkK) (h2:¬ k=unameK) (h3:¬ k=gnameK) (h4:¬ k=mtimeK) (h:k=uidK) (w:World) (hl:x.length≤100000) (hA:Px.AtoiLaid w) (hE:w.heap[c]?=some (.cells (entC e v) 26 (0,0))) :
  Calls Tryz.prog 134 #[.pointer (some ⟨c,0,none⟩),.agg #[.string (mkS k),.string (mkS x)]] w (Applied c (applyF e (k,x)) v w):=by
 have hF:applyF e (k,x)=({ e with uid:=(smallF x).2 },(smallF x).1):=by
  unfold applyF
  simp only
  rw [if_neg h0,if_neg h1,if_neg h2,if_neg h3,if_neg h4,if_pos h]
 have q0:((mkS k).toList==([112,97,116,104]:List UInt8))=false:=by rw [text_is];exact decide_eq_false h0
 have q1:((mkS k).toList==([108,105,110,107,112,97,116,104]:List UInt8))=false:=by rw [text_is];exact decide_eq_false h1
 have q2:((mkS k).toList==([117,110,97,109,101]:List UInt8))=false:=by rw [text_is];exact decide_eq_false h2
 have q3:((mkS k).toList==([103,110,97,109,101]:List UInt8))=false:=by rw [text_is];exact decide_eq_false h3
 have q4:((mkS k).toList==([109,116,105,109,101]:List UInt8))=false:=by rw [text_is];exact decide_eq_false h4
 have q5:((mkS k).toList==([117,105,100]:List UInt8))=true:=by rw [text_is];exact decide_eq_true h
 rw [hF]
 unfold Applied
 clear hF h0 h1 h2 h3 h4 h
 have hlt:=(Array.getElem?_eq_some_iff.1 hE).1
 have hB:=Lib.hid (below_alloc1 w (.cells #[.string (mkS k),.string (mkS x)] 43))
 have hR:=Lib.hid ((hB.out.block c hlt).trans hE)
 have HL:=Lib.hid hlt
 have CC:=Lib.hid (fun w' (h:Below w.heap.size w w')=>decimal_any x hl w' (hA.below h))
 generalize smallF x=P at *
 obtain ⟨p0,p1⟩:=P
 simp only at CC ⊢
 clear hA
 clear hE hlt
 have c0:(w.alloc (.cells #[.string (mkS k),.string (mkS x)] 43)).cell? ⟨w.heap.size,1,none⟩=some (.string (mkS x)):=row_cell (heap_alloc_new w _) 1 _ rfl
 unfold entC at hR
 go_enter Tryz.func134,Tryz.ntmps134
 go_wp2_with (first
  |(go_at_call 167;(with_reducible refine (CC.out _ hB.out).mono ?_);rintro r w2 ⟨rfl,h2⟩;have hB2:=Lib.hid (hB.out.trans (h2.mono hB.out.size));have hR2:=Lib.hid ((h2.block _ (Array.getElem?_eq_some_iff.1 hR.out).1).trans hR.out);clear h2;have k6:=row_cell hR2.out 3 _ rfl;have f6:=row_free hR2.out 3)
  | fail)
 first|go_ret2|go_ret
 have hS:=setCell_row (i:=3) (v:=.int .i64 p1) hR2.out
 exact ⟨rfl,hS.1,(Bar.of_below (X:=[c]) hB2.out).setCell (i:=3) (v:=.int .i64 p1) hR2.out (.inl (by simp))⟩
set_option maxRecDepth 100000 in
set_option maxHeartbeats 4000000 in
theorem apply_gid (c:Nat) (e:EntL) (v:Value) (k x:List UInt8) (h0:¬ k=pathK) (h1:¬ k=linkK) (h2:¬ k=unameK) (h3:¬ k=gnameK) (h4:¬ k=mtimeK) (h5:¬ k=uidK) (h:k=gidK) (w:World) (hl:x.length≤100000) (hA:Px.AtoiLaid w) (hE:w.heap[c]?=some (.cells (entC e v) 26 (0,0))) :
  Calls Tryz.prog 134 #[.pointer (some ⟨c,0,none⟩),.agg #[.string (mkS k),.string (mkS x)]] w (Applied c (applyF e (k,x)) v w):=by
 have hF:applyF e (k,x)=({ e with gid:=(smallF x).2 },(smallF x).1):=by
  unfold applyF
  simp only
  rw [if_neg h0,if_neg h1,if_neg h2,if_neg h3,if_neg h4,if_neg h5,if_pos h]
 have q0:((mkS k).toList==([112,97,116,104]:List UInt8))=false:=by rw [text_is];exact decide_eq_false h0
 have q1:((mkS k).toList==([108,105,110,107,112,97,116,104]:List UInt8))=false:=by rw [text_is];exact decide_eq_false h1
 have q2:((mkS k).toList==([117,110,97,109,101]:List UInt8))=false:=by rw [text_is];exact decide_eq_false h2
 have q3:((mkS k).toList==([103,110,97,109,101]:List UInt8))=false:=by rw [text_is];exact decide_eq_false h3
 have q4:((mkS k).toList==([109,116,105,109,101]:List UInt8))=false:=by rw [text_is];exact decide_eq_false h4
 have q5:((mkS k).toList==([117,105,100]:List UInt8))=false:=by rw [text_is];exact decide_eq_false h5
 have q6:((mkS k).toList==([103,105,100]:List UInt8))=true:=by rw [text_is];exact decide_eq_true h
 rw [hF]
 unfold Applied
 clear hF h0 h1 h2 h3 h4 h5 h
 have hlt:=(Array.getElem?_eq_some_iff.1 hE).1
 have hB:=Lib.hid (below_alloc1 w (.cells #[.string (mkS k),.string (mkS x)] 43))
 have hR:=Lib.hid ((hB.out.block c hlt).trans hE)
 have HL:=Lib.hid hlt
 have CC:=Lib.hid (fun w' (h:Below w.heap.size w w')=>decimal_any x hl w' (hA.below h))
 generalize smallF x=P at *
 obtain ⟨p0,p1⟩:=P
 simp only at CC ⊢
 clear hA
 clear hE hlt
 have c0:(w.alloc (.cells #[.string (mkS k),.string (mkS x)] 43)).cell? ⟨w.heap.size,1,none⟩=some (.string (mkS x)):=row_cell (heap_alloc_new w _) 1 _ rfl
 unfold entC at hR
 go_enter Tryz.func134,Tryz.ntmps134
 go_wp2_with (first
  |(go_at_call 167;(with_reducible refine (CC.out _ hB.out).mono ?_);rintro r w2 ⟨rfl,h2⟩;have hB2:=Lib.hid (hB.out.trans (h2.mono hB.out.size));have hR2:=Lib.hid ((h2.block _ (Array.getElem?_eq_some_iff.1 hR.out).1).trans hR.out);clear h2;have k6:=row_cell hR2.out 4 _ rfl;have f6:=row_free hR2.out 4)
  | fail)
 first|go_ret2|go_ret
 have hS:=setCell_row (i:=4) (v:=.int .i64 p1) hR2.out
 exact ⟨rfl,hS.1,(Bar.of_below (X:=[c]) hB2.out).setCell (i:=4) (v:=.int .i64 p1) hR2.out (.inl (by simp))⟩
set_option maxRecDepth 100000 in
set_option maxHeartbeats 4000000 in
theorem apply_none (c:Nat) (e:EntL) (v:Value) (k x:List UInt8) (h0:¬ k=pathK) (h1:¬ k=linkK) (h2:¬ k=unameK) (h3:¬ k=gnameK) (h4:¬ k=mtimeK) (h5:¬ k=uidK) (h6:¬ k=gidK) (w:World) (hE:w.heap[c]?=some (.cells (entC e v) 26 (0,0))) :
  Calls Tryz.prog 134 #[.pointer (some ⟨c,0,none⟩),.agg #[.string (mkS k),.string (mkS x)]] w (Applied c (applyF e (k,x)) v w):=by
 have hF:applyF e (k,x)=(e,0):=by
  unfold applyF
  simp only
  rw [if_neg h0,if_neg h1,if_neg h2,if_neg h3,if_neg h4,if_neg h5,if_neg h6]
 have q0:((mkS k).toList==([112,97,116,104]:List UInt8))=false:=by rw [text_is];exact decide_eq_false h0
 have q1:((mkS k).toList==([108,105,110,107,112,97,116,104]:List UInt8))=false:=by rw [text_is];exact decide_eq_false h1
 have q2:((mkS k).toList==([117,110,97,109,101]:List UInt8))=false:=by rw [text_is];exact decide_eq_false h2
 have q3:((mkS k).toList==([103,110,97,109,101]:List UInt8))=false:=by rw [text_is];exact decide_eq_false h3
 have q4:((mkS k).toList==([109,116,105,109,101]:List UInt8))=false:=by rw [text_is];exact decide_eq_false h4
 have q5:((mkS k).toList==([117,105,100]:List UInt8))=false:=by rw [text_is];exact decide_eq_false h5
 have q6:((mkS k).toList==([103,105,100]:List UInt8))=false:=by rw [text_is];exact decide_eq_false h6
 rw [hF]
 unfold Applied
 clear hF h0 h1 h2 h3 h4 h5 h6
 have hlt:=(Array.getElem?_eq_some_iff.1 hE).1
 have hB:=Lib.hid (below_alloc1 w (.cells #[.string (mkS k),.string (mkS x)] 43))
 have hR:=Lib.hid ((hB.out.block c hlt).trans hE)
 have HL:=Lib.hid hlt
 rw [errV_0]
 clear hE hlt
 have c0:(w.alloc (.cells #[.string (mkS k),.string (mkS x)] 43)).cell? ⟨w.heap.size,1,none⟩=some (.string (mkS x)):=row_cell (heap_alloc_new w _) 1 _ rfl
 go_enter Tryz.func134,Tryz.ntmps134
 go_wp2_with fail
 first|go_ret2|go_ret
 exact ⟨rfl,hR.out,Bar.of_below hB.out⟩
theorem apply_any (c:Nat) (e:EntL) (v:Value) (p:PrL) (hl:p.2.length≤100000) (hm:p.1=mtimeK→p.2.length≤1000) (w:World) (hA:Px.AtoiLaid w) (hE:w.heap[c]?=some (.cells (entC e v) 26 (0,0))) :
  Calls Tryz.prog 134 #[.pointer (some ⟨c,0,none⟩),.agg #[.string (mkS p.1),.string (mkS p.2)]] w (Applied c (applyF e p) v w):=by
 obtain ⟨k,x⟩:=p
 simp only at hl hm ⊢
 by_cases h0:k=pathK
 ·exact apply_name c e v k x h0 w hE
 by_cases h1:k=linkK
 ·exact apply_link c e v k x h0 h1 w hE
 by_cases h2:k=unameK
 ·exact apply_user c e v k x h0 h1 h2 w hE
 by_cases h3:k=gnameK
 ·exact apply_group c e v k x h0 h1 h2 h3 w hE
 by_cases h4:k=mtimeK
 ·exact apply_time c e v k x h0 h1 h2 h3 h4 w (hm h4) hE
 by_cases h5:k=uidK
 ·exact apply_uid c e v k x h0 h1 h2 h3 h4 h5 w hl hA hE
 by_cases h6:k=gidK
 ·exact apply_gid c e v k x h0 h1 h2 h3 h4 h5 h6 w hl hA hE
 exact apply_none c e v k x h0 h1 h2 h3 h4 h5 h6 w hE
end Go.Proofs.YtdjcjaidklgamaaGreatDoor
end
section
namespace Go.Proofs.YtdjcjaidklgamaaGreatDoor
open Go.RowKit Go.Joins
theorem trimSl_any (l:List UInt8) (w:World) (hl:l.length≤1000000) :
  Calls Tryz.prog 24 #[.string (mkS l),.string ⟨#[47]⟩] w fun e w'=>e=.returned (.string (mkS (Lib.trimRightB l 47)))∧w'=w:=by
 have h:=Tryz.strings_TrimRight_one (mkS l) 47 (by decide) w (by rw [mkS_size];omega)
 rwa [mkS_list] at h
set_option maxRecDepth 100000 in
set_option maxHeartbeats 4000000 in
theorem settle_fdir (c:Nat) (e:EntL) (v:Value) (hk:e.kind=48) (he:endsS e.name=true) (hn:e.name.length≤100000) (w:World) (hE:w.heap[c]?=some (.cells (entC e v) 26 (0,0))) :
  Calls Tryz.prog 136 #[.pointer (some ⟨c,0,none⟩)] w fun r w'=>(∃ x,r=.returned x)∧w'.heap[c]?=some (.cells (entC (settleF e) (if e.kind=48∧endsS e.name=false then v else .slice none 0 0)) 26 (0,0))∧Bar w.heap.size [c] w w':=by
 have hS:settleF e={ e with kind:=(53:UInt8),name:=Lib.trimRightB e.name 47,size:=0,data:=[],map:=[],link:=[],major:=0,minor:=0 }:=by
  unfold settleF
  simp only [hk,he]
  rfl
 rw [hS]
 rw [if_neg (by rintro ⟨_,h⟩;rw [he] at h;cases h)]
 clear hS
 have CH:=Lib.hid (fun w=>suffix47 e.name w (by omega))
 have CT:=Lib.hid (fun w=>trimSl_any e.name w (by omega))
 have CL:=Lib.hid (fun w=>isLink_any (53:UInt8) w)
 have CD:=Lib.hid (fun w=>isDev_any (53:UInt8) w)
 rw [he] at CH
 rw [show isLinkB 53=false from rfl] at CL
 rw [show isDevB 53=false from rfl] at CD
 simp only [show ((53:UInt8).toNat:Int)=53 from rfl] at CL CD
 unfold entC at hE
 rw [hk] at hE
 rw [show ((48:UInt8).toNat:Int)=48 from rfl] at hE
 clear hk he
 have HE:=Lib.hid hE
 unfold entC at HE
 have HB:=Lib.hid (Bar.refl w.heap.size [c] w)
 clear hE
 go_enter Tryz.func136,Tryz.ntmps136
 have k0:=row_cell HE.out 0 _ rfl
 have k1:=row_cell HE.out 1 _ rfl
 have f1:=row_free HE.out 1
 go_upto_region 2 with (first
  |(go_at_call 25;(with_reducible refine (CH.out _).mono ?_);rintro r w2 ⟨rfl,h2⟩;replace h2:=h2.symm;subst h2)
  |(go_at_call 24;(with_reducible refine (CT.out _).mono ?_);rintro r w2 ⟨rfl,h2⟩;replace h2:=h2.symm;subst h2)
  |(go_at_call 90;(with_reducible refine (CL.out _).mono ?_);rintro r w2 ⟨rfl,h2⟩;replace h2:=h2.symm;subst h2)
  |(go_at_call 92;(with_reducible refine (CD.out _).mono ?_);rintro r w2 ⟨rfl,h2⟩;replace h2:=h2.symm;subst h2)
  | fail)
 have s0_1:_=some (Obj.cells (#[.string (mkS e.name),.int .u8 53,.int .i64 e.mode,.int .i64 e.uid,.int .i64 e.gid,.int .i64 e.size,.int .i64 e.sec,.int .i64 e.nano,.string (mkS e.link),.string (mkS e.user),.string (mkS e.group),.int .i64 e.major,.int .i64 e.minor,.string (mkS e.data),v]:Array Value) 26 (0,0)):=(setCell_row (i:=1) (v:=.int .u8 53) HE.out).1
 have b0_1:=Bar.setCell (i:=1) (v:=.int .u8 53) HB.out HE.out (.inl (by simp))
 clear k0 k1 f1
 have HE0:=Lib.hid s0_1
 have HB0:=Lib.hid b0_1
 clear s0_1 b0_1
 generalize (World.setCell w ⟨c,1,none⟩ (.int .u8 53))=w0 at *
 have k0:=row_cell HE0.out 0 _ rfl
 have k1:=row_cell HE0.out 1 _ rfl
 have f0:=row_free HE0.out 0
 go_upto_region 4 with (first
  |(go_at_call 25;(with_reducible refine (CH.out _).mono ?_);rintro r w2 ⟨rfl,h2⟩;replace h2:=h2.symm;subst h2)
  |(go_at_call 24;(with_reducible refine (CT.out _).mono ?_);rintro r w2 ⟨rfl,h2⟩;replace h2:=h2.symm;subst h2)
  |(go_at_call 90;(with_reducible refine (CL.out _).mono ?_);rintro r w2 ⟨rfl,h2⟩;replace h2:=h2.symm;subst h2)
  |(go_at_call 92;(with_reducible refine (CD.out _).mono ?_);rintro r w2 ⟨rfl,h2⟩;replace h2:=h2.symm;subst h2)
  | fail)
 have s1_0:_=some (Obj.cells (#[.string (mkS (Lib.trimRightB e.name 47)),.int .u8 53,.int .i64 e.mode,.int .i64 e.uid,.int .i64 e.gid,.int .i64 e.size,.int .i64 e.sec,.int .i64 e.nano,.string (mkS e.link),.string (mkS e.user),.string (mkS e.group),.int .i64 e.major,.int .i64 e.minor,.string (mkS e.data),v]:Array Value) 26 (0,0)):=(setCell_row (i:=0) (v:=.string (mkS (Lib.trimRightB e.name 47))) HE0.out).1
 have b1_0:=Bar.setCell (i:=0) (v:=.string (mkS (Lib.trimRightB e.name 47))) HB0.out HE0.out (.inl (by simp))
 clear k0 k1 f0
 have HE1:=Lib.hid s1_0
 have HB1:=Lib.hid b1_0
 clear s1_0 b1_0
 generalize (World.setCell w0 ⟨c,0,none⟩ (.string (mkS (Lib.trimRightB e.name 47))))=w1 at *
 have k0:=row_cell HE1.out 0 _ rfl
 have k1:=row_cell HE1.out 1 _ rfl
 have f5:=row_free HE1.out 5
 have k5:=row_cell HE1.out 5 _ rfl
 have f13:=row_free HE1.out 13
 have k13:=row_cell HE1.out 13 _ rfl
 have f14:=row_free HE1.out 14
 have k14:=row_cell HE1.out 14 _ rfl
 go_upto_region 6 with (first
  |(go_at_call 25;(with_reducible refine (CH.out _).mono ?_);rintro r w2 ⟨rfl,h2⟩;replace h2:=h2.symm;subst h2)
  |(go_at_call 24;(with_reducible refine (CT.out _).mono ?_);rintro r w2 ⟨rfl,h2⟩;replace h2:=h2.symm;subst h2)
  |(go_at_call 90;(with_reducible refine (CL.out _).mono ?_);rintro r w2 ⟨rfl,h2⟩;replace h2:=h2.symm;subst h2)
  |(go_at_call 92;(with_reducible refine (CD.out _).mono ?_);rintro r w2 ⟨rfl,h2⟩;replace h2:=h2.symm;subst h2)
  | fail)
 have s2_5:_=some (Obj.cells (#[.string (mkS (Lib.trimRightB e.name 47)),.int .u8 53,.int .i64 e.mode,.int .i64 e.uid,.int .i64 e.gid,.int .i64 0,.int .i64 e.sec,.int .i64 e.nano,.string (mkS e.link),.string (mkS e.user),.string (mkS e.group),.int .i64 e.major,.int .i64 e.minor,.string (mkS e.data),v]:Array Value) 26 (0,0)):=(setCell_row (i:=5) (v:=.int .i64 0) HE1.out).1
 have b2_5:=Bar.setCell (i:=5) (v:=.int .i64 0) HB1.out HE1.out (.inl (by simp))
 have s2_13:_=some (Obj.cells (#[.string (mkS (Lib.trimRightB e.name 47)),.int .u8 53,.int .i64 e.mode,.int .i64 e.uid,.int .i64 e.gid,.int .i64 0,.int .i64 e.sec,.int .i64 e.nano,.string (mkS e.link),.string (mkS e.user),.string (mkS e.group),.int .i64 e.major,.int .i64 e.minor,.string ⟨#[]⟩,v]:Array Value) 26 (0,0)):=(setCell_row (i:=13) (v:=.string ⟨#[]⟩) s2_5).1
 have b2_13:=Bar.setCell (i:=13) (v:=.string ⟨#[]⟩) b2_5 s2_5 (.inl (by simp))
 have s2_14:_=some (Obj.cells (#[.string (mkS (Lib.trimRightB e.name 47)),.int .u8 53,.int .i64 e.mode,.int .i64 e.uid,.int .i64 e.gid,.int .i64 0,.int .i64 e.sec,.int .i64 e.nano,.string (mkS e.link),.string (mkS e.user),.string (mkS e.group),.int .i64 e.major,.int .i64 e.minor,.string ⟨#[]⟩,.slice none 0 0]:Array Value) 26 (0,0)):=(setCell_row (i:=14) (v:=.slice none 0 0) s2_13).1
 have b2_14:=Bar.setCell (i:=14) (v:=.slice none 0 0) b2_13 s2_13 (.inl (by simp))
 clear k0 k1 f5 k5 f13 k13 f14 k14
 have HE2:=Lib.hid s2_14
 have HB2:=Lib.hid b2_14
 clear s2_5 b2_5 s2_13 b2_13 s2_14 b2_14
 generalize (World.setCell (World.setCell (World.setCell w1 ⟨c,5,none⟩ (.int .i64 0)) ⟨c,13,none⟩ (.string ⟨#[]⟩)) ⟨c,14,none⟩ (.slice none 0 0))=w2 at *
 have k0:=row_cell HE2.out 0 _ rfl
 have k1:=row_cell HE2.out 1 _ rfl
 have f8:=row_free HE2.out 8
 have k8:=row_cell HE2.out 8 _ rfl
 go_upto_region 8 with (first
  |(go_at_call 25;(with_reducible refine (CH.out _).mono ?_);rintro r w2 ⟨rfl,h2⟩;replace h2:=h2.symm;subst h2)
  |(go_at_call 24;(with_reducible refine (CT.out _).mono ?_);rintro r w2 ⟨rfl,h2⟩;replace h2:=h2.symm;subst h2)
  |(go_at_call 90;(with_reducible refine (CL.out _).mono ?_);rintro r w2 ⟨rfl,h2⟩;replace h2:=h2.symm;subst h2)
  |(go_at_call 92;(with_reducible refine (CD.out _).mono ?_);rintro r w2 ⟨rfl,h2⟩;replace h2:=h2.symm;subst h2)
  | fail)
 have s3_8:_=some (Obj.cells (#[.string (mkS (Lib.trimRightB e.name 47)),.int .u8 53,.int .i64 e.mode,.int .i64 e.uid,.int .i64 e.gid,.int .i64 0,.int .i64 e.sec,.int .i64 e.nano,.string ⟨#[]⟩,.string (mkS e.user),.string (mkS e.group),.int .i64 e.major,.int .i64 e.minor,.string ⟨#[]⟩,.slice none 0 0]:Array Value) 26 (0,0)):=(setCell_row (i:=8) (v:=.string ⟨#[]⟩) HE2.out).1
 have b3_8:=Bar.setCell (i:=8) (v:=.string ⟨#[]⟩) HB2.out HE2.out (.inl (by simp))
 clear k0 k1 f8 k8
 have HE3:=Lib.hid s3_8
 have HB3:=Lib.hid b3_8
 clear s3_8 b3_8
 generalize (World.setCell w2 ⟨c,8,none⟩ (.string ⟨#[]⟩))=w3 at *
 have k0:=row_cell HE3.out 0 _ rfl
 have k1:=row_cell HE3.out 1 _ rfl
 have f11:=row_free HE3.out 11
 have k11:=row_cell HE3.out 11 _ rfl
 have f12:=row_free HE3.out 12
 have k12:=row_cell HE3.out 12 _ rfl
 go_wp2_with (first
  |(go_at_call 25;(with_reducible refine (CH.out _).mono ?_);rintro r w2 ⟨rfl,h2⟩;replace h2:=h2.symm;subst h2)
  |(go_at_call 24;(with_reducible refine (CT.out _).mono ?_);rintro r w2 ⟨rfl,h2⟩;replace h2:=h2.symm;subst h2)
  |(go_at_call 90;(with_reducible refine (CL.out _).mono ?_);rintro r w2 ⟨rfl,h2⟩;replace h2:=h2.symm;subst h2)
  |(go_at_call 92;(with_reducible refine (CD.out _).mono ?_);rintro r w2 ⟨rfl,h2⟩;replace h2:=h2.symm;subst h2)
  | fail)
 first|go_end0|(refine bodyPost_ret (results_none rfl _ _ _) rfl ?_)
 have s4_11:_=some (Obj.cells (#[.string (mkS (Lib.trimRightB e.name 47)),.int .u8 53,.int .i64 e.mode,.int .i64 e.uid,.int .i64 e.gid,.int .i64 0,.int .i64 e.sec,.int .i64 e.nano,.string ⟨#[]⟩,.string (mkS e.user),.string (mkS e.group),.int .i64 0,.int .i64 e.minor,.string ⟨#[]⟩,.slice none 0 0]:Array Value) 26 (0,0)):=(setCell_row (i:=11) (v:=.int .i64 0) HE3.out).1
 have b4_11:=Bar.setCell (i:=11) (v:=.int .i64 0) HB3.out HE3.out (.inl (by simp))
 have s4_12:_=some (Obj.cells (#[.string (mkS (Lib.trimRightB e.name 47)),.int .u8 53,.int .i64 e.mode,.int .i64 e.uid,.int .i64 e.gid,.int .i64 0,.int .i64 e.sec,.int .i64 e.nano,.string ⟨#[]⟩,.string (mkS e.user),.string (mkS e.group),.int .i64 0,.int .i64 0,.string ⟨#[]⟩,.slice none 0 0]:Array Value) 26 (0,0)):=(setCell_row (i:=12) (v:=.int .i64 0) s4_11).1
 have b4_12:=Bar.setCell (i:=12) (v:=.int .i64 0) b4_11 s4_11 (.inl (by simp))
 clear k0 k1 f11 k11 f12 k12
 exact ⟨⟨_,rfl⟩,s4_12,b4_12⟩
set_option maxRecDepth 100000 in
set_option maxHeartbeats 4000000 in
theorem settle_file (c:Nat) (e:EntL) (v:Value) (hk:e.kind=48) (he:endsS e.name=false) (hn:e.name.length≤100000) (w:World) (hE:w.heap[c]?=some (.cells (entC e v) 26 (0,0))) :
  Calls Tryz.prog 136 #[.pointer (some ⟨c,0,none⟩)] w fun r w'=>(∃ x,r=.returned x)∧w'.heap[c]?=some (.cells (entC (settleF e) (if e.kind=48∧endsS e.name=false then v else .slice none 0 0)) 26 (0,0))∧Bar w.heap.size [c] w w':=by
 have hS:settleF e={ e with kind:=(48:UInt8),name:=e.name,size:=e.size,data:=e.data,map:=e.map,link:=[],major:=0,minor:=0 }:=by
  unfold settleF
  simp only [hk,he]
  rfl
 rw [hS]
 rw [if_pos ⟨hk,he⟩]
 clear hS
 have CH:=Lib.hid (fun w=>suffix47 e.name w (by omega))
 have CT:=Lib.hid (fun w=>trimSl_any e.name w (by omega))
 have CL:=Lib.hid (fun w=>isLink_any (48:UInt8) w)
 have CD:=Lib.hid (fun w=>isDev_any (48:UInt8) w)
 rw [he] at CH
 rw [show isLinkB 48=false from rfl] at CL
 rw [show isDevB 48=false from rfl] at CD
 simp only [show ((48:UInt8).toNat:Int)=48 from rfl] at CL CD
 unfold entC at hE
 rw [hk] at hE
 rw [show ((48:UInt8).toNat:Int)=48 from rfl] at hE
 clear hk he
 have HE:=Lib.hid hE
 unfold entC at HE
 have HB:=Lib.hid (Bar.refl w.heap.size [c] w)
 clear hE
 go_enter Tryz.func136,Tryz.ntmps136
 have k0:=row_cell HE.out 0 _ rfl
 have k1:=row_cell HE.out 1 _ rfl
 go_upto_region 2 with (first
  |(go_at_call 25;(with_reducible refine (CH.out _).mono ?_);rintro r w2 ⟨rfl,h2⟩;replace h2:=h2.symm;subst h2)
  |(go_at_call 24;(with_reducible refine (CT.out _).mono ?_);rintro r w2 ⟨rfl,h2⟩;replace h2:=h2.symm;subst h2)
  |(go_at_call 90;(with_reducible refine (CL.out _).mono ?_);rintro r w2 ⟨rfl,h2⟩;replace h2:=h2.symm;subst h2)
  |(go_at_call 92;(with_reducible refine (CD.out _).mono ?_);rintro r w2 ⟨rfl,h2⟩;replace h2:=h2.symm;subst h2)
  | fail)
 clear k0 k1
 have k0:=row_cell HE.out 0 _ rfl
 have k1:=row_cell HE.out 1 _ rfl
 go_upto_region 4 with (first
  |(go_at_call 25;(with_reducible refine (CH.out _).mono ?_);rintro r w2 ⟨rfl,h2⟩;replace h2:=h2.symm;subst h2)
  |(go_at_call 24;(with_reducible refine (CT.out _).mono ?_);rintro r w2 ⟨rfl,h2⟩;replace h2:=h2.symm;subst h2)
  |(go_at_call 90;(with_reducible refine (CL.out _).mono ?_);rintro r w2 ⟨rfl,h2⟩;replace h2:=h2.symm;subst h2)
  |(go_at_call 92;(with_reducible refine (CD.out _).mono ?_);rintro r w2 ⟨rfl,h2⟩;replace h2:=h2.symm;subst h2)
  | fail)
 clear k0 k1
 have k0:=row_cell HE.out 0 _ rfl
 have k1:=row_cell HE.out 1 _ rfl
 go_upto_region 6 with (first
  |(go_at_call 25;(with_reducible refine (CH.out _).mono ?_);rintro r w2 ⟨rfl,h2⟩;replace h2:=h2.symm;subst h2)
  |(go_at_call 24;(with_reducible refine (CT.out _).mono ?_);rintro r w2 ⟨rfl,h2⟩;replace h2:=h2.symm;subst h2)
  |(go_at_call 90;(with_reducible refine (CL.out _).mono ?_);rintro r w2 ⟨rfl,h2⟩;replace h2:=h2.symm;subst h2)
  |(go_at_call 92;(with_reducible refine (CD.out _).mono ?_);rintro r w2 ⟨rfl,h2⟩;replace h2:=h2.symm;subst h2)
  | fail)
 clear k0 k1
 have k0:=row_cell HE.out 0 _ rfl
 have k1:=row_cell HE.out 1 _ rfl
 have f8:=row_free HE.out 8
 have k8:=row_cell HE.out 8 _ rfl
 go_upto_region 8 with (first
  |(go_at_call 25;(with_reducible refine (CH.out _).mono ?_);rintro r w2 ⟨rfl,h2⟩;replace h2:=h2.symm;subst h2)
  |(go_at_call 24;(with_reducible refine (CT.out _).mono ?_);rintro r w2 ⟨rfl,h2⟩;replace h2:=h2.symm;subst h2)
  |(go_at_call 90;(with_reducible refine (CL.out _).mono ?_);rintro r w2 ⟨rfl,h2⟩;replace h2:=h2.symm;subst h2)
  |(go_at_call 92;(with_reducible refine (CD.out _).mono ?_);rintro r w2 ⟨rfl,h2⟩;replace h2:=h2.symm;subst h2)
  | fail)
 have s3_8:_=some (Obj.cells (#[.string (mkS e.name),.int .u8 48,.int .i64 e.mode,.int .i64 e.uid,.int .i64 e.gid,.int .i64 e.size,.int .i64 e.sec,.int .i64 e.nano,.string ⟨#[]⟩,.string (mkS e.user),.string (mkS e.group),.int .i64 e.major,.int .i64 e.minor,.string (mkS e.data),v]:Array Value) 26 (0,0)):=(setCell_row (i:=8) (v:=.string ⟨#[]⟩) HE.out).1
 have b3_8:=Bar.setCell (i:=8) (v:=.string ⟨#[]⟩) HB.out HE.out (.inl (by simp))
 clear k0 k1 f8 k8
 have HE3:=Lib.hid s3_8
 have HB3:=Lib.hid b3_8
 clear s3_8 b3_8
 generalize (World.setCell w ⟨c,8,none⟩ (.string ⟨#[]⟩))=w3 at *
 have k0:=row_cell HE3.out 0 _ rfl
 have k1:=row_cell HE3.out 1 _ rfl
 have f11:=row_free HE3.out 11
 have k11:=row_cell HE3.out 11 _ rfl
 have f12:=row_free HE3.out 12
 have k12:=row_cell HE3.out 12 _ rfl
 go_wp2_with (first
  |(go_at_call 25;(with_reducible refine (CH.out _).mono ?_);rintro r w2 ⟨rfl,h2⟩;replace h2:=h2.symm;subst h2)
  |(go_at_call 24;(with_reducible refine (CT.out _).mono ?_);rintro r w2 ⟨rfl,h2⟩;replace h2:=h2.symm;subst h2)
  |(go_at_call 90;(with_reducible refine (CL.out _).mono ?_);rintro r w2 ⟨rfl,h2⟩;replace h2:=h2.symm;subst h2)
  |(go_at_call 92;(with_reducible refine (CD.out _).mono ?_);rintro r w2 ⟨rfl,h2⟩;replace h2:=h2.symm;subst h2)
  | fail)
 first|go_end0|(refine bodyPost_ret (results_none rfl _ _ _) rfl ?_)
 have s4_11:_=some (Obj.cells (#[.string (mkS e.name),.int .u8 48,.int .i64 e.mode,.int .i64 e.uid,.int .i64 e.gid,.int .i64 e.size,.int .i64 e.sec,.int .i64 e.nano,.string ⟨#[]⟩,.string (mkS e.user),.string (mkS e.group),.int .i64 0,.int .i64 e.minor,.string (mkS e.data),v]:Array Value) 26 (0,0)):=(setCell_row (i:=11) (v:=.int .i64 0) HE3.out).1
 have b4_11:=Bar.setCell (i:=11) (v:=.int .i64 0) HB3.out HE3.out (.inl (by simp))
 have s4_12:_=some (Obj.cells (#[.string (mkS e.name),.int .u8 48,.int .i64 e.mode,.int .i64 e.uid,.int .i64 e.gid,.int .i64 e.size,.int .i64 e.sec,.int .i64 e.nano,.string ⟨#[]⟩,.string (mkS e.user),.string (mkS e.group),.int .i64 0,.int .i64 0,.string (mkS e.data),v]:Array Value) 26 (0,0)):=(setCell_row (i:=12) (v:=.int .i64 0) s4_11).1
 have b4_12:=Bar.setCell (i:=12) (v:=.int .i64 0) b4_11 s4_11 (.inl (by simp))
 clear k0 k1 f11 k11 f12 k12
 exact ⟨⟨_,rfl⟩,s4_12,b4_12⟩
set_option maxRecDepth 100000 in
set_option maxHeartbeats 4000000 in
theorem settle_dir (c:Nat) (e:EntL) (v:Value) (hk:e.kind=53) (hn:e.name.length≤100000) (w:World) (hE:w.heap[c]?=some (.cells (entC e v) 26 (0,0))) :
  Calls Tryz.prog 136 #[.pointer (some ⟨c,0,none⟩)] w fun r w'=>(∃ x,r=.returned x)∧w'.heap[c]?=some (.cells (entC (settleF e) (if e.kind=48∧endsS e.name=false then v else .slice none 0 0)) 26 (0,0))∧Bar w.heap.size [c] w w':=by
 have hS:settleF e={ e with kind:=(53:UInt8),name:=Lib.trimRightB e.name 47,size:=0,data:=[],map:=[],link:=[],major:=0,minor:=0 }:=by
  unfold settleF
  simp only [hk]
  rfl
 rw [hS]
 rw [if_neg (by rintro ⟨h,_⟩;rw [hk] at h;exact absurd h (by decide))]
 clear hS
 have CH:=Lib.hid (fun w=>suffix47 e.name w (by omega))
 have CT:=Lib.hid (fun w=>trimSl_any e.name w (by omega))
 have CL:=Lib.hid (fun w=>isLink_any (53:UInt8) w)
 have CD:=Lib.hid (fun w=>isDev_any (53:UInt8) w)
 rw [show isLinkB 53=false from rfl] at CL
 rw [show isDevB 53=false from rfl] at CD
 simp only [show ((53:UInt8).toNat:Int)=53 from rfl] at CL CD
 unfold entC at hE
 rw [hk] at hE
 rw [show ((53:UInt8).toNat:Int)=53 from rfl] at hE
 clear hk
 have HE:=Lib.hid hE
 unfold entC at HE
 have HB:=Lib.hid (Bar.refl w.heap.size [c] w)
 clear hE
 go_enter Tryz.func136,Tryz.ntmps136
 have k0:=row_cell HE.out 0 _ rfl
 have k1:=row_cell HE.out 1 _ rfl
 go_upto_region 2 with (first
  |(go_at_call 25;(with_reducible refine (CH.out _).mono ?_);rintro r w2 ⟨rfl,h2⟩;replace h2:=h2.symm;subst h2)
  |(go_at_call 24;(with_reducible refine (CT.out _).mono ?_);rintro r w2 ⟨rfl,h2⟩;replace h2:=h2.symm;subst h2)
  |(go_at_call 90;(with_reducible refine (CL.out _).mono ?_);rintro r w2 ⟨rfl,h2⟩;replace h2:=h2.symm;subst h2)
  |(go_at_call 92;(with_reducible refine (CD.out _).mono ?_);rintro r w2 ⟨rfl,h2⟩;replace h2:=h2.symm;subst h2)
  | fail)
 clear k0 k1
 have k0:=row_cell HE.out 0 _ rfl
 have k1:=row_cell HE.out 1 _ rfl
 have f0:=row_free HE.out 0
 go_upto_region 4 with (first
  |(go_at_call 25;(with_reducible refine (CH.out _).mono ?_);rintro r w2 ⟨rfl,h2⟩;replace h2:=h2.symm;subst h2)
  |(go_at_call 24;(with_reducible refine (CT.out _).mono ?_);rintro r w2 ⟨rfl,h2⟩;replace h2:=h2.symm;subst h2)
  |(go_at_call 90;(with_reducible refine (CL.out _).mono ?_);rintro r w2 ⟨rfl,h2⟩;replace h2:=h2.symm;subst h2)
  |(go_at_call 92;(with_reducible refine (CD.out _).mono ?_);rintro r w2 ⟨rfl,h2⟩;replace h2:=h2.symm;subst h2)
  | fail)
 have s1_0:_=some (Obj.cells (#[.string (mkS (Lib.trimRightB e.name 47)),.int .u8 53,.int .i64 e.mode,.int .i64 e.uid,.int .i64 e.gid,.int .i64 e.size,.int .i64 e.sec,.int .i64 e.nano,.string (mkS e.link),.string (mkS e.user),.string (mkS e.group),.int .i64 e.major,.int .i64 e.minor,.string (mkS e.data),v]:Array Value) 26 (0,0)):=(setCell_row (i:=0) (v:=.string (mkS (Lib.trimRightB e.name 47))) HE.out).1
 have b1_0:=Bar.setCell (i:=0) (v:=.string (mkS (Lib.trimRightB e.name 47))) HB.out HE.out (.inl (by simp))
 clear k0 k1 f0
 have HE1:=Lib.hid s1_0
 have HB1:=Lib.hid b1_0
 clear s1_0 b1_0
 generalize (World.setCell w ⟨c,0,none⟩ (.string (mkS (Lib.trimRightB e.name 47))))=w1 at *
 have k0:=row_cell HE1.out 0 _ rfl
 have k1:=row_cell HE1.out 1 _ rfl
 have f5:=row_free HE1.out 5
 have k5:=row_cell HE1.out 5 _ rfl
 have f13:=row_free HE1.out 13
 have k13:=row_cell HE1.out 13 _ rfl
 have f14:=row_free HE1.out 14
 have k14:=row_cell HE1.out 14 _ rfl
 go_upto_region 6 with (first
  |(go_at_call 25;(with_reducible refine (CH.out _).mono ?_);rintro r w2 ⟨rfl,h2⟩;replace h2:=h2.symm;subst h2)
  |(go_at_call 24;(with_reducible refine (CT.out _).mono ?_);rintro r w2 ⟨rfl,h2⟩;replace h2:=h2.symm;subst h2)
  |(go_at_call 90;(with_reducible refine (CL.out _).mono ?_);rintro r w2 ⟨rfl,h2⟩;replace h2:=h2.symm;subst h2)
  |(go_at_call 92;(with_reducible refine (CD.out _).mono ?_);rintro r w2 ⟨rfl,h2⟩;replace h2:=h2.symm;subst h2)
  | fail)
 have s2_5:_=some (Obj.cells (#[.string (mkS (Lib.trimRightB e.name 47)),.int .u8 53,.int .i64 e.mode,.int .i64 e.uid,.int .i64 e.gid,.int .i64 0,.int .i64 e.sec,.int .i64 e.nano,.string (mkS e.link),.string (mkS e.user),.string (mkS e.group),.int .i64 e.major,.int .i64 e.minor,.string (mkS e.data),v]:Array Value) 26 (0,0)):=(setCell_row (i:=5) (v:=.int .i64 0) HE1.out).1
 have b2_5:=Bar.setCell (i:=5) (v:=.int .i64 0) HB1.out HE1.out (.inl (by simp))
 have s2_13:_=some (Obj.cells (#[.string (mkS (Lib.trimRightB e.name 47)),.int .u8 53,.int .i64 e.mode,.int .i64 e.uid,.int .i64 e.gid,.int .i64 0,.int .i64 e.sec,.int .i64 e.nano,.string (mkS e.link),.string (mkS e.user),.string (mkS e.group),.int .i64 e.major,.int .i64 e.minor,.string ⟨#[]⟩,v]:Array Value) 26 (0,0)):=(setCell_row (i:=13) (v:=.string ⟨#[]⟩) s2_5).1
 have b2_13:=Bar.setCell (i:=13) (v:=.string ⟨#[]⟩) b2_5 s2_5 (.inl (by simp))
 have s2_14:_=some (Obj.cells (#[.string (mkS (Lib.trimRightB e.name 47)),.int .u8 53,.int .i64 e.mode,.int .i64 e.uid,.int .i64 e.gid,.int .i64 0,.int .i64 e.sec,.int .i64 e.nano,.string (mkS e.link),.string (mkS e.user),.string (mkS e.group),.int .i64 e.major,.int .i64 e.minor,.string ⟨#[]⟩,.slice none 0 0]:Array Value) 26 (0,0)):=(setCell_row (i:=14) (v:=.slice none 0 0) s2_13).1
 have b2_14:=Bar.setCell (i:=14) (v:=.slice none 0 0) b2_13 s2_13 (.inl (by simp))
 clear k0 k1 f5 k5 f13 k13 f14 k14
 have HE2:=Lib.hid s2_14
 have HB2:=Lib.hid b2_14
 clear s2_5 b2_5 s2_13 b2_13 s2_14 b2_14
 generalize (World.setCell (World.setCell (World.setCell w1 ⟨c,5,none⟩ (.int .i64 0)) ⟨c,13,none⟩ (.string ⟨#[]⟩)) ⟨c,14,none⟩ (.slice none 0 0))=w2 at *
 have k0:=row_cell HE2.out 0 _ rfl
 have k1:=row_cell HE2.out 1 _ rfl
 have f8:=row_free HE2.out 8
 have k8:=row_cell HE2.out 8 _ rfl
 go_upto_region 8 with (first
  |(go_at_call 25;(with_reducible refine (CH.out _).mono ?_);rintro r w2 ⟨rfl,h2⟩;replace h2:=h2.symm;subst h2)
  |(go_at_call 24;(with_reducible refine (CT.out _).mono ?_);rintro r w2 ⟨rfl,h2⟩;replace h2:=h2.symm;subst h2)
  |(go_at_call 90;(with_reducible refine (CL.out _).mono ?_);rintro r w2 ⟨rfl,h2⟩;replace h2:=h2.symm;subst h2)
  |(go_at_call 92;(with_reducible refine (CD.out _).mono ?_);rintro r w2 ⟨rfl,h2⟩;replace h2:=h2.symm;subst h2)
  | fail)
 have s3_8:_=some (Obj.cells (#[.string (mkS (Lib.trimRightB e.name 47)),.int .u8 53,.int .i64 e.mode,.int .i64 e.uid,.int .i64 e.gid,.int .i64 0,.int .i64 e.sec,.int .i64 e.nano,.string ⟨#[]⟩,.string (mkS e.user),.string (mkS e.group),.int .i64 e.major,.int .i64 e.minor,.string ⟨#[]⟩,.slice none 0 0]:Array Value) 26 (0,0)):=(setCell_row (i:=8) (v:=.string ⟨#[]⟩) HE2.out).1
 have b3_8:=Bar.setCell (i:=8) (v:=.string ⟨#[]⟩) HB2.out HE2.out (.inl (by simp))
 clear k0 k1 f8 k8
 have HE3:=Lib.hid s3_8
 have HB3:=Lib.hid b3_8
 clear s3_8 b3_8
 generalize (World.setCell w2 ⟨c,8,none⟩ (.string ⟨#[]⟩))=w3 at *
 have k0:=row_cell HE3.out 0 _ rfl
 have k1:=row_cell HE3.out 1 _ rfl
 have f11:=row_free HE3.out 11
 have k11:=row_cell HE3.out 11 _ rfl
 have f12:=row_free HE3.out 12
 have k12:=row_cell HE3.out 12 _ rfl
 go_wp2_with (first
  |(go_at_call 25;(with_reducible refine (CH.out _).mono ?_);rintro r w2 ⟨rfl,h2⟩;replace h2:=h2.symm;subst h2)
  |(go_at_call 24;(with_reducible refine (CT.out _).mono ?_);rintro r w2 ⟨rfl,h2⟩;replace h2:=h2.symm;subst h2)
  |(go_at_call 90;(with_reducible refine (CL.out _).mono ?_);rintro r w2 ⟨rfl,h2⟩;replace h2:=h2.symm;subst h2)
  |(go_at_call 92;(with_reducible refine (CD.out _).mono ?_);rintro r w2 ⟨rfl,h2⟩;replace h2:=h2.symm;subst h2)
  | fail)
 first|go_end0|(refine bodyPost_ret (results_none rfl _ _ _) rfl ?_)
 have s4_11:_=some (Obj.cells (#[.string (mkS (Lib.trimRightB e.name 47)),.int .u8 53,.int .i64 e.mode,.int .i64 e.uid,.int .i64 e.gid,.int .i64 0,.int .i64 e.sec,.int .i64 e.nano,.string ⟨#[]⟩,.string (mkS e.user),.string (mkS e.group),.int .i64 0,.int .i64 e.minor,.string ⟨#[]⟩,.slice none 0 0]:Array Value) 26 (0,0)):=(setCell_row (i:=11) (v:=.int .i64 0) HE3.out).1
 have b4_11:=Bar.setCell (i:=11) (v:=.int .i64 0) HB3.out HE3.out (.inl (by simp))
 have s4_12:_=some (Obj.cells (#[.string (mkS (Lib.trimRightB e.name 47)),.int .u8 53,.int .i64 e.mode,.int .i64 e.uid,.int .i64 e.gid,.int .i64 0,.int .i64 e.sec,.int .i64 e.nano,.string ⟨#[]⟩,.string (mkS e.user),.string (mkS e.group),.int .i64 0,.int .i64 0,.string ⟨#[]⟩,.slice none 0 0]:Array Value) 26 (0,0)):=(setCell_row (i:=12) (v:=.int .i64 0) s4_11).1
 have b4_12:=Bar.setCell (i:=12) (v:=.int .i64 0) b4_11 s4_11 (.inl (by simp))
 clear k0 k1 f11 k11 f12 k12
 exact ⟨⟨_,rfl⟩,s4_12,b4_12⟩
set_option maxRecDepth 100000 in
set_option maxHeartbeats 4000000 in
theorem settle_link (c:Nat) (e:EntL) (v:Value) (h48:¬ e.kind=48) (h53:¬ e.kind=53) (hl:isLinkB e.kind=true) (hn:e.name.length≤100000) (w:World) (hE:w.heap[c]?=some (.cells (entC e v) 26 (0,0))) :
  Calls Tryz.prog 136 #[.pointer (some ⟨c,0,none⟩)] w fun r w'=>(∃ x,r=.returned x)∧w'.heap[c]?=some (.cells (entC (settleF e) (if e.kind=48∧endsS e.name=false then v else .slice none 0 0)) 26 (0,0))∧Bar w.heap.size [c] w w':=by
 have hS:settleF e={ e with kind:=e.kind,name:=e.name,size:=0,data:=[],map:=[],link:=e.link,major:=0,minor:=0 }:=by
  have hd:isDevB e.kind=false:=by
   unfold isLinkB at hl;unfold isDevB
   simp only [Bool.or_eq_true,beq_iff_eq] at hl
   rcases hl with hl|hl <;> rw [hl] <;> rfl
  unfold settleF
  simp only [if_neg (show ¬ (e.kind=48∧endsS e.name=true) from fun h=>h48 h.1),if_neg h48,if_neg h53,hl,hd]
  rfl
 rw [hS]
 rw [if_neg (by rintro ⟨h,_⟩;exact h48 h)]
 clear hS
 have CH:=Lib.hid (fun w=>suffix47 e.name w (by omega))
 have CT:=Lib.hid (fun w=>trimSl_any e.name w (by omega))
 have CL:=Lib.hid (fun w=>isLink_any e.kind w)
 have CD:=Lib.hid (fun w=>isDev_any e.kind w)
 have hd:isDevB e.kind=false:=by
  unfold isLinkB at hl;unfold isDevB
  simp only [Bool.or_eq_true,beq_iff_eq] at hl
  rcases hl with hl|hl <;> rw [hl] <;> rfl
 rw [hl] at CL
 rw [hd] at CD
 have g48:((e.kind.toNat:Int)==48)=false:=(u8_at e.kind 48 (by omega)).trans (by simpa using h48)
 have g53:((e.kind.toNat:Int)==53)=false:=(u8_at e.kind 53 (by omega)).trans (by simpa using h53)
 have g48':((e.kind.toNat:Int) != 48)=true:=by rw [bne,g48];rfl
 clear h48 h53 hl hd
 have HE:=Lib.hid hE
 unfold entC at HE
 have HB:=Lib.hid (Bar.refl w.heap.size [c] w)
 clear hE
 go_enter Tryz.func136,Tryz.ntmps136
 have k0:=row_cell HE.out 0 _ rfl
 have k1:=row_cell HE.out 1 _ rfl
 go_upto_region 2 with (first
  |(go_at_call 25;(with_reducible refine (CH.out _).mono ?_);rintro r w2 ⟨rfl,h2⟩;replace h2:=h2.symm;subst h2)
  |(go_at_call 24;(with_reducible refine (CT.out _).mono ?_);rintro r w2 ⟨rfl,h2⟩;replace h2:=h2.symm;subst h2)
  |(go_at_call 90;(with_reducible refine (CL.out _).mono ?_);rintro r w2 ⟨rfl,h2⟩;replace h2:=h2.symm;subst h2)
  |(go_at_call 92;(with_reducible refine (CD.out _).mono ?_);rintro r w2 ⟨rfl,h2⟩;replace h2:=h2.symm;subst h2)
  | fail)
 clear k0 k1
 have k0:=row_cell HE.out 0 _ rfl
 have k1:=row_cell HE.out 1 _ rfl
 go_upto_region 4 with (first
  |(go_at_call 25;(with_reducible refine (CH.out _).mono ?_);rintro r w2 ⟨rfl,h2⟩;replace h2:=h2.symm;subst h2)
  |(go_at_call 24;(with_reducible refine (CT.out _).mono ?_);rintro r w2 ⟨rfl,h2⟩;replace h2:=h2.symm;subst h2)
  |(go_at_call 90;(with_reducible refine (CL.out _).mono ?_);rintro r w2 ⟨rfl,h2⟩;replace h2:=h2.symm;subst h2)
  |(go_at_call 92;(with_reducible refine (CD.out _).mono ?_);rintro r w2 ⟨rfl,h2⟩;replace h2:=h2.symm;subst h2)
  | fail)
 clear k0 k1
 have k0:=row_cell HE.out 0 _ rfl
 have k1:=row_cell HE.out 1 _ rfl
 have f5:=row_free HE.out 5
 have k5:=row_cell HE.out 5 _ rfl
 have f13:=row_free HE.out 13
 have k13:=row_cell HE.out 13 _ rfl
 have f14:=row_free HE.out 14
 have k14:=row_cell HE.out 14 _ rfl
 go_upto_region 6 with (first
  |(go_at_call 25;(with_reducible refine (CH.out _).mono ?_);rintro r w2 ⟨rfl,h2⟩;replace h2:=h2.symm;subst h2)
  |(go_at_call 24;(with_reducible refine (CT.out _).mono ?_);rintro r w2 ⟨rfl,h2⟩;replace h2:=h2.symm;subst h2)
  |(go_at_call 90;(with_reducible refine (CL.out _).mono ?_);rintro r w2 ⟨rfl,h2⟩;replace h2:=h2.symm;subst h2)
  |(go_at_call 92;(with_reducible refine (CD.out _).mono ?_);rintro r w2 ⟨rfl,h2⟩;replace h2:=h2.symm;subst h2)
  | fail)
 have s2_5:_=some (Obj.cells (#[.string (mkS e.name),.int .u8 (e.kind.toNat:Int),.int .i64 e.mode,.int .i64 e.uid,.int .i64 e.gid,.int .i64 0,.int .i64 e.sec,.int .i64 e.nano,.string (mkS e.link),.string (mkS e.user),.string (mkS e.group),.int .i64 e.major,.int .i64 e.minor,.string (mkS e.data),v]:Array Value) 26 (0,0)):=(setCell_row (i:=5) (v:=.int .i64 0) HE.out).1
 have b2_5:=Bar.setCell (i:=5) (v:=.int .i64 0) HB.out HE.out (.inl (by simp))
 have s2_13:_=some (Obj.cells (#[.string (mkS e.name),.int .u8 (e.kind.toNat:Int),.int .i64 e.mode,.int .i64 e.uid,.int .i64 e.gid,.int .i64 0,.int .i64 e.sec,.int .i64 e.nano,.string (mkS e.link),.string (mkS e.user),.string (mkS e.group),.int .i64 e.major,.int .i64 e.minor,.string ⟨#[]⟩,v]:Array Value) 26 (0,0)):=(setCell_row (i:=13) (v:=.string ⟨#[]⟩) s2_5).1
 have b2_13:=Bar.setCell (i:=13) (v:=.string ⟨#[]⟩) b2_5 s2_5 (.inl (by simp))
 have s2_14:_=some (Obj.cells (#[.string (mkS e.name),.int .u8 (e.kind.toNat:Int),.int .i64 e.mode,.int .i64 e.uid,.int .i64 e.gid,.int .i64 0,.int .i64 e.sec,.int .i64 e.nano,.string (mkS e.link),.string (mkS e.user),.string (mkS e.group),.int .i64 e.major,.int .i64 e.minor,.string ⟨#[]⟩,.slice none 0 0]:Array Value) 26 (0,0)):=(setCell_row (i:=14) (v:=.slice none 0 0) s2_13).1
 have b2_14:=Bar.setCell (i:=14) (v:=.slice none 0 0) b2_13 s2_13 (.inl (by simp))
 clear k0 k1 f5 k5 f13 k13 f14 k14
 have HE2:=Lib.hid s2_14
 have HB2:=Lib.hid b2_14
 clear s2_5 b2_5 s2_13 b2_13 s2_14 b2_14
 generalize (World.setCell (World.setCell (World.setCell w ⟨c,5,none⟩ (.int .i64 0)) ⟨c,13,none⟩ (.string ⟨#[]⟩)) ⟨c,14,none⟩ (.slice none 0 0))=w2 at *
 have k0:=row_cell HE2.out 0 _ rfl
 have k1:=row_cell HE2.out 1 _ rfl
 go_upto_region 8 with (first
  |(go_at_call 25;(with_reducible refine (CH.out _).mono ?_);rintro r w2 ⟨rfl,h2⟩;replace h2:=h2.symm;subst h2)
  |(go_at_call 24;(with_reducible refine (CT.out _).mono ?_);rintro r w2 ⟨rfl,h2⟩;replace h2:=h2.symm;subst h2)
  |(go_at_call 90;(with_reducible refine (CL.out _).mono ?_);rintro r w2 ⟨rfl,h2⟩;replace h2:=h2.symm;subst h2)
  |(go_at_call 92;(with_reducible refine (CD.out _).mono ?_);rintro r w2 ⟨rfl,h2⟩;replace h2:=h2.symm;subst h2)
  | fail)
 clear k0 k1
 have k0:=row_cell HE2.out 0 _ rfl
 have k1:=row_cell HE2.out 1 _ rfl
 have f11:=row_free HE2.out 11
 have k11:=row_cell HE2.out 11 _ rfl
 have f12:=row_free HE2.out 12
 have k12:=row_cell HE2.out 12 _ rfl
 go_wp2_with (first
  |(go_at_call 25;(with_reducible refine (CH.out _).mono ?_);rintro r w2 ⟨rfl,h2⟩;replace h2:=h2.symm;subst h2)
  |(go_at_call 24;(with_reducible refine (CT.out _).mono ?_);rintro r w2 ⟨rfl,h2⟩;replace h2:=h2.symm;subst h2)
  |(go_at_call 90;(with_reducible refine (CL.out _).mono ?_);rintro r w2 ⟨rfl,h2⟩;replace h2:=h2.symm;subst h2)
  |(go_at_call 92;(with_reducible refine (CD.out _).mono ?_);rintro r w2 ⟨rfl,h2⟩;replace h2:=h2.symm;subst h2)
  | fail)
 first|go_end0|(refine bodyPost_ret (results_none rfl _ _ _) rfl ?_)
 have s4_11:_=some (Obj.cells (#[.string (mkS e.name),.int .u8 (e.kind.toNat:Int),.int .i64 e.mode,.int .i64 e.uid,.int .i64 e.gid,.int .i64 0,.int .i64 e.sec,.int .i64 e.nano,.string (mkS e.link),.string (mkS e.user),.string (mkS e.group),.int .i64 0,.int .i64 e.minor,.string ⟨#[]⟩,.slice none 0 0]:Array Value) 26 (0,0)):=(setCell_row (i:=11) (v:=.int .i64 0) HE2.out).1
 have b4_11:=Bar.setCell (i:=11) (v:=.int .i64 0) HB2.out HE2.out (.inl (by simp))
 have s4_12:_=some (Obj.cells (#[.string (mkS e.name),.int .u8 (e.kind.toNat:Int),.int .i64 e.mode,.int .i64 e.uid,.int .i64 e.gid,.int .i64 0,.int .i64 e.sec,.int .i64 e.nano,.string (mkS e.link),.string (mkS e.user),.string (mkS e.group),.int .i64 0,.int .i64 0,.string ⟨#[]⟩,.slice none 0 0]:Array Value) 26 (0,0)):=(setCell_row (i:=12) (v:=.int .i64 0) s4_11).1
 have b4_12:=Bar.setCell (i:=12) (v:=.int .i64 0) b4_11 s4_11 (.inl (by simp))
 clear k0 k1 f11 k11 f12 k12
 exact ⟨⟨_,rfl⟩,s4_12,b4_12⟩
set_option maxRecDepth 100000 in
set_option maxHeartbeats 4000000 in
theorem settle_dev (c:Nat) (e:EntL) (v:Value) (h48:¬ e.kind=48) (h53:¬ e.kind=53) (hd:isDevB e.kind=true) (hn:e.name.length≤100000) (w:World) (hE:w.heap[c]?=some (.cells (entC e v) 26 (0,0))) :
  Calls Tryz.prog 136 #[.pointer (some ⟨c,0,none⟩)] w fun r w'=>(∃ x,r=.returned x)∧w'.heap[c]?=some (.cells (entC (settleF e) (if e.kind=48∧endsS e.name=false then v else .slice none 0 0)) 26 (0,0))∧Bar w.heap.size [c] w w':=by
 have hS:settleF e={ e with kind:=e.kind,name:=e.name,size:=0,data:=[],map:=[],link:=[],major:=e.major,minor:=e.minor }:=by
  have hl:isLinkB e.kind=false:=by
   unfold isDevB at hd;unfold isLinkB
   simp only [Bool.or_eq_true,beq_iff_eq] at hd
   rcases hd with hd|hd <;> rw [hd] <;> rfl
  unfold settleF
  simp only [if_neg (show ¬ (e.kind=48∧endsS e.name=true) from fun h=>h48 h.1),if_neg h48,if_neg h53,hl,hd]
  rfl
 rw [hS]
 rw [if_neg (by rintro ⟨h,_⟩;exact h48 h)]
 clear hS
 have CH:=Lib.hid (fun w=>suffix47 e.name w (by omega))
 have CT:=Lib.hid (fun w=>trimSl_any e.name w (by omega))
 have CL:=Lib.hid (fun w=>isLink_any e.kind w)
 have CD:=Lib.hid (fun w=>isDev_any e.kind w)
 have hl:isLinkB e.kind=false:=by
  unfold isDevB at hd;unfold isLinkB
  simp only [Bool.or_eq_true,beq_iff_eq] at hd
  rcases hd with hd|hd <;> rw [hd] <;> rfl
 rw [hl] at CL
 rw [hd] at CD
 have g48:((e.kind.toNat:Int)==48)=false:=(u8_at e.kind 48 (by omega)).trans (by simpa using h48)
 have g53:((e.kind.toNat:Int)==53)=false:=(u8_at e.kind 53 (by omega)).trans (by simpa using h53)
 have g48':((e.kind.toNat:Int) != 48)=true:=by rw [bne,g48];rfl
 clear h48 h53 hl hd
 have HE:=Lib.hid hE
 unfold entC at HE
 have HB:=Lib.hid (Bar.refl w.heap.size [c] w)
 clear hE
 go_enter Tryz.func136,Tryz.ntmps136
 have k0:=row_cell HE.out 0 _ rfl
 have k1:=row_cell HE.out 1 _ rfl
 go_upto_region 2 with (first
  |(go_at_call 25;(with_reducible refine (CH.out _).mono ?_);rintro r w2 ⟨rfl,h2⟩;replace h2:=h2.symm;subst h2)
  |(go_at_call 24;(with_reducible refine (CT.out _).mono ?_);rintro r w2 ⟨rfl,h2⟩;replace h2:=h2.symm;subst h2)
  |(go_at_call 90;(with_reducible refine (CL.out _).mono ?_);rintro r w2 ⟨rfl,h2⟩;replace h2:=h2.symm;subst h2)
  |(go_at_call 92;(with_reducible refine (CD.out _).mono ?_);rintro r w2 ⟨rfl,h2⟩;replace h2:=h2.symm;subst h2)
  | fail)
 clear k0 k1
 have k0:=row_cell HE.out 0 _ rfl
 have k1:=row_cell HE.out 1 _ rfl
 go_upto_region 4 with (first
  |(go_at_call 25;(with_reducible refine (CH.out _).mono ?_);rintro r w2 ⟨rfl,h2⟩;replace h2:=h2.symm;subst h2)
  |(go_at_call 24;(with_reducible refine (CT.out _).mono ?_);rintro r w2 ⟨rfl,h2⟩;replace h2:=h2.symm;subst h2)
  |(go_at_call 90;(with_reducible refine (CL.out _).mono ?_);rintro r w2 ⟨rfl,h2⟩;replace h2:=h2.symm;subst h2)
  |(go_at_call 92;(with_reducible refine (CD.out _).mono ?_);rintro r w2 ⟨rfl,h2⟩;replace h2:=h2.symm;subst h2)
  | fail)
 clear k0 k1
 have k0:=row_cell HE.out 0 _ rfl
 have k1:=row_cell HE.out 1 _ rfl
 have f5:=row_free HE.out 5
 have k5:=row_cell HE.out 5 _ rfl
 have f13:=row_free HE.out 13
 have k13:=row_cell HE.out 13 _ rfl
 have f14:=row_free HE.out 14
 have k14:=row_cell HE.out 14 _ rfl
 go_upto_region 6 with (first
  |(go_at_call 25;(with_reducible refine (CH.out _).mono ?_);rintro r w2 ⟨rfl,h2⟩;replace h2:=h2.symm;subst h2)
  |(go_at_call 24;(with_reducible refine (CT.out _).mono ?_);rintro r w2 ⟨rfl,h2⟩;replace h2:=h2.symm;subst h2)
  |(go_at_call 90;(with_reducible refine (CL.out _).mono ?_);rintro r w2 ⟨rfl,h2⟩;replace h2:=h2.symm;subst h2)
  |(go_at_call 92;(with_reducible refine (CD.out _).mono ?_);rintro r w2 ⟨rfl,h2⟩;replace h2:=h2.symm;subst h2)
  | fail)
 have s2_5:_=some (Obj.cells (#[.string (mkS e.name),.int .u8 (e.kind.toNat:Int),.int .i64 e.mode,.int .i64 e.uid,.int .i64 e.gid,.int .i64 0,.int .i64 e.sec,.int .i64 e.nano,.string (mkS e.link),.string (mkS e.user),.string (mkS e.group),.int .i64 e.major,.int .i64 e.minor,.string (mkS e.data),v]:Array Value) 26 (0,0)):=(setCell_row (i:=5) (v:=.int .i64 0) HE.out).1
 have b2_5:=Bar.setCell (i:=5) (v:=.int .i64 0) HB.out HE.out (.inl (by simp))
 have s2_13:_=some (Obj.cells (#[.string (mkS e.name),.int .u8 (e.kind.toNat:Int),.int .i64 e.mode,.int .i64 e.uid,.int .i64 e.gid,.int .i64 0,.int .i64 e.sec,.int .i64 e.nano,.string (mkS e.link),.string (mkS e.user),.string (mkS e.group),.int .i64 e.major,.int .i64 e.minor,.string ⟨#[]⟩,v]:Array Value) 26 (0,0)):=(setCell_row (i:=13) (v:=.string ⟨#[]⟩) s2_5).1
 have b2_13:=Bar.setCell (i:=13) (v:=.string ⟨#[]⟩) b2_5 s2_5 (.inl (by simp))
 have s2_14:_=some (Obj.cells (#[.string (mkS e.name),.int .u8 (e.kind.toNat:Int),.int .i64 e.mode,.int .i64 e.uid,.int .i64 e.gid,.int .i64 0,.int .i64 e.sec,.int .i64 e.nano,.string (mkS e.link),.string (mkS e.user),.string (mkS e.group),.int .i64 e.major,.int .i64 e.minor,.string ⟨#[]⟩,.slice none 0 0]:Array Value) 26 (0,0)):=(setCell_row (i:=14) (v:=.slice none 0 0) s2_13).1
 have b2_14:=Bar.setCell (i:=14) (v:=.slice none 0 0) b2_13 s2_13 (.inl (by simp))
 clear k0 k1 f5 k5 f13 k13 f14 k14
 have HE2:=Lib.hid s2_14
 have HB2:=Lib.hid b2_14
 clear s2_5 b2_5 s2_13 b2_13 s2_14 b2_14
 generalize (World.setCell (World.setCell (World.setCell w ⟨c,5,none⟩ (.int .i64 0)) ⟨c,13,none⟩ (.string ⟨#[]⟩)) ⟨c,14,none⟩ (.slice none 0 0))=w2 at *
 have k0:=row_cell HE2.out 0 _ rfl
 have k1:=row_cell HE2.out 1 _ rfl
 have f8:=row_free HE2.out 8
 have k8:=row_cell HE2.out 8 _ rfl
 go_upto_region 8 with (first
  |(go_at_call 25;(with_reducible refine (CH.out _).mono ?_);rintro r w2 ⟨rfl,h2⟩;replace h2:=h2.symm;subst h2)
  |(go_at_call 24;(with_reducible refine (CT.out _).mono ?_);rintro r w2 ⟨rfl,h2⟩;replace h2:=h2.symm;subst h2)
  |(go_at_call 90;(with_reducible refine (CL.out _).mono ?_);rintro r w2 ⟨rfl,h2⟩;replace h2:=h2.symm;subst h2)
  |(go_at_call 92;(with_reducible refine (CD.out _).mono ?_);rintro r w2 ⟨rfl,h2⟩;replace h2:=h2.symm;subst h2)
  | fail)
 have s3_8:_=some (Obj.cells (#[.string (mkS e.name),.int .u8 (e.kind.toNat:Int),.int .i64 e.mode,.int .i64 e.uid,.int .i64 e.gid,.int .i64 0,.int .i64 e.sec,.int .i64 e.nano,.string ⟨#[]⟩,.string (mkS e.user),.string (mkS e.group),.int .i64 e.major,.int .i64 e.minor,.string ⟨#[]⟩,.slice none 0 0]:Array Value) 26 (0,0)):=(setCell_row (i:=8) (v:=.string ⟨#[]⟩) HE2.out).1
 have b3_8:=Bar.setCell (i:=8) (v:=.string ⟨#[]⟩) HB2.out HE2.out (.inl (by simp))
 clear k0 k1 f8 k8
 have HE3:=Lib.hid s3_8
 have HB3:=Lib.hid b3_8
 clear s3_8 b3_8
 generalize (World.setCell w2 ⟨c,8,none⟩ (.string ⟨#[]⟩))=w3 at *
 have k0:=row_cell HE3.out 0 _ rfl
 have k1:=row_cell HE3.out 1 _ rfl
 go_wp2_with (first
  |(go_at_call 25;(with_reducible refine (CH.out _).mono ?_);rintro r w2 ⟨rfl,h2⟩;replace h2:=h2.symm;subst h2)
  |(go_at_call 24;(with_reducible refine (CT.out _).mono ?_);rintro r w2 ⟨rfl,h2⟩;replace h2:=h2.symm;subst h2)
  |(go_at_call 90;(with_reducible refine (CL.out _).mono ?_);rintro r w2 ⟨rfl,h2⟩;replace h2:=h2.symm;subst h2)
  |(go_at_call 92;(with_reducible refine (CD.out _).mono ?_);rintro r w2 ⟨rfl,h2⟩;replace h2:=h2.symm;subst h2)
  | fail)
 first|go_end0|(refine bodyPost_ret (results_none rfl _ _ _) rfl ?_)
 clear k0 k1
 exact ⟨⟨_,rfl⟩,HE3.out,HB3.out⟩
set_option maxRecDepth 100000 in
set_option maxHeartbeats 4000000 in
theorem settle_else (c:Nat) (e:EntL) (v:Value) (h48:¬ e.kind=48) (h53:¬ e.kind=53) (hl:isLinkB e.kind=false) (hd:isDevB e.kind=false) (hn:e.name.length≤100000) (w:World) (hE:w.heap[c]?=some (.cells (entC e v) 26 (0,0))) :
  Calls Tryz.prog 136 #[.pointer (some ⟨c,0,none⟩)] w fun r w'=>(∃ x,r=.returned x)∧w'.heap[c]?=some (.cells (entC (settleF e) (if e.kind=48∧endsS e.name=false then v else .slice none 0 0)) 26 (0,0))∧Bar w.heap.size [c] w w':=by
 have hS:settleF e={ e with kind:=e.kind,name:=e.name,size:=0,data:=[],map:=[],link:=[],major:=0,minor:=0 }:=by
  unfold settleF
  simp only [if_neg (show ¬ (e.kind=48∧endsS e.name=true) from fun h=>h48 h.1),if_neg h48,if_neg h53,hl,hd]
  rfl
 rw [hS]
 rw [if_neg (by rintro ⟨h,_⟩;exact h48 h)]
 clear hS
 have CH:=Lib.hid (fun w=>suffix47 e.name w (by omega))
 have CT:=Lib.hid (fun w=>trimSl_any e.name w (by omega))
 have CL:=Lib.hid (fun w=>isLink_any e.kind w)
 have CD:=Lib.hid (fun w=>isDev_any e.kind w)
 rw [hl] at CL
 rw [hd] at CD
 have g48:((e.kind.toNat:Int)==48)=false:=(u8_at e.kind 48 (by omega)).trans (by simpa using h48)
 have g53:((e.kind.toNat:Int)==53)=false:=(u8_at e.kind 53 (by omega)).trans (by simpa using h53)
 have g48':((e.kind.toNat:Int) != 48)=true:=by rw [bne,g48];rfl
 clear h48 h53 hl hd
 have HE:=Lib.hid hE
 unfold entC at HE
 have HB:=Lib.hid (Bar.refl w.heap.size [c] w)
 clear hE
 go_enter Tryz.func136,Tryz.ntmps136
 have k0:=row_cell HE.out 0 _ rfl
 have k1:=row_cell HE.out 1 _ rfl
 go_upto_region 2 with (first
  |(go_at_call 25;(with_reducible refine (CH.out _).mono ?_);rintro r w2 ⟨rfl,h2⟩;replace h2:=h2.symm;subst h2)
  |(go_at_call 24;(with_reducible refine (CT.out _).mono ?_);rintro r w2 ⟨rfl,h2⟩;replace h2:=h2.symm;subst h2)
  |(go_at_call 90;(with_reducible refine (CL.out _).mono ?_);rintro r w2 ⟨rfl,h2⟩;replace h2:=h2.symm;subst h2)
  |(go_at_call 92;(with_reducible refine (CD.out _).mono ?_);rintro r w2 ⟨rfl,h2⟩;replace h2:=h2.symm;subst h2)
  | fail)
 clear k0 k1
 have k0:=row_cell HE.out 0 _ rfl
 have k1:=row_cell HE.out 1 _ rfl
 go_upto_region 4 with (first
  |(go_at_call 25;(with_reducible refine (CH.out _).mono ?_);rintro r w2 ⟨rfl,h2⟩;replace h2:=h2.symm;subst h2)
  |(go_at_call 24;(with_reducible refine (CT.out _).mono ?_);rintro r w2 ⟨rfl,h2⟩;replace h2:=h2.symm;subst h2)
  |(go_at_call 90;(with_reducible refine (CL.out _).mono ?_);rintro r w2 ⟨rfl,h2⟩;replace h2:=h2.symm;subst h2)
  |(go_at_call 92;(with_reducible refine (CD.out _).mono ?_);rintro r w2 ⟨rfl,h2⟩;replace h2:=h2.symm;subst h2)
  | fail)
 clear k0 k1
 have k0:=row_cell HE.out 0 _ rfl
 have k1:=row_cell HE.out 1 _ rfl
 have f5:=row_free HE.out 5
 have k5:=row_cell HE.out 5 _ rfl
 have f13:=row_free HE.out 13
 have k13:=row_cell HE.out 13 _ rfl
 have f14:=row_free HE.out 14
 have k14:=row_cell HE.out 14 _ rfl
 go_upto_region 6 with (first
  |(go_at_call 25;(with_reducible refine (CH.out _).mono ?_);rintro r w2 ⟨rfl,h2⟩;replace h2:=h2.symm;subst h2)
  |(go_at_call 24;(with_reducible refine (CT.out _).mono ?_);rintro r w2 ⟨rfl,h2⟩;replace h2:=h2.symm;subst h2)
  |(go_at_call 90;(with_reducible refine (CL.out _).mono ?_);rintro r w2 ⟨rfl,h2⟩;replace h2:=h2.symm;subst h2)
  |(go_at_call 92;(with_reducible refine (CD.out _).mono ?_);rintro r w2 ⟨rfl,h2⟩;replace h2:=h2.symm;subst h2)
  | fail)
 have s2_5:_=some (Obj.cells (#[.string (mkS e.name),.int .u8 (e.kind.toNat:Int),.int .i64 e.mode,.int .i64 e.uid,.int .i64 e.gid,.int .i64 0,.int .i64 e.sec,.int .i64 e.nano,.string (mkS e.link),.string (mkS e.user),.string (mkS e.group),.int .i64 e.major,.int .i64 e.minor,.string (mkS e.data),v]:Array Value) 26 (0,0)):=(setCell_row (i:=5) (v:=.int .i64 0) HE.out).1
 have b2_5:=Bar.setCell (i:=5) (v:=.int .i64 0) HB.out HE.out (.inl (by simp))
 have s2_13:_=some (Obj.cells (#[.string (mkS e.name),.int .u8 (e.kind.toNat:Int),.int .i64 e.mode,.int .i64 e.uid,.int .i64 e.gid,.int .i64 0,.int .i64 e.sec,.int .i64 e.nano,.string (mkS e.link),.string (mkS e.user),.string (mkS e.group),.int .i64 e.major,.int .i64 e.minor,.string ⟨#[]⟩,v]:Array Value) 26 (0,0)):=(setCell_row (i:=13) (v:=.string ⟨#[]⟩) s2_5).1
 have b2_13:=Bar.setCell (i:=13) (v:=.string ⟨#[]⟩) b2_5 s2_5 (.inl (by simp))
 have s2_14:_=some (Obj.cells (#[.string (mkS e.name),.int .u8 (e.kind.toNat:Int),.int .i64 e.mode,.int .i64 e.uid,.int .i64 e.gid,.int .i64 0,.int .i64 e.sec,.int .i64 e.nano,.string (mkS e.link),.string (mkS e.user),.string (mkS e.group),.int .i64 e.major,.int .i64 e.minor,.string ⟨#[]⟩,.slice none 0 0]:Array Value) 26 (0,0)):=(setCell_row (i:=14) (v:=.slice none 0 0) s2_13).1
 have b2_14:=Bar.setCell (i:=14) (v:=.slice none 0 0) b2_13 s2_13 (.inl (by simp))
 clear k0 k1 f5 k5 f13 k13 f14 k14
 have HE2:=Lib.hid s2_14
 have HB2:=Lib.hid b2_14
 clear s2_5 b2_5 s2_13 b2_13 s2_14 b2_14
 generalize (World.setCell (World.setCell (World.setCell w ⟨c,5,none⟩ (.int .i64 0)) ⟨c,13,none⟩ (.string ⟨#[]⟩)) ⟨c,14,none⟩ (.slice none 0 0))=w2 at *
 have k0:=row_cell HE2.out 0 _ rfl
 have k1:=row_cell HE2.out 1 _ rfl
 have f8:=row_free HE2.out 8
 have k8:=row_cell HE2.out 8 _ rfl
 go_upto_region 8 with (first
  |(go_at_call 25;(with_reducible refine (CH.out _).mono ?_);rintro r w2 ⟨rfl,h2⟩;replace h2:=h2.symm;subst h2)
  |(go_at_call 24;(with_reducible refine (CT.out _).mono ?_);rintro r w2 ⟨rfl,h2⟩;replace h2:=h2.symm;subst h2)
  |(go_at_call 90;(with_reducible refine (CL.out _).mono ?_);rintro r w2 ⟨rfl,h2⟩;replace h2:=h2.symm;subst h2)
  |(go_at_call 92;(with_reducible refine (CD.out _).mono ?_);rintro r w2 ⟨rfl,h2⟩;replace h2:=h2.symm;subst h2)
  | fail)
 have s3_8:_=some (Obj.cells (#[.string (mkS e.name),.int .u8 (e.kind.toNat:Int),.int .i64 e.mode,.int .i64 e.uid,.int .i64 e.gid,.int .i64 0,.int .i64 e.sec,.int .i64 e.nano,.string ⟨#[]⟩,.string (mkS e.user),.string (mkS e.group),.int .i64 e.major,.int .i64 e.minor,.string ⟨#[]⟩,.slice none 0 0]:Array Value) 26 (0,0)):=(setCell_row (i:=8) (v:=.string ⟨#[]⟩) HE2.out).1
 have b3_8:=Bar.setCell (i:=8) (v:=.string ⟨#[]⟩) HB2.out HE2.out (.inl (by simp))
 clear k0 k1 f8 k8
 have HE3:=Lib.hid s3_8
 have HB3:=Lib.hid b3_8
 clear s3_8 b3_8
 generalize (World.setCell w2 ⟨c,8,none⟩ (.string ⟨#[]⟩))=w3 at *
 have k0:=row_cell HE3.out 0 _ rfl
 have k1:=row_cell HE3.out 1 _ rfl
 have f11:=row_free HE3.out 11
 have k11:=row_cell HE3.out 11 _ rfl
 have f12:=row_free HE3.out 12
 have k12:=row_cell HE3.out 12 _ rfl
 go_wp2_with (first
  |(go_at_call 25;(with_reducible refine (CH.out _).mono ?_);rintro r w2 ⟨rfl,h2⟩;replace h2:=h2.symm;subst h2)
  |(go_at_call 24;(with_reducible refine (CT.out _).mono ?_);rintro r w2 ⟨rfl,h2⟩;replace h2:=h2.symm;subst h2)
  |(go_at_call 90;(with_reducible refine (CL.out _).mono ?_);rintro r w2 ⟨rfl,h2⟩;replace h2:=h2.symm;subst h2)
  |(go_at_call 92;(with_reducible refine (CD.out _).mono ?_);rintro r w2 ⟨rfl,h2⟩;replace h2:=h2.symm;subst h2)
  | fail)
 first|go_end0|(refine bodyPost_ret (results_none rfl _ _ _) rfl ?_)
 have s4_11:_=some (Obj.cells (#[.string (mkS e.name),.int .u8 (e.kind.toNat:Int),.int .i64 e.mode,.int .i64 e.uid,.int .i64 e.gid,.int .i64 0,.int .i64 e.sec,.int .i64 e.nano,.string ⟨#[]⟩,.string (mkS e.user),.string (mkS e.group),.int .i64 0,.int .i64 e.minor,.string ⟨#[]⟩,.slice none 0 0]:Array Value) 26 (0,0)):=(setCell_row (i:=11) (v:=.int .i64 0) HE3.out).1
 have b4_11:=Bar.setCell (i:=11) (v:=.int .i64 0) HB3.out HE3.out (.inl (by simp))
 have s4_12:_=some (Obj.cells (#[.string (mkS e.name),.int .u8 (e.kind.toNat:Int),.int .i64 e.mode,.int .i64 e.uid,.int .i64 e.gid,.int .i64 0,.int .i64 e.sec,.int .i64 e.nano,.string ⟨#[]⟩,.string (mkS e.user),.string (mkS e.group),.int .i64 0,.int .i64 0,.string ⟨#[]⟩,.slice none 0 0]:Array Value) 26 (0,0)):=(setCell_row (i:=12) (v:=.int .i64 0) s4_11).1
 have b4_12:=Bar.setCell (i:=12) (v:=.int .i64 0) b4_11 s4_11 (.inl (by simp))
 clear k0 k1 f11 k11 f12 k12
 exact ⟨⟨_,rfl⟩,s4_12,b4_12⟩
theorem settle_any (c:Nat) (e:EntL) (v:Value) (hn:e.name.length≤100000) (w:World) (hE:w.heap[c]?=some (.cells (entC e v) 26 (0,0))) :
  Calls Tryz.prog 136 #[.pointer (some ⟨c,0,none⟩)] w fun r w'=>(∃ x,r=.returned x)∧w'.heap[c]?=some (.cells (entC (settleF e) (if e.kind=48∧endsS e.name=false then v else .slice none 0 0)) 26 (0,0))∧Bar w.heap.size [c] w w':=by
 by_cases h48:e.kind=48
 ·cases he:endsS e.name
  ·have:=settle_file c e v h48 he hn w hE
   rwa [he] at this
  ·have:=settle_fdir c e v h48 he hn w hE
   rwa [he] at this
 by_cases h53:e.kind=53
 ·exact settle_dir c e v h53 hn w hE
 cases hl:isLinkB e.kind
 ·cases hd:isDevB e.kind
  ·exact settle_else c e v h48 h53 hl hd hn w hE
  ·exact settle_dev c e v h48 h53 hd hn w hE
 ·exact settle_link c e v h48 h53 hl hn w hE
end Go.Proofs.YtdjcjaidklgamaaGreatDoor
end
