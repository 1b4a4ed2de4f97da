import Derived.Test.YtdjcjaidklgamaaGreatDoorQHb
import Derived.Test.YtdjcjaidklgamaaGreatDoorQShelf
import Derived.Lib.IndexLaws
import Derived.Sort.LoopGhostIn
set_option linter.unusedSimpArgs false
set_option linter.unusedVariables false
section
namespace Go.Proofs.YtdjcjaidklgamaaGreatDoor
open Go.RowKit Go.Joins
set_option linter.unusedVariables false
set_option linter.unusedSimpArgs false
theorem index_cutZ:∀ l:List UInt8,(Lib.indexByte l 0=-1∧cutZ l=l)∨∃ i:Nat,i<l.length∧Lib.indexByte l 0=i∧cutZ l=l.take i
 | []=>Or.inl ⟨rfl,rfl⟩
 | c :: r=>by
  unfold cutZ
  by_cases h:c=0
  ·subst h
   exact Or.inr ⟨0,by simp,by simp [Lib.indexByte],by simp⟩
  ·have h1:(c==0)=false:=by simpa using h
   rw [List.takeWhile_cons_of_pos (by simpa using h)]
   rcases index_cutZ r with ⟨h2,h3⟩|⟨i,hi,h2,h3⟩
   ·left
    unfold cutZ at h3
    exact ⟨by simp [Lib.indexByte,h1,h2],by rw [h3]⟩
   ·right
    unfold cutZ at h3
    refine ⟨i+1,by simp;omega,?_,by rw [h3];rfl⟩
    have h4:(Lib.indexByte r 0==-1)=false:=by rw [h2,beq_eq_false_iff_ne];omega
    rw [Lib.indexByte,h1]
    simp [h4,h2]
def CutIs (l:List UInt8) (w:World) (e:Ending) (w':World):Prop:=∃ t b,e=.returned (.tuple #[.string (mkS (cutZ l)),.string t,.bool b])∧Below w.heap.size w w'
set_option maxHeartbeats 2000000 in
theorem slCut_any (l:List UInt8) (hl:l.length≤1000000) (w:World) :
  Calls Tryz.prog 157 #[.string (mkS l),.string { data:=#[0] }] w (CutIs l w):=by
 have s1:=mkS_size l
 have ix:=Tryz.stringslite_Index_one (mkS l) 0
 rw [mkS_list] at ix
 rcases index_cutZ l with ⟨h2,h3⟩|⟨i,hi,h2,h3⟩
 ·rw [h2] at ix
  have IX:=Lib.hid ix
  have H:=Lib.hid h3
  clear ix h2 h3
  go_enter Tryz.func157,Tryz.ntmps157
  go_wp2_with (go_at_call 171;(with_reducible refine (IX.out _).mono ?_);rintro e w' ⟨rfl,hw⟩;replace hw:=hw.symm;subst hw)
  go_ret3
  exact ⟨⟨#[]⟩,false,by rw [H.out];rfl,Below.refl _ _⟩
 ·rw [h2] at ix
  have IX:=Lib.hid ix
  have H:=Lib.hid h3
  have u1:=fun w=>mkS_upto l i (by omega) w
  have u2:=fun w=>mkS_onward l (i+1) (by omega) w
  simp only [Int.natCast_add,Int.natCast_one] at u2
  clear ix h2 h3
  go_enter Tryz.func157,Tryz.ntmps157
  go_wp2_with (go_at_call 171;(with_reducible refine (IX.out _).mono ?_);rintro e w' ⟨rfl,hw⟩;replace hw:=hw.symm;subst hw)
  go_quiet (fail)
  go_wp2
  go_ret3
  exact ⟨_,true,by rw [H.out];rfl,(Below.refl _ _).trans ⟨rfl,rfl,rfl,Nat.le_refl _,fun _ _=>rfl⟩⟩
theorem cut_any (l:List UInt8) (hl:l.length≤1000000) (w:World) :
  Calls Tryz.prog 127 #[.string (mkS l),.string { data:=#[0] }] w (CutIs l w):=by
 have C:=Lib.hid (slCut_any l hl)
 go_enter Tryz.func127,Tryz.ntmps127
 go_wp2_with (go_at_call 157;(with_reducible refine (C.out _).mono ?_);rintro e w1 ⟨t,b,rfl,h1⟩)
 go_ret3
 exact ⟨t,b,rfl,h1⟩
end Go.Proofs.YtdjcjaidklgamaaGreatDoor
end
section
namespace Go.Proofs.YtdjcjaidklgamaaGreatDoor
open Go.RowKit Go.Joins
set_option linter.unusedVariables false
set_option linter.unusedSimpArgs false
def dialM (m:List UInt8):Int:=if m=magicL 2 then 2 else if m=magicL 3 then 3 else 1
theorem eq8 (m X:List UInt8):((mkS m).toList==X)=decide (m=X):=by
 rw [ByteArray.toList_eq,mkS_list]
 by_cases h:m=X <;> simp [h]
theorem magicDialect_any (m:List UInt8) (w:World) :
  Calls Tryz.prog 125 #[.string (mkS m)] w fun e w'=>e=.returned (.int .i64 (dialM m))∧w'=w:=by
 have e1:((mkS m).toList==[117,115,116,97,114,0,48,48])=decide (m=magicL 2):=eq8 m (magicL 2)
 have e2:((mkS m).toList==[117,115,116,97,114,32,32,0])=decide (m=magicL 3):=eq8 m (magicL 3)
 by_cases h2:m=magicL 2
 ·rw [decide_eq_true h2] at e1
  have E:=Lib.hid (show dialM m=2 by unfold dialM;rw [if_pos h2])
  clear h2 e2
  go_enter Tryz.func125,Tryz.ntmps125
  go_wp2
  go_ret
  exact ⟨by rw [E.out];rfl,rfl⟩
 ·rw [decide_eq_false h2] at e1
  by_cases h3:m=magicL 3
  ·rw [decide_eq_true h3] at e2
   have E:=Lib.hid (show dialM m=3 by unfold dialM;rw [if_neg h2,if_pos h3])
   clear h2 h3
   go_enter Tryz.func125,Tryz.ntmps125
   go_wp2
   go_ret
   exact ⟨by rw [E.out];rfl,rfl⟩
  ·rw [decide_eq_false h3] at e2
   have E:=Lib.hid (show dialM m=1 by unfold dialM;rw [if_neg h2,if_neg h3])
   clear h2 h3
   go_enter Tryz.func125,Tryz.ntmps125
   go_wp2
   go_ret
   exact ⟨by rw [E.out];rfl,rfl⟩
theorem mid_sub (l:List UInt8) (i j:Nat) (hi:i≤j) (h:j≤l.length) (w:World):(Instr.slice 9 (.string (mkS l)) (some (.int .i64 (i:Int))) (some (.int .i64 (j:Int))) none).run Tryz.prog w=.ok (.string (mkS (sub l i (j - i)))) w:=mkS_mid l i j hi h w
theorem wrap_small (n:Int) (h0:0≤n) (h1:n≤1000000):IntKind.i64.wrap n=n:=by
 simp only [IntKind.wrap,IntKind.bits,IntKind.signed]
 simp
 omega
def rawZ (c:UInt8):RawL:=⟨[],[],[],[],[],c,0,0,0,0,0,0,0⟩
def setT (q:RawL) (k:Nat) (t:List UInt8):RawL:=if k=0 then { q with name:=t } else if k=1 then { q with link:=t } else if k=2 then { q with user:=t } else if k=3 then { q with group:=t } else { q with front:=t }
def setN (q:RawL) (k:Nat) (n:Int):RawL:=if k=0 then { q with mode:=n } else if k=1 then { q with uid:=n } else if k=2 then { q with gid:=n } else if k=3 then { q with size:=n } else if k=4 then { q with time:=n } else if k=5 then { q with major:=n } else { q with minor:=n }
def readT (l:List UInt8):Nat→RawL
 | 0=>rawZ (kindF ((sub l 156 1).headD 0))
 | k+1=>setT (readT l k) k (cutZ (sub l (tAt k) (tSz k)))
def readN (l:List UInt8):Nat→RawL
 | 0=>readT l 5
 | k+1=>setN (readN l k) k (numAt l (nAt k) (nSz k)).1
def RawRow (w:World) (b:Nat) (q:RawL):Prop:=w.heap[b]?=some (.cells #[.string (mkS q.name),.string (mkS q.link),.string (mkS q.user),.string (mkS q.group),.string (mkS q.front),.int .u8 (q.kind.toNat:Int),.int .i64 q.mode,.int .i64 q.uid,.int .i64 q.gid,.int .i64 q.size,.int .i64 q.time,.int .i64 q.major,.int .i64 q.minor] 117 (0,0))
theorem RawRow.at {w:World} {b:Nat} {q:RawL} (h:RawRow w b q):RawAt w b q:=RawAt.of_row h
theorem RawRow.lt {w:World} {b:Nat} {q:RawL} (h:RawRow w b q):b<w.heap.size:=(Array.getElem?_eq_some_iff.1 h).1
theorem RawRow.below {w w':World} {b B:Nat} {q:RawL} (h:RawRow w b q) (hb:Below B w w') (hB:b<B):RawRow w' b q:=(hb.block b hB).trans h
theorem RawRow.other {w:World} {b g:Nat} {q:RawL} (h:RawRow w b q) (hne:b≠g) (cs:Array Value):RawRow (w.setRow g cs) b q:=by
 unfold RawRow at h ⊢
 rw [setRow_other w g b cs hne,h]
theorem RawRow.setTx {w:World} {b:Nat} {q:RawL} (h:RawRow w b q) (t:List UInt8):∀ k,k<5→∃ cs,w.setCell ⟨b,k,none⟩ (.string (mkS t))=w.setRow b cs∧RawRow (w.setRow b cs) b (setT q k t):=by
 have g:∀ k,w.setCell ⟨b,k,none⟩ (.string (mkS t))=w.setRow b (#[.string (mkS q.name),.string (mkS q.link),.string (mkS q.user),.string (mkS q.group),.string (mkS q.front),.int .u8 (q.kind.toNat:Int),.int .i64 q.mode,.int .i64 q.uid,.int .i64 q.gid,.int .i64 q.size,.int .i64 q.time,.int .i64 q.major,.int .i64 q.minor].setIfInBounds k (.string (mkS t))):=fun k=>setCell_eq_setRow w b k _ _ _ _ h
 refine five ?_ ?_ ?_ ?_ ?_ <;> exact ⟨_,g _,setRow_heap w b _ _ _ _ h⟩
theorem RawRow.setNx {w:World} {b:Nat} {q:RawL} (h:RawRow w b q) (n:Int):∀ k,k<7→∃ cs,w.setCell ⟨b,6+k,none⟩ (.int .i64 n)=w.setRow b cs∧RawRow (w.setRow b cs) b (setN q k n):=by
 have g:∀ k,w.setCell ⟨b,k,none⟩ (.int .i64 n)=w.setRow b (#[.string (mkS q.name),.string (mkS q.link),.string (mkS q.user),.string (mkS q.group),.string (mkS q.front),.int .u8 (q.kind.toNat:Int),.int .i64 q.mode,.int .i64 q.uid,.int .i64 q.gid,.int .i64 q.size,.int .i64 q.time,.int .i64 q.major,.int .i64 q.minor].setIfInBounds k (.int .i64 n)):=fun k=>setCell_eq_setRow w b k _ _ _ _ h
 refine seven ?_ ?_ ?_ ?_ ?_ ?_ ?_ <;> exact ⟨_,g _,setRow_heap w b _ _ _ _ h⟩
inductive ReadIs:List UInt8→RawL→Int→Int→Prop
 | form (l:List UInt8):l.length≠512→ReadIs l (rawZ 0) 0 3
 | spoilt (l:List UInt8):l.length=512→¬ rightL l→ReadIs l (rawZ 0) 0 15
 | range (l:List UInt8):rightL l→¬ numsRead l→ReadIs l (rawZ 0) 0 2
 | ok (l:List UInt8):rightL l→numsRead l→ReadIs l (rawAt l) (dialF l) 0
def ReadPost (l:List UInt8) (w:World) (e:Ending) (w':World):Prop:=∃ q d k,ReadIs l q d k∧e=.returned (.tuple #[rawV q,.int .i64 d,errV k])∧Below w.heap.size w w'
theorem dialM_eq (l:List UInt8):dialM (sub l 257 8)=(dialF l:Int):=by
 unfold dialM dialF
 split
 ·rfl
 ·split <;> rfl
theorem numsRead_all (l:List UInt8) (m:Nat) (hm:nMany (dialM (sub l 257 8)).toNat=m):numsRead l↔∀ k,k<m→(numAt l (nAt k) (nSz k)).2=0:=by
 rw [dialM_eq] at hm
 simp only [Int.toNat_natCast] at hm
 subst hm
 unfold numsRead nMany
 constructor
 ·rintro ⟨h0,h1,h2,h3,h4,h5⟩
  by_cases hd:dialF l=1
  ·rw [if_pos hd]
   exact five h0 h1 h2 h3 h4
  ·rw [if_neg hd]
   obtain ⟨h5,h6⟩:=h5.resolve_left hd
   exact seven h0 h1 h2 h3 h4 h5 h6
 ·intro h
  have h5:5≤if dialF l=1 then 5 else 7:=by split <;> omega
  refine ⟨h 0 (by omega),h 1 (by omega),h 2 (by omega),h 3 (by omega),h 4 (by omega),?_⟩
  by_cases hd:dialF l=1
  ·exact Or.inl hd
  ·rw [if_neg hd] at h
   exact Or.inr ⟨h 5 (by omega),h 6 (by omega)⟩
theorem read_final (l:List UInt8) (m:Nat) (D:Int) (hD:dialM (sub l 257 8)=D) (hm:nMany D.toNat=m):withinL D (readN l m)=rawAt l:=by
 rw [dialM_eq] at hD
 subst hD
 simp only [Int.toNat_natCast] at hm
 have h123:dialF l=1∨dialF l=2∨dialF l=3:=by
  unfold dialF
  split
  ·simp
  ·split <;> simp
 unfold rawAt
 rcases h123 with h|h|h
 ·rw [h] at hm ⊢
  subst hm
  rfl
 ·rw [h] at hm ⊢
  subst hm
  rfl
 ·rw [h] at hm ⊢
  subst hm
  rfl
theorem read_bad (s:ByteArray) (n e:Int) (he:e≠0) (h:readS s=(n,e)) (w:World) (hs:s.size≤9223372036854775807) :
  Calls Tryz.prog 129 #[.string s] w fun x w'=>x=.returned (.tuple #[.int .i64 0,.iface 68 (.int .i64 e)])∧Below w.heap.size w w':=by
 have h0:n=0:=by
  have:=readF_err s.data.toList (by show (readS s).2≠0;rw [h];exact he)
  rwa [show readF s.data.toList=(n,e) from h] at this
 subst h0
 exact read_err s e he h w hs
theorem mkS_nil0:mkS []=⟨#[]⟩:=rfl
theorem infoRaw:(Tryz.prog.info? 117).map (·.size)=some 13:=by kernel_rfl
set_option maxRecDepth 100000 in
set_option maxHeartbeats 4000000 in
theorem read_right (l:List UInt8) (hl:l.length=512) (hr:rightL l) (w:World) :
  Calls Tryz.prog 85 #[.string (mkS l)] w (ReadPost l w):=by
 have hRt:=Lib.hid hr
 have s1:=mkS_size l
 have C1:=Lib.hid (fun w=>right_mkS l true ⟨fun _=>hr,fun _=>rfl⟩ hl w)
 have C2:=Lib.hid (magicDialect_any (sub l 257 8))
 have m1:∀ w,(Instr.slice 9 (.string (mkS l)) (some (.int .i64 257)) (some (.int .i64 265)) none).run Tryz.prog w=.ok (.string (mkS (sub l 257 8))) w:=fun w=>mid_sub l 257 265 (by omega) (by omega) w
 obtain ⟨c,hc⟩:∃ c,l[156]?=some c:=⟨_,List.getElem?_eq_getElem (by omega)⟩
 have i1:∀ w,(Instr.index 9 (.string (mkS l)) (.int .i64 156)).run Tryz.prog w=.ok (.int .u8 (c.toNat:Int)) w:=fun w=>mkS_index l 156 c (by omega) hc w
 have hk0:(sub l 156 1).headD 0=c:=by
  unfold sub
  rw [List.headD_eq_head?_getD,List.head?_take,if_neg (by omega),List.head?_drop,hc];rfl
 have C3:=Lib.hid (fun b w=>texts_any b w)
 clear hr
 rw [hl] at s1
 generalize hD:dialM (sub l 257 8)=D at C2
 have HD:=Lib.hid hD
 have hDr:1≤D∧D≤3:=by
  rw [← hD]
  unfold dialM
  split
  ·omega
  ·split <;> omega
 clear hD
 obtain ⟨K,hK⟩:∃ K,kindF c=K:=⟨_,rfl⟩
 have hQ:readT l 0=rawZ K:=by rw [readT,hk0,hK]
 have HQ:=Lib.hid hQ
 have hcase:(c=0∧K=48)∨(((c.toNat:Int)==0)=false∧K=c):=by
  unfold kindF at hK
  by_cases h0:c=0
  ·rw [if_pos h0] at hK;exact Or.inl ⟨h0,hK.symm⟩
  ·rw [if_neg h0] at hK
   exact Or.inr ⟨by rw [beq_eq_false_iff_ne];intro e;exact h0 (UInt8.toNat_inj.1 (by show c.toNat=0;omega)),hK.symm⟩
 clear hQ hK hk0 hc
 rcases hcase with ⟨rfl,rfl⟩|⟨hc0,rfl⟩
 all_goals
  go_enter Tryz.func85,Tryz.ntmps85
  have hZ0:=Lib.hid (show RawRow (w.alloc (.cells #[.string ⟨#[]⟩,.string ⟨#[]⟩,.string ⟨#[]⟩,.string ⟨#[]⟩,.string ⟨#[]⟩,.int .u8 0,.int .i64 0,.int .i64 0,.int .i64 0,.int .i64 0,.int .i64 0,.int .i64 0,.int .i64 0] 117)) w.heap.size (rawZ 0) from heap_alloc_new w _)
  have hB0:=Lib.hid (below_alloc1 w (.cells #[.string ⟨#[]⟩,.string ⟨#[]⟩,.string ⟨#[]⟩,.string ⟨#[]⟩,.string ⟨#[]⟩,.int .u8 0,.int .i64 0,.int .i64 0,.int .i64 0,.int .i64 0,.int .i64 0,.int .i64 0,.int .i64 0] 117))
  go_wp2_with (first
   |(go_at_call 124;(with_reducible refine (C1.out _).mono ?_);rintro e w1 ⟨rfl,h1⟩;have hB1:=Lib.hid (hB0.out.trans (h1.mono hB0.out.size));have hZ1:=Lib.hid (hZ0.out.below h1 hZ0.out.lt);clear h1)
   |(go_at_call 125;(with_reducible refine (C2.out _).mono ?_);rintro e w2 ⟨rfl,hw⟩;replace hw:=hw.symm;subst hw)
   |(go_at_call 126;(with_reducible refine (C3.out _ _).mono ?_);rintro e w3 ⟨rfl,h3⟩;have hR3:=Lib.hid (row_keep h3 (heap_alloc_new w1 _));have hZ3:=Lib.hid (hZ1.out.below ((Below.refl w1.heap.size w1).alloc (Nat.le_refl _) _ |>.trans (h3.mono (by simp))) hZ1.out.lt);have hB3:=Lib.hid ((hB1.out.alloc hB1.out.size _).trans (h3.mono (hB1.out.alloc hB1.out.size _).size));clear h3)
   | fail)
  have hRB:=Lib.hid hB1.out.size
  have hRz:=Lib.hid hZ1.out.lt
  have hR4:=Lib.hid (show RawRow w3 w1.heap.size (readT l 0) by rw [HQ.out];exact hR3.out)
  clear hR3 hZ1 hB1 hZ0 hB0 C3
  generalize w1.heap.size=RB at *
  go_loopg [34] 5 (fun g s wr=>∃ k:Nat,k≤5∧5 - k≤g∧s=.int .i64 (k:Int)∧Aside (Below w.heap.size w wr∧RawRow wr RB (readT l k)∧RawRow wr w.heap.size (rawZ 0)))
  case atStart=>exact ⟨0,by omega,by omega,rfl,(show Aside _ from ⟨hB3.out,hR4.out,hZ3.out⟩)⟩
  case round =>
   obtain ⟨k,hk,hg,rfl,A⟩:=hrel
   by_cases hk5:k<5
   ·have hix:=fun W=>txt_index RB W k hk5
    have hfit:=tFit k hk5
    have hW0:=A.out.1.size
    have hrt:readT l (k+1)=setT (readT l k) k (cutZ (sub l (tAt k) (tSz k))):=rfl
    generalize hae:tAt k=a at hix hfit hrt
    generalize hne:tSz k=n at hix hfit hrt
    have hm:∀ w,(Instr.slice 9 (.string (mkS l)) (some (.int .i64 (a:Int))) (some (.int .i64 ((a:Int)+(n:Int)))) none).run Tryz.prog w=.ok (.string (mkS (sub l a n))) w:=fun w=>by
     have:=mid_sub l a (a+n) (by omega) (by omega) w
     rw [show a+n - a=n by omega] at this
     simpa using this
    have CT:=Lib.hid (fun w=>cut_any (sub l a n) (by unfold sub;rw [List.length_take];omega) w)
    have HRT:=Lib.hid hrt
    have hwr:IntKind.i64.wrap ((a:Int)+(n:Int))=(a:Int)+(n:Int):=wrap_small _ (by omega) (by omega)
    clear hae hne hrt
    obtain ⟨t,ht⟩:∃ t,cutZ (sub l a n)=t:=⟨_,rfl⟩
    unfold CutIs at CT
    rw [ht] at CT HRT
    clear ht
    go_wp2_with fail
    have hF:=heap_alloc_new wr (.cells #[.pointer (some ⟨RB,k,none⟩),.int .i64 (a:Int),.int .i64 (n:Int)] 175)
    have hW:=Lib.hid ((Below.refl wr.heap.size wr).alloc (Nat.le_refl _) (.cells #[.pointer (some ⟨RB,k,none⟩),.int .i64 (a:Int),.int .i64 (n:Int)] 175))
    have f0:(wr.alloc (.cells #[.pointer (some ⟨RB,k,none⟩),.int .i64 (a:Int),.int .i64 (n:Int)] 175)).cell? ⟨wr.heap.size,0,none⟩=some (.pointer (some ⟨RB,k,none⟩)):=by simp only [World.cell?,hF];rfl
    have f1:(wr.alloc (.cells #[.pointer (some ⟨RB,k,none⟩),.int .i64 (a:Int),.int .i64 (n:Int)] 175)).cell? ⟨wr.heap.size,1,none⟩=some (.int .i64 (a:Int)):=by simp only [World.cell?,hF];rfl
    have f2:(wr.alloc (.cells #[.pointer (some ⟨RB,k,none⟩),.int .i64 (a:Int),.int .i64 (n:Int)] 175)).cell? ⟨wr.heap.size,2,none⟩=some (.int .i64 (n:Int)):=by simp only [World.cell?,hF];rfl
    have hBW:=Lib.hid (A.out.1.alloc A.out.1.size (.cells #[.pointer (some ⟨RB,k,none⟩),.int .i64 (a:Int),.int .i64 (n:Int)] 175))
    have hRW:=Lib.hid (A.out.2.1.below hW.out A.out.2.1.lt)
    have hZW:=Lib.hid (A.out.2.2.below hW.out A.out.2.2.lt)
    have hRl:=Lib.hid A.out.2.1.lt
    have hff:=Lib.hid (show wr.heap.size<(wr.alloc (.cells #[.pointer (some ⟨RB,k,none⟩),.int .i64 (a:Int),.int .i64 (n:Int)] 175)).heap.size by simp)
    clear A hF
    generalize wr.alloc (.cells #[.pointer (some ⟨RB,k,none⟩),.int .i64 (a:Int),.int .i64 (n:Int)] 175)=W at *
    refine wp_region_held_drew (S:=fun w'=>w'.cell? ⟨wr.heap.size,0,none⟩=some (.pointer (some ⟨RB,k,none⟩))∧w'.cell? ⟨wr.heap.size,1,none⟩=some (.int .i64 (a:Int))∧w'.cell? ⟨wr.heap.size,2,none⟩=some (.int .i64 (n:Int))) (by kernel_rfl) ⟨f0,f1,f2⟩ (fun hHeld=>?_)
    have hBd:=Lib.hid hBW.out.drew
    have hRd:=Lib.hid (hRW.out.below (Below.refl _ _).drew hRW.out.lt)
    have hZd:=Lib.hid (hZW.out.below (Below.refl _ _).drew hZW.out.lt)
    have hfd:=Lib.hid (show wr.heap.size<W.drew.heap.size from hff.out)
    clear f0 f1 f2 hBW hRW hZW hff
    generalize W.drew=W2 at *
    refine take_to (i:=0) 38 (.pointer (some ⟨wr.heap.size,0,none⟩)) rfl rfl (by kernel_rfl) (by kernel_rfl) (by kernel_rfl) (fun _ _ _ h=>h) (Or.inl ⟨by rfl,?_⟩) (by assumption) ?_
    ·(intro w hSw;obtain ⟨z0,z1,z2⟩:=hSw;go_simp;try with_reducible rfl)
    simp only [List.setIfInBounds_toArray,List.set_cons_succ,List.set_cons_zero]
    refine take_to (i:=1) 39 (.pointer (some ⟨RB,k,none⟩)) rfl rfl (by kernel_rfl) (by kernel_rfl) (by kernel_rfl) (fun _ _ _ h=>h) (Or.inl ⟨by rfl,?_⟩) (by assumption) ?_
    ·(intro w hSw;obtain ⟨z0,z1,z2⟩:=hSw;go_simp;try with_reducible rfl)
    simp only [List.setIfInBounds_toArray,List.set_cons_succ,List.set_cons_zero]
    refine take_to (i:=2) 40 (.string (mkS l)) rfl rfl (by kernel_rfl) (by kernel_rfl) (by kernel_rfl) (fun _ _ _ h=>h) (Or.inl ⟨by rfl,fun _ _=>rfl⟩) (by assumption) ?_
    simp only [List.setIfInBounds_toArray,List.set_cons_succ,List.set_cons_zero]
    refine take_to (i:=3) 41 (.pointer (some ⟨wr.heap.size,1,none⟩)) rfl rfl (by kernel_rfl) (by kernel_rfl) (by kernel_rfl) (fun _ _ _ h=>h) (Or.inl ⟨by rfl,?_⟩) (by assumption) ?_
    ·(intro w hSw;obtain ⟨z0,z1,z2⟩:=hSw;go_simp;try with_reducible rfl)
    simp only [List.setIfInBounds_toArray,List.set_cons_succ,List.set_cons_zero]
    refine take_to (i:=4) 42 (.int .i64 (a:Int)) rfl rfl (by kernel_rfl) (by kernel_rfl) (by kernel_rfl) (fun _ _ _ h=>h) (Or.inl ⟨by rfl,?_⟩) (by assumption) ?_
    ·(intro w hSw;obtain ⟨z0,z1,z2⟩:=hSw;go_simp;try with_reducible rfl)
    simp only [List.setIfInBounds_toArray,List.set_cons_succ,List.set_cons_zero]
    refine take_to (i:=5) 43 (.pointer (some ⟨wr.heap.size,1,none⟩)) rfl rfl (by kernel_rfl) (by kernel_rfl) (by kernel_rfl) (fun _ _ _ h=>h) (Or.inl ⟨by rfl,?_⟩) (by assumption) ?_
    ·(intro w hSw;obtain ⟨z0,z1,z2⟩:=hSw;go_simp;try with_reducible rfl)
    simp only [List.setIfInBounds_toArray,List.set_cons_succ,List.set_cons_zero]
    refine take_to (i:=6) 44 (.int .i64 (a:Int)) rfl rfl (by kernel_rfl) (by kernel_rfl) (by kernel_rfl) (fun _ _ _ h=>h) (Or.inl ⟨by rfl,?_⟩) (by assumption) ?_
    ·(intro w hSw;obtain ⟨z0,z1,z2⟩:=hSw;go_simp;try with_reducible rfl)
    simp only [List.setIfInBounds_toArray,List.set_cons_succ,List.set_cons_zero]
    refine take_to (i:=7) 45 (.pointer (some ⟨wr.heap.size,2,none⟩)) rfl rfl (by kernel_rfl) (by kernel_rfl) (by kernel_rfl) (fun _ _ _ h=>h) (Or.inl ⟨by rfl,?_⟩) (by assumption) ?_
    ·(intro w hSw;obtain ⟨z0,z1,z2⟩:=hSw;go_simp;try with_reducible rfl)
    simp only [List.setIfInBounds_toArray,List.set_cons_succ,List.set_cons_zero]
    refine take_to (i:=8) 46 (.int .i64 (n:Int)) rfl rfl (by kernel_rfl) (by kernel_rfl) (by kernel_rfl) (fun _ _ _ h=>h) (Or.inl ⟨by rfl,?_⟩) (by assumption) ?_
    ·(intro w hSw;obtain ⟨z0,z1,z2⟩:=hSw;go_simp;try with_reducible rfl)
    simp only [List.setIfInBounds_toArray,List.set_cons_succ,List.set_cons_zero]
    refine take_to (i:=9) 47 (.int .i64 ((a:Int)+(n:Int))) rfl rfl (by kernel_rfl) (by kernel_rfl) (by kernel_rfl) (fun _ _ _ h=>h) (Or.inl ⟨by rfl,?_⟩) (by assumption) ?_
    ·(intro w hSw;obtain ⟨z0,z1,z2⟩:=hSw;go_simp;try with_reducible rfl)
    simp only [List.setIfInBounds_toArray,List.set_cons_succ,List.set_cons_zero]
    refine take_to (i:=10) 48 (.string (mkS (sub l a n))) rfl rfl (by kernel_rfl) (by kernel_rfl) (by kernel_rfl) (fun _ _ _ h=>h) (Or.inl ⟨by rfl,?_⟩) (by assumption) ?_
    ·(intro w hSw;obtain ⟨z0,z1,z2⟩:=hSw;go_simp;try with_reducible rfl)
    simp only [List.setIfInBounds_toArray,List.set_cons_succ,List.set_cons_zero]
    refine wpAnyH_ready (rs:=[11]) (by kernel_rfl) (by simp) ?_
    refine AllReadyH.cons rfl (fun K hK=>?_) AllReadyH.nil
    go_simp
    go_at_call 127
    with_reducible refine (CT.out _).mono ?_
    rintro e w7 ⟨t2,b2,rfl,h7⟩
    obtain ⟨z0,z1,z2⟩:=hHeld
    refine hK.out _ _ ⟨(h7.cell hfd.out).trans z0,(h7.cell hfd.out).trans z1,(h7.cell hfd.out).trans z2⟩ (fun hHeld=>?_)
    have hB7:=Lib.hid (hBd.out.trans (h7.mono hBd.out.size))
    have hR7:=Lib.hid (hRd.out.below h7 hRd.out.lt)
    have hZ7:=Lib.hid (hZd.out.below h7 hZd.out.lt)
    have hf7:=Lib.hid (Nat.lt_of_lt_of_le hfd.out h7.size)
    clear hK h7 z0 z1 z2 hBd hRd hZd hfd
    (try simp only [Act.put]);(try simp only [List.setIfInBounds_toArray]);(try simp only [List.set_cons_succ]);(try simp only [List.set_cons_zero])
    refine take_to (i:=12) 37 (.tuple #[.string (mkS t),.string t2,.bool b2]) rfl rfl (by kernel_rfl) (by kernel_rfl) (by kernel_rfl) (fun _ _ _ h=>h) (Or.inl ⟨by rfl,fun _ _=>rfl⟩) (by assumption) ?_
    simp only [List.setIfInBounds_toArray,List.set_cons_succ,List.set_cons_zero]
    refine take_to (i:=13) 50 (.string (mkS t)) rfl rfl (by kernel_rfl) (by kernel_rfl) (by kernel_rfl) (fun _ _ _ h=>h) (Or.inl ⟨by rfl,?_⟩) (by assumption) ?_
    ·(intro w hSw;obtain ⟨z0,z1,z2⟩:=hSw;go_simp;try with_reducible rfl)
    simp only [List.setIfInBounds_toArray,List.set_cons_succ,List.set_cons_zero]
    refine take_to (i:=14) 51 (.string t2) rfl rfl (by kernel_rfl) (by kernel_rfl) (by kernel_rfl) (fun _ _ _ h=>h) (Or.inl ⟨by rfl,?_⟩) (by assumption) ?_
    ·(intro w hSw;obtain ⟨z0,z1,z2⟩:=hSw;go_simp;try with_reducible rfl)
    simp only [List.setIfInBounds_toArray,List.set_cons_succ,List.set_cons_zero]
    refine take_to (i:=15) 52 (.bool b2) rfl rfl (by kernel_rfl) (by kernel_rfl) (by kernel_rfl) (fun _ _ _ h=>h) (Or.inl ⟨by rfl,?_⟩) (by assumption) ?_
    ·(intro w hSw;obtain ⟨z0,z1,z2⟩:=hSw;go_simp;try with_reducible rfl)
    simp only [List.setIfInBounds_toArray,List.set_cons_succ,List.set_cons_zero]
    refine take_to (i:=16) 53 (.pointer (some ⟨RB,k,none⟩)) rfl rfl (by kernel_rfl) (by kernel_rfl) (by kernel_rfl) (fun _ _ _ h=>h) (Or.inl ⟨by rfl,?_⟩) (by assumption) ?_
    ·(intro w hSw;obtain ⟨z0,z1,z2⟩:=hSw;go_simp;try with_reducible rfl)
    simp only [List.setIfInBounds_toArray,List.set_cons_succ,List.set_cons_zero]
    refine wpAnyH_ready (rs:=[17]) (by kernel_rfl) (by simp) ?_
    refine AllReadyH.cons rfl (fun K hK=>?_) AllReadyH.nil
    have cR:=RawAt.txt hR7.out.at k hk5
    have fR:w7.frozen? ⟨RB,k,none⟩=false:=frozen_of_row w7 RB k _ _ hR7.out
    obtain ⟨cs,hcs,hR8⟩:=hR7.out.setTx t k hk5
    go_simp
    obtain ⟨z0,z1,z2⟩:=hHeld
    have hne:wr.heap.size≠RB:=Nat.ne_of_gt hRl.out
    refine hK.out _ _ ⟨(cell_setRow_other w7 RB cs _ hne).trans z0,(cell_setRow_other w7 RB cs _ hne).trans z1,(cell_setRow_other w7 RB cs _ hne).trans z2⟩ (fun hHeld=>?_)
    clear hK cR fR hcs z0 z1 z2 hHeld
    rw [← HRT.out] at hR8
    have hR9:=Lib.hid hR8
    have hB9:=Lib.hid (below_setRow hB7.out hRB.out cs)
    have hZ9:=Lib.hid (hZ7.out.other (Nat.ne_of_lt hRz.out) cs)
    clear hR8 hB7 hZ7 hR7 hf7
    generalize w7.setRow RB cs=w8 at *
    refine wpAnyH_done (by kernel_rfl) ?_ _
    go_wp2
    go_roundg (5 - (k+1))
    case measure=>omega
    case rel=>exact ⟨k+1,by omega,by omega,rfl,(show Aside _ from ⟨hB9.out,hR9.out,hZ9.out⟩)⟩
   ·obtain rfl:k=5:=by omega
    have hBa:=Lib.hid A.out.1
    have hRa:=Lib.hid A.out.2.1
    have hZa:=Lib.hid A.out.2.2
    clear A hR4 hZ3 hB3
    obtain ⟨m,hm⟩:∃ m,nMany D.toNat=m:=⟨_,rfl⟩
    have hm7:m≤7:=by rw [← hm];unfold nMany;split <;> omega
    have C4:=Lib.hid (numbers_any RB D m (by
     rw [← hm];unfold nMany
     by_cases h1:D=1
     ·exact Or.inl ⟨h1,by rw [if_pos (by omega)]⟩
     ·exact Or.inr ⟨h1,by rw [if_neg (by omega)]⟩))
    have HM:=Lib.hid hm
    clear hm
    go_wp2_with (first
     |(go_at_call 128;(with_reducible refine (C4.out _).mono ?_);rintro e w4 ⟨rfl,hN4,h4⟩;have hB4:=Lib.hid (hBa.out.trans (h4.mono hBa.out.size));have hR4:=Lib.hid (hRa.out.below h4 hRa.out.lt);have hZ4:=Lib.hid (hZa.out.below h4 hZa.out.lt);have hNN:=Lib.hid hN4;have hNb:=Lib.hid hRa.out.lt;clear h4 hN4 hBa hRa hZa C4)
     | fail)
    generalize wr.heap.size=NB at *
    go_loopg [58] 7 (fun g s wr=>∃ k:Nat,k≤m∧7 - k≤g∧s=.int .i64 (k:Int)∧Aside (Below w.heap.size w wr∧RawRow wr RB (readN l k)∧RawRow wr w.heap.size (rawZ 0)∧wr.heap[NB]?=some (.cells (numRow RB) 223 (0,0))∧∀ j,j<k→(numAt l (nAt j) (nSz j)).2=0))
    case atStart=>exact ⟨0,by omega,by omega,rfl,(show Aside _ from ⟨hB4.out,hR4.out,hZ4.out,hNN.out,fun j hj=>absurd hj (by omega)⟩)⟩
    case round =>
     obtain ⟨k,hk,hg,rfl,A⟩:=hrel
     by_cases hkm:k<m
     ·have hk7:k<7:=by omega
      obtain ⟨x0,x1,x2⟩:=num_cells A.out.2.2.2.1 k hk7
      have hfit:=nFit k hk7
      have hsz:=nSz_is k hk7
      have hW0:=A.out.1.size
      have hrn:readN l (k+1)=setN (readN l k) k (numAt l (nAt k) (nSz k)).1:=rfl
      have hun:=fun e (h:(numAt l (nAt k) (nSz k)).2=e)=>h
      generalize hae:nAt k=a at x1 hfit hrn hun
      generalize hne:nSz k=n at x2 hfit hsz hrn hun
      have HE:=Lib.hid (And.intro hae hne)
      have hm:∀ w,(Instr.slice 9 (.string (mkS l)) (some (.int .i64 (a:Int))) (some (.int .i64 ((a:Int)+(n:Int)))) none).run Tryz.prog w=.ok (.string (mkS (sub l a n))) w:=fun w=>by
       have:=mid_sub l a (a+n) (by omega) (by omega) w
       rw [show a+n - a=n by omega] at this
       simpa using this
      have hwr:IntKind.i64.wrap ((a:Int)+(n:Int))=(a:Int)+(n:Int):=wrap_small _ (by omega) (by omega)
      have hsl:(mkS (sub l a n)).size≤9223372036854775807:=by rw [mkS_size];unfold sub;rw [List.length_take];omega
      have hrd:readS (mkS (sub l a n))=numAt l a n:=by unfold readS numAt;rw [mkS_list]
      have HRN:=Lib.hid hrn
      clear hae hne hrn hun
      obtain ⟨v,e,hve⟩:∃ v e,numAt l a n=(v,e):=⟨_,_,rfl⟩
      rw [hve] at HRN hrd
      have HV:=Lib.hid hve
      have HRD:=Lib.hid hrd
      have HSL:=Lib.hid hsl
      clear hve hrd hsl
      go_wp2_with fail
      have hF:=heap_alloc_new wr (.cells #[.pointer (some ⟨RB,6+k,none⟩),.int .i64 (a:Int),.int .i64 (n:Int)] 183)
      have hW:=Lib.hid ((Below.refl wr.heap.size wr).alloc (Nat.le_refl _) (.cells #[.pointer (some ⟨RB,6+k,none⟩),.int .i64 (a:Int),.int .i64 (n:Int)] 183))
      have f0:(wr.alloc (.cells #[.pointer (some ⟨RB,6+k,none⟩),.int .i64 (a:Int),.int .i64 (n:Int)] 183)).cell? ⟨wr.heap.size,0,none⟩=some (.pointer (some ⟨RB,6+k,none⟩)):=by simp only [World.cell?,hF];rfl
      have f1:(wr.alloc (.cells #[.pointer (some ⟨RB,6+k,none⟩),.int .i64 (a:Int),.int .i64 (n:Int)] 183)).cell? ⟨wr.heap.size,1,none⟩=some (.int .i64 (a:Int)):=by simp only [World.cell?,hF];rfl
      have f2:(wr.alloc (.cells #[.pointer (some ⟨RB,6+k,none⟩),.int .i64 (a:Int),.int .i64 (n:Int)] 183)).cell? ⟨wr.heap.size,2,none⟩=some (.int .i64 (n:Int)):=by simp only [World.cell?,hF];rfl
      have hBW:=Lib.hid (A.out.1.alloc A.out.1.size (.cells #[.pointer (some ⟨RB,6+k,none⟩),.int .i64 (a:Int),.int .i64 (n:Int)] 183))
      have hRW:=Lib.hid (A.out.2.1.below hW.out A.out.2.1.lt)
      have hZW:=Lib.hid (A.out.2.2.1.below hW.out A.out.2.2.1.lt)
      have hNW:=Lib.hid (row_keep hW.out A.out.2.2.2.1)
      have hA2:=Lib.hid A.out.2.2.2.2
      clear A hF x0 x1 x2
      generalize wr.alloc (.cells #[.pointer (some ⟨RB,6+k,none⟩),.int .i64 (a:Int),.int .i64 (n:Int)] 183)=W at *
      have hFw:=Lib.hid (block_lt_of_cell f0)
      have F0:=Lib.hid f0
      clear f0 f1 f2
      by_cases he:e=0
      ·subst he
       have C5:=Lib.hid (fun w=>read_ok (mkS (sub l a n)) v HRD.out w HSL.out)
       go_at_call 129
       (with_reducible refine (C5.out _).mono ?_)
       rintro e5 W2 ⟨rfl,h5⟩
       have hBq:=Lib.hid (hBW.out.trans (h5.mono hBW.out.size))
       have hRq:=Lib.hid (hRW.out.below h5 hRW.out.lt)
       have hZq:=Lib.hid (hZW.out.below h5 hZW.out.lt)
       have hNq:=Lib.hid (row_keep h5 hNW.out)
       have q0:=(h5.cell hFw.out).trans F0.out
       clear hBW hRW hZW hNW C5 h5 hFw F0
       have cR:=RawAt.num hRq.out.at k hk7
       have fR:W2.frozen? ⟨RB,6+k,none⟩=false:=frozen_of_row W2 RB (6+k) _ _ hRq.out
       obtain ⟨cs,hcs,hR8⟩:=hRq.out.setNx v k hk7
       rw [← HRN.out] at hR8
       have hR9:=Lib.hid hR8
       have hB9:=Lib.hid (below_setRow hBq.out hRB.out cs)
       have hZ9:=Lib.hid (hZq.out.other (Nat.ne_of_lt hRz.out) cs)
       have hN9:=Lib.hid ((setRow_other W2 RB NB cs (Nat.ne_of_gt hNb.out)).trans hNq.out)
       clear hR8
       go_wp2
       go_roundg (7 - (k+1))
       case measure=>omega
       case rel =>
        refine ⟨k+1,by omega,by omega,rfl,(show Aside _ from ⟨hB9.out,hR9.out,hZ9.out,hN9.out,fun j hj=>?_⟩)⟩
        by_cases hjk:j=k
        ·subst hjk;rw [HE.out.1,HE.out.2,HV.out]
        ·exact hA2.out j (by omega)
      ·have C5:=Lib.hid (fun w=>read_bad (mkS (sub l a n)) v e he HRD.out w HSL.out)
       have HB:=Lib.hid (show ReadIs l (rawZ 0) 0 2 from .range l hRt.out fun h=>he (by
        have:=(numsRead_all l m (by rw [← HD.out] at HM;exact HM.out)).1 h k hkm
        rw [HE.out.1,HE.out.2,HV.out] at this
        exact this))
       clear he
       go_at_call 129
       (with_reducible refine (C5.out _).mono ?_)
       rintro e5 W2 ⟨rfl,h5⟩
       have hBq:=Lib.hid (hBW.out.trans (h5.mono hBW.out.size))
       have hZq:=Lib.hid (hZW.out.below h5 hZW.out.lt)
       clear hBW hRW hZW hNW C5 h5 hFw F0
       go_wp2_with (refine wpList_store_row rfl _ _ _ rfl w.heap.size #[.string ⟨#[]⟩,.string ⟨#[]⟩,.string ⟨#[]⟩,.string ⟨#[]⟩,.string ⟨#[]⟩,.int .u8 0,.int .i64 0,.int .i64 0,.int .i64 0,.int .i64 0,.int .i64 0,.int .i64 0,.int .i64 0] rfl rfl _ _ hZq.out infoRaw rfl (by kernel_rfl) ?_)
       refine bodyPost_ret (results_row3 rfl _ _ w.heap.size _ _ _ _ rfl (setRow_heap W2 _ _ #[.string ⟨#[]⟩,.string ⟨#[]⟩,.string ⟨#[]⟩,.string ⟨#[]⟩,.string ⟨#[]⟩,.int .u8 0,.int .i64 0,.int .i64 0,.int .i64 0,.int .i64 0,.int .i64 0,.int .i64 0,.int .i64 0] _ _ hZq.out) Tryz.underlying117 rfl infoRaw) rfl ?_
       exact ⟨_,_,_,HB.out,rfl,below_setRow hBq.out (Nat.le_refl _) _⟩
     ·obtain rfl:k=m:=by omega
      have hBa:=Lib.hid A.out.1
      have hRa:=Lib.hid A.out.2.1
      have hZa:=Lib.hid A.out.2.2.1
      have hAa:=Lib.hid A.out.2.2.2.2
      clear A hR4 hZ4 hB4 hNN
      have C6:=Lib.hid (fun w=>withinRaw_any D (readN l k) w)
      have hfin:=read_final l k D HD.out HM.out
      rw [hfin] at C6
      obtain ⟨c0,c1,c2,c3,c4,c5,c6,c7,c8,c9,c10,c11,c12⟩:=hRa.out.at
      have OKK:=Lib.hid (show ReadIs l (rawAt l) (dialF l) 0 from .ok l hRt.out ((numsRead_all l k (by rw [HD.out];exact HM.out)).2 hAa.out))
      have HDD:=Lib.hid (show D=(dialF l:Int) by rw [← HD.out];exact dialM_eq l)
      generalize rawAt l=qa at C6 OKK
      clear hfin
      go_wp2_with (first
       |(go_at_call 130;(with_reducible refine (C6.out _).mono ?_);rintro e9 w9 ⟨rfl,h9⟩;unfold rawV;have hB9:=Lib.hid (hBa.out.trans (h9.mono hBa.out.size));have hZ9:=Lib.hid (hZa.out.below h9 hZa.out.lt);clear h9)
       | refine wpList_store_row rfl _ _ _ rfl w.heap.size #[.string (mkS qa.name),.string (mkS qa.link),.string (mkS qa.user),.string (mkS qa.group),.string (mkS qa.front),.int .u8 (qa.kind.toNat:Int),.int .i64 qa.mode,.int .i64 qa.uid,.int .i64 qa.gid,.int .i64 qa.size,.int .i64 qa.time,.int .i64 qa.major,.int .i64 qa.minor] rfl rfl _ _ hZ9.out infoRaw rfl (by kernel_rfl) ?_)
      refine bodyPost_ret (results_row3 rfl _ _ w.heap.size _ _ _ _ rfl (setRow_heap w9 _ _ #[.string (mkS qa.name),.string (mkS qa.link),.string (mkS qa.user),.string (mkS qa.group),.string (mkS qa.front),.int .u8 (qa.kind.toNat:Int),.int .i64 qa.mode,.int .i64 qa.uid,.int .i64 qa.gid,.int .i64 qa.size,.int .i64 qa.time,.int .i64 qa.major,.int .i64 qa.minor] _ _ hZ9.out) Tryz.underlying117 rfl infoRaw) rfl ?_
      exact ⟨_,_,_,OKK.out,by rw [← HDD.out];rfl,below_setRow hB9.out (Nat.le_refl _) _⟩
set_option maxHeartbeats 4000000 in
theorem read_form (l:List UInt8) (hl:l.length≠512) (hb:l.length≤1000000) (w:World) :
  Calls Tryz.prog 85 #[.string (mkS l)] w (ReadPost l w):=by
 have s1:=mkS_size l
 have H:=Lib.hid (ReadIs.form l hl)
 have hne:((l.length:Int) != 512)=true:=by simp;omega
 have hne':¬ (l.length:Int)=512:=by omega
 clear hl
 go_enter Tryz.func85,Tryz.ntmps85
 go_wp2
 refine bodyPost_ret (v:=.tuple #[rawV (rawZ 0),.int .i64 0,.iface 68 (.int .i64 3)]) (by simp [results,Tryz.results85,go_sem,rawV,rawZ,mkS_nil0]) rfl ?_
 exact ⟨_,_,_,H.out,rfl,below_alloc1 _ _⟩
set_option maxHeartbeats 4000000 in
theorem read_spoilt (l:List UInt8) (hl:l.length=512) (hr:¬ rightL l) (w:World) :
  Calls Tryz.prog 85 #[.string (mkS l)] w (ReadPost l w):=by
 have s1:=mkS_size l
 have H:=Lib.hid (ReadIs.spoilt l hl hr)
 have C1:=Lib.hid (fun w=>right_mkS l false ⟨(fun h=>by cases h),fun h=>absurd h hr⟩ hl w)
 clear hr
 rw [hl] at s1
 go_enter Tryz.func85,Tryz.ntmps85
 have hZ0:=Lib.hid (show RawRow (w.alloc (.cells #[.string ⟨#[]⟩,.string ⟨#[]⟩,.string ⟨#[]⟩,.string ⟨#[]⟩,.string ⟨#[]⟩,.int .u8 0,.int .i64 0,.int .i64 0,.int .i64 0,.int .i64 0,.int .i64 0,.int .i64 0,.int .i64 0] 117)) w.heap.size (rawZ 0) from heap_alloc_new w _)
 have hB0:=Lib.hid (below_alloc1 w (.cells #[.string ⟨#[]⟩,.string ⟨#[]⟩,.string ⟨#[]⟩,.string ⟨#[]⟩,.string ⟨#[]⟩,.int .u8 0,.int .i64 0,.int .i64 0,.int .i64 0,.int .i64 0,.int .i64 0,.int .i64 0,.int .i64 0] 117))
 go_wp2_with (first
  |(go_at_call 124;(with_reducible refine (C1.out _).mono ?_);rintro e w1 ⟨rfl,h1⟩;have hB1:=Lib.hid (hB0.out.trans (h1.mono hB0.out.size));have hZ1:=Lib.hid (hZ0.out.below h1 hZ0.out.lt);clear h1)
  | refine wpList_store_row rfl _ _ _ rfl w.heap.size #[.string ⟨#[]⟩,.string ⟨#[]⟩,.string ⟨#[]⟩,.string ⟨#[]⟩,.string ⟨#[]⟩,.int .u8 0,.int .i64 0,.int .i64 0,.int .i64 0,.int .i64 0,.int .i64 0,.int .i64 0,.int .i64 0] rfl rfl _ _ hZ1.out infoRaw rfl (by kernel_rfl) ?_)
 refine bodyPost_ret (results_row3 rfl _ _ w.heap.size _ _ _ _ rfl (setRow_heap w1 _ _ #[.string ⟨#[]⟩,.string ⟨#[]⟩,.string ⟨#[]⟩,.string ⟨#[]⟩,.string ⟨#[]⟩,.int .u8 0,.int .i64 0,.int .i64 0,.int .i64 0,.int .i64 0,.int .i64 0,.int .i64 0,.int .i64 0] _ _ hZ1.out) Tryz.underlying117 rfl infoRaw) rfl ?_
 exact ⟨_,_,_,H.out,rfl,below_setRow hB1.out (Nat.le_refl _) _⟩
theorem readRaw_any (l:List UInt8) (hb:l.length≤1000000) (w:World) :
  Calls Tryz.prog 85 #[.string (mkS l)] w (ReadPost l w):=by
 by_cases hl:l.length=512
 ·by_cases hr:rightL l
  ·exact read_right l hl hr w
  ·exact read_spoilt l hl hr w
 ·exact read_form l hl hb w
end Go.Proofs.YtdjcjaidklgamaaGreatDoor
end
section
namespace Go.Proofs.YtdjcjaidklgamaaGreatDoor
open Go.RowKit Go.Joins
set_option linter.unusedVariables false
set_option linter.unusedSimpArgs false
end Go.Proofs.YtdjcjaidklgamaaGreatDoor
end
