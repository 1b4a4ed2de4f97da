import Derived.Test.YtdjcjaidklgamaaGreatDoorQXa
import Derived.Test.YtdjcjaidklgamaaGreatDoorQHo
import Derived.Laws.OwnMore
import Derived.Maps.AppendAt
import Derived.RangeFuncBox
import Derived.Deep.CutRange
import Derived.RangeFuncNested
import Derived.RangeFuncBound
import Derived.RangeFuncCalls
import Derived.RangeFuncLeaves
import Derived.Shelf.Abstract
import Derived.OwnWalkIn
import Derived.TacticsInMore
import Derived.LoopNIn
import Derived.LoopIn
set_option linter.unusedSimpArgs false
set_option linter.unusedVariables false
section
namespace Go.Proofs.YtdjcjaidklgamaaGreatDoor
open Go.RowKit Go.Joins
def pcCells (l:List Pc):List Value:=l.flatMap fun p=>[.int .i64 p.1,.int .i64 p.2]
theorem pcCells_snoc (l:List Pc) (p:Pc):pcCells (l++[p])=pcCells l++[.int .i64 p.1,.int .i64 p.2]:=by
 unfold pcCells;rw [List.flatMap_append];simp
theorem pcCells_at:∀ (l:List Pc) (i:Nat) (p:Pc),l[i]?=some p→(pcCells l)[i * 2]?=some (.int .i64 p.1)∧(pcCells l)[i * 2+1]?=some (.int .i64 p.2)
 | q :: l,0,p,h=>by
  simp at h;subst h
  exact ⟨rfl,rfl⟩
 | q :: l,i+1,p,h=>by
  have:=pcCells_at l i p (by simpa using h)
  unfold pcCells at this ⊢
  rw [List.flatMap_cons,show (i+1) * 2=(i * 2)+1+1 by omega]
  exact this
theorem piecesAt_of_row {W:World} {base:Nat} {e:TypeId} {ad:Option Addr} {cap:Nat} {M:List Pc} (h:W.ownsRow base e 2 (.slice ad M.length cap) M.length (pcCells M)):PiecesAt W ad M:=fun i p hi=>by
 have hil:=(List.getElem?_eq_some_iff.1 hi).1
 rcases h.2 with ⟨_,h0⟩|⟨g,cap',cur,hv,_,hg,_,_,_,htk⟩
 ·omega
 ·injection hv with e1 e2 e3
  obtain ⟨c1,c2⟩:=pcCells_at M i p hi
  rw [← htk,List.getElem?_take,if_pos (by omega)] at c1
  rw [← htk,List.getElem?_take,if_pos (by omega)] at c2
  refine ⟨g,0,e1,(Array.getElem?_eq_some_iff.1 hg).1,?_,?_⟩
  ·rw [Nat.zero_add];simp only [World.cell?,hg];simpa using c1
  ·rw [Nat.zero_add];simp only [World.cell?,hg];simpa using c2
theorem row_shape {W:World} {base:Nat} {e:TypeId} {size:Nat} {v:Value} {k:Nat} {xs:List Value} (h:W.ownsRow base e size v k xs):∃ ad cap,v=.slice ad k cap:=by
 rcases h.2 with ⟨rfl,h0⟩|⟨g,cap,_,rfl,_⟩
 ·exact ⟨none,0,by rw [h0]⟩
 ·exact ⟨_,cap,rfl⟩
theorem below_grown {w W w1:World} {v:Value} {base:Nat} {e:TypeId} {size n:Nat} {xs:List Value} (hB:Below w.heap.size w W) (hrow:W.ownsRow base e size v n xs) (hb:w.heap.size≤base) (hg:W.grownBy w1 v.ownBlock):Below w.heap.size w w1 :=
 hB.grown hg hB.size fun j ej=>by
  rcases hrow.2 with ⟨rfl,_⟩|⟨g,cap,cur,rfl,hbg,_,_⟩
  ·simp [Value.ownBlock] at ej
  ·obtain rfl:g=j:=by simpa [Value.ownBlock] using ej
   omega
theorem Tryz.infoPiece:(Tryz.prog.info? 77).map (fun i=>(i.zero,i.size,i.bytes))=some (some (.agg #[.int .i64 0,.int .i64 0]),2,16):=by kernel_rfl
theorem info_parts {P:Program} {e:TypeId} {z:Value} {size bytes:Nat} (h:(P.info? e).map (fun i=>(i.zero,i.size,i.bytes))=some (some z,size,bytes)):∃ i,P.info? e=some i∧i.zero=some z∧i.size=size∧i.bytes=bytes:=by
 cases hi:P.info? e with
 | none=>rw [hi] at h;cases h
 | some i =>
  rw [hi] at h
  simp only [Option.map_some,Option.some.injEq,Prod.mk.injEq] at h
  exact ⟨i,rfl,h.1,h.2.1,h.2.2⟩
end Go.Proofs.YtdjcjaidklgamaaGreatDoor
end
section
namespace Go.Proofs.YtdjcjaidklgamaaGreatDoor
open Go.RowKit Go.Joins
theorem index_cutN:∀ l:List UInt8,(Lib.indexByte l 10=-1∧l.contains 10=false)∨∃ i:Nat,i<l.length∧Lib.indexByte l 10=i∧l.takeWhile (· != 10)=l.take i∧(l.dropWhile (· != 10)).drop 1=l.drop (i+1)∧l.contains 10=true
 | []=>Or.inl ⟨rfl,rfl⟩
 | c :: r=>by
  by_cases h:c=10
  ·subst h
   exact Or.inr ⟨0,by simp,by simp [Lib.indexByte],by simp,by simp,by simp⟩
  ·have h1:(c==10)=false:=by simpa using h
   have h5:(10==c)=false:=by simpa using fun e=>h e.symm
   rcases index_cutN r with ⟨h2,h3⟩|⟨i,hi,h2,h3,h4,h6⟩
   ·left
    exact ⟨by simp [Lib.indexByte,h1,h2],by rw [List.contains_cons,h5,h3];rfl⟩
   ·right
    refine ⟨i+1,by simp;omega,?_,?_,?_,by rw [List.contains_cons,h6,Bool.or_true]⟩
    ·have h7:(Lib.indexByte r 10==-1)=false:=by rw [h2,beq_eq_false_iff_ne];omega
     rw [Lib.indexByte,h1]
     simp [h7,h2]
    ·rw [List.takeWhile_cons_of_pos (by simpa using h),h3];rfl
    ·rw [List.dropWhile_cons_of_pos (by simpa using h),h4];rfl
def cutN (l:List UInt8):List UInt8 × List UInt8 × Bool:=if l.contains 10 then (l.takeWhile (· != 10),(l.dropWhile (· != 10)).drop 1,true) else (l,[],false)
set_option maxHeartbeats 2000000 in
theorem slCutN_any (l:List UInt8) (hl:l.length≤1000000) (w:World) :
  Calls Tryz.prog 157 #[.string (mkS l),.string { data:=#[10] }] w fun e w'=>e=.returned (.tuple #[.string (mkS (cutN l).1),.string (mkS (cutN l).2.1),.bool (cutN l).2.2])∧Below w.heap.size w w':=by
 have s1:=mkS_size l
 have ix:=Tryz.stringslite_Index_one (mkS l) 10
 rw [mkS_list] at ix
 unfold cutN
 rcases index_cutN l with ⟨h2,h3⟩|⟨i,hi,h2,h3,h4,h5⟩
 ·rw [h2] at ix
  rw [h3,if_neg (by decide)]
  have IX:=Lib.hid ix
  clear ix h2 h3
  go_enter Tryz.func157,Tryz.ntmps157
  go_wp2_with (go_at_call 171;(with_reducible refine (IX.out _).mono ?_);rintro e w' ⟨rfl,hw⟩;replace hw:=hw.symm;subst hw)
  go_ret3
  exact ⟨rfl,Below.refl _ _⟩
 ·rw [h2] at ix
  rw [h5,if_pos rfl,h3,h4]
  have IX:=Lib.hid ix
  have u1:=fun w=>mkS_upto l i (by omega) w
  have u2:=fun w=>mkS_onward l (i+1) (by omega) w
  simp only [Int.natCast_add,Int.natCast_one] at u2
  clear ix h2 h3 h4 h5
  go_enter Tryz.func157,Tryz.ntmps157
  go_wp2_with (go_at_call 171;(with_reducible refine (IX.out _).mono ?_);rintro e w' ⟨rfl,hw⟩;replace hw:=hw.symm;subst hw)
  go_quiet (fail)
  go_wp2
  go_ret3
  exact ⟨rfl,(Below.refl _ _).trans ⟨rfl,rfl,rfl,Nat.le_refl _,fun _ _=>rfl⟩⟩
theorem cutN_any (l:List UInt8) (hl:l.length≤1000000) (w:World) :
  Calls Tryz.prog 127 #[.string (mkS l),.string { data:=#[10] }] w fun e w'=>e=.returned (.tuple #[.string (mkS (cutN l).1),.string (mkS (cutN l).2.1),.bool (cutN l).2.2])∧Below w.heap.size w w':=by
 have C:=Lib.hid (slCutN_any l hl)
 go_enter Tryz.func127,Tryz.ntmps127
 go_wp2_with (go_at_call 157;(with_reducible refine (C.out _).mono ?_);rintro e w1 ⟨rfl,h1⟩)
 go_ret3
 exact ⟨rfl,h1⟩
theorem cutN_len (l:List UInt8):(cutN l).1.length≤l.length∧(cutN l).2.1.length≤l.length:=by
 unfold cutN
 split
 ·refine ⟨(List.takeWhile_sublist _).length_le,?_⟩
  rw [List.length_drop]
  have:=(List.dropWhile_sublist (fun x:UInt8=>x != 10) (l:=l)).length_le
  omega
 ·exact ⟨Nat.le_refl _,by simp⟩
theorem lineR_cut (r:List UInt8):lineR r=if (cutN r).2.2=true then ((smallF (cutN r).1).1,(smallF (cutN r).1).2,(cutN r).2.1) else (3,0,r):=by
 unfold lineR cutN
 by_cases h:r.contains 10=true
 ·rw [if_pos h,if_pos h];rfl
 ·rw [if_neg h,if_neg h];rfl
theorem smallF_range (l:List UInt8):0≤(smallF l).2∧(smallF l).2<1000000000000000∧0≤(smallF l).1:=by
 unfold smallF
 split
 ·next h =>
  unfold smallB St.isDig at h
  simp only [Bool.and_eq_true,decide_eq_true_eq] at h
  obtain ⟨⟨h1,_⟩,h2⟩:=h
  have hv:=St.valD_lt l.length l rfl h1
  have:(10 ^ l.length:Nat)≤10 ^ 15:=Nat.pow_le_pow_right (by omega) h2
  exact ⟨hv.1,by have:=hv.2;simp only at *;omega,by simp⟩
 ·exact ⟨by simp,by simp,by simp⟩
theorem lineR_range (r:List UInt8):0≤(lineR r).2.1∧(lineR r).2.1<1000000000000000∧(lineR r).2.2.length≤r.length:=by
 rw [lineR_cut]
 have h1:=smallF_range (cutN r).1
 have h2:=cutN_len r
 split
 ·exact ⟨h1.1,h1.2.1,h2.2⟩
 ·exact ⟨by simp,by simp,Nat.le_refl _⟩
set_option maxRecDepth 100000 in
set_option maxHeartbeats 4000000 in
theorem lineNext_any (b:Nat) (r:List UInt8) (hr:r.length≤60000) (w:World) (hb:Boxed w b 9 (.string (mkS r))) (hA:∀ W,Bar w.heap.size [b] w W→Px.AtoiLaid W) :
  Calls Tryz.prog 194 #[.pointer (some ⟨b,0,none⟩)] w fun e w'=>e=.returned (.tuple #[.int .i64 (lineR r).2.1,errV (lineR r).1])∧Boxed w' b 9 (.string (mkS (lineR r).2.2))∧Bar w.heap.size [b] w w':=by
 have CC:=Lib.hid (fun w=>cutN_any r (by omega) w)
 have hlen:=cutN_len r
 rw [lineR_cut]
 generalize cutN r=X at *
 obtain ⟨x,y,t⟩:=X
 simp only at CC hlen ⊢
 have hlt:=hb.lt
 have c0:=hb.cell
 have HB:=Lib.hid hb
 have HL:=Lib.hid hlt
 have HA:=Lib.hid hA
 clear hb hlt hA
 cases t with
 | false =>
  rw [if_neg (by decide)]
  simp only
  rw [show errV 3=.iface 68 (.int .i64 3) from rfl]
  go_enter Tryz.func194,Tryz.ntmps194
  go_wp2_with (first
   |(go_at_call 127;(with_reducible refine (CC.out _).mono ?_);rintro e w2 ⟨rfl,h2⟩;have H2:=Lib.hid h2;clear h2)
   | fail)
  first|go_ret2|go_ret
  exact ⟨rfl,(H2.out.block b HL.out).trans HB.out,Bar.of_below H2.out⟩
 | true =>
  rw [if_pos rfl]
  simp only
  have CD:=Lib.hid (fun w' (h:Bar w.heap.size [b] w w')=>decimal_any x (by omega) w' (HA.out w' h))
  generalize smallF x=P at *
  obtain ⟨p0,p1⟩:=P
  simp only at CD ⊢
  go_enter Tryz.func194,Tryz.ntmps194
  go_wp2_with (first
   |(go_at_call 127;(with_reducible refine (CC.out _).mono ?_);rintro e w2 ⟨rfl,h2⟩;have H2:=Lib.hid h2;clear h2 c0;have B2:=Lib.hid (show Boxed w2 b 9 (.string (mkS r)) from (H2.out.block b HL.out).trans HB.out);have c0:=B2.out.cell;have f0:=B2.out.frozen)
   |(go_at_call 167;have H3:=Lib.hid ((Bar.of_below (X:=[b]) H2.out).setCell (i:=0) (v:=.string (mkS y)) B2.out (.inl (by simp)));have B3:=Lib.hid (B2.out.set (.string (mkS y)));clear c0 f0;generalize w2.setCell ⟨b,0,none⟩ (.string (mkS y))=w3 at *;(with_reducible refine (CD.out _ H3.out).mono ?_);rintro e w4 ⟨rfl,h4⟩;have B4:=Lib.hid (show Boxed w4 b 9 (.string (mkS y)) from (h4.block b B3.out.lt).trans B3.out);have H4:=Lib.hid (H3.out.trans (Bar.of_below (h4.mono H3.out.size)));clear h4)
   | fail)
  first|go_ret2|go_ret
  exact ⟨rfl,B4.out,H4.out⟩
def PcNew (n:Nat) (W:World) (v:Value) (l:List Pc):Prop:=∃ ad cap,v=.slice ad l.length cap∧(ad=none→cap=0)∧PiecesAt W ad l∧(∀ a,ad=some a→n≤a.block)∧l.length≤cap∧cap≤maxLen
theorem pcNew_nil (n:Nat) (W:World):PcNew n W (.slice none 0 0) []:=⟨none,0,rfl,fun _=>rfl,(fun i p h=>by simp at h),(fun a h=>by cases h),Nat.le_refl _,by unfold maxLen;omega⟩
theorem pcNew_of_row {n:Nat} {W:World} {base:Nat} {e:TypeId} {v:Value} {M:List Pc} (h:W.ownsRow base e 2 v M.length (pcCells M)) (hn:n≤base):PcNew n W v M:=by
 rcases h.2 with ⟨rfl,h0⟩|⟨g,cap,cur,rfl,hb,_,h1,h2,_⟩
 ·obtain rfl:=List.length_eq_zero_iff.1 h0
  exact pcNew_nil n W
 ·exact ⟨_,cap,rfl,(fun h=>by cases h),piecesAt_of_row h,(fun a ha=>by cases ha;exact Nat.le_trans hn hb),h1,h2⟩
theorem PcNew.bar {n:Nat} {X:List Nat} {W W':World} {v:Value} {l:List Pc} (h:PcNew n W v l) (hB:Bar W.heap.size X W W') (hX:∀ x∈X,x<n):PcNew n W' v l:=by
 obtain ⟨ad,cap,h1,h2,h3,h4,h5⟩:=h
 refine ⟨ad,cap,h1,h2,fun i p hi=>?_,h4,h5⟩
 obtain ⟨c,off,k1,k2,k3,k4⟩:=h3 i p hi
 have hc:c ∉ X:=fun hx=>by have:=h4 _ k1;have:=hX c hx;simp only at *;omega
 exact ⟨c,off,k1,Nat.lt_of_lt_of_le k2 hB.size,(hB.cell (p:=⟨c,off+i * 2,none⟩) k2 hc).trans k3,(hB.cell (p:=⟨c,off+i * 2+1,none⟩) k2 hc).trans k4⟩
theorem own_bar {W W':World} {b base size n:Nat} {e t:TypeId} {v x:Value} {xs:List Value} (h:W.ownsRow base e size v n xs) (hB:Bar W.heap.size [b] W W') (hb:Boxed W b t x) (ht:t≠e):W'.ownsRow base e size v n xs:=by
 refine ⟨h.1,?_⟩
 rcases h.2 with h0|⟨g,cap,cur,h1,h2,h3,h4⟩
 ·exact Or.inl h0
 ·refine Or.inr ⟨g,cap,cur,h1,h2,hB.row h3 (Array.getElem?_eq_some_iff.1 h3).1 fun hx=>?_,h4⟩
  obtain rfl:g=b:=by simpa using hx
  rw [show W.heap[g]?=_ from hb] at h3
  simp at h3
  exact ht h3.2
def LinesOut (q:Int × List Pc × List UInt8) (w:World) (e:Ending) (w':World):Prop :=
 (∃ v,e=.returned (.tuple #[v,.string (mkS q.2.2),errV q.1])∧PcNew w.heap.size w' v q.2.1)∧Below w.heap.size w w'
structure LnS (w:World) (r:List UInt8) (l:List Pc) (v:Value) (W:World):Prop where
 below:Below w.heap.size w W
 box:Boxed W w.heap.size 9 (.string (mkS r))
 own:W.ownsRow (w.heap.size+1) 77 2 v l.length (pcCells l)
theorem LnS.line {w:World} {r r':List UInt8} {l:List Pc} {v:Value} {W W':World} (h:LnS w r l v W) (hb:Boxed W' w.heap.size 9 (.string (mkS r'))) (hB:Bar W.heap.size [w.heap.size] W W'):LnS w r' l v W' :=
 ⟨h.below.trans ((hB.cut h.below.size).below (fun x hx=>by simp at hx;omega)),hb,own_bar h.own hB h.box (by decide)⟩
theorem LnS.laid {w:World} {r:List UInt8} {l:List Pc} {v:Value} {W:World} (h:LnS w r l v W) (hA:Px.AtoiLaid w):∀ W',Bar W.heap.size [w.heap.size] W W'→Px.AtoiLaid W':=fun W' hB =>
 hA.below (h.below.trans ((hB.cut h.below.size).below (fun x hx=>by simp at hx;omega)))
end Go.Proofs.YtdjcjaidklgamaaGreatDoor
end
section
namespace Go.Proofs.YtdjcjaidklgamaaGreatDoor
open Go.RowKit Go.Shelf Go.Joins
attribute [local go_sem] Oper.semAt_some
abbrev Yd:=Pc × Int
def yl (t:List UInt8):Nat→Nat→List Yd
 | 0,_=>[]
 | k+1,i=>if (pieceF (t.drop (24 * i))).2=0∧(pieceF (t.drop (24 * i))).1.2=0 then [] else if (pieceF (t.drop (24 * i))).2≠0 then [pieceF (t.drop (24 * i))] else pieceF (t.drop (24 * i)) :: yl t k (i+1)
def addG:List Yd→List Pc→Int × List Pc
 | [],l=>(0,l)
 | q :: r,l=>if q.2≠0 then (2,l) else if 20≤l.length then (4,l) else addG r (l++[q.1])
theorem addF_eq (t:List UInt8):∀ (k i:Nat) (l:List Pc),addF t k i l=addG (yl t k i) l
 | 0,_,_=>rfl
 | k+1,i,l=>by
  have e1:sub (t.drop (24 * i)) 0 12=sub t (24 * i) 12:=by unfold sub;rw [List.drop_drop];rfl
  have e2:sub (t.drop (24 * i)) 12 12=sub t (24 * i+12) 12:=by unfold sub;rw [List.drop_drop]
  have ih:=addF_eq t k (i+1)
  unfold addF yl pieceF
  rw [e1,e2]
  by_cases h1:(readF (sub t (24 * i) 12)).2=0
  ·by_cases h2:(readF (sub t (24 * i+12) 12)).2=0
   ·by_cases h3:(readF (sub t (24 * i+12) 12)).1=0
    ·simp only [h1,h2,h3,ne_eq,not_true_eq_false,if_false,if_true,or_self,and_self]
     rfl
    ·simp only [h1,h2,h3,ne_eq,not_true_eq_false,if_false,or_self,and_false,addG]
     rw [ih]
   ·simp only [h1,h2,ne_eq,not_true_eq_false,not_false_eq_true,if_false,if_true,false_or,false_and,addG]
  ·simp only [h1,ne_eq,not_false_eq_true,if_true,true_or,false_and,if_false,addG]
abbrev pcV (p:Pc):Value:=.agg #[.int .i64 p.1,.int .i64 p.2]
abbrev encY (x:Yd):Array Value:=#[pcV x.1,errV x.2]
def KpY (n₀ Bs:Nat) (W W':World):Prop:=Below n₀ W W'∧∀ o:Obj,W.heap[Bs]?=some o→o.isCells=true→W'.heap[Bs]?=some o
theorem KpY.refl (n₀ Bs:Nat) (W:World):KpY n₀ Bs W W:=⟨Below.refl _ _,fun _ h _=>h⟩
theorem KpY.trans {n₀ Bs:Nat} {A B C:World} (h:KpY n₀ Bs A B) (k:KpY n₀ Bs B C):KpY n₀ Bs A C:=⟨h.1.trans k.1,fun o h1 h2=>k.2 o (h.2 o h1 h2) h2⟩
theorem KpY.of_below {n₀ Bs:Nat} {W W':World} (h:Below W.heap.size W W') (hn:n₀≤W.heap.size):KpY n₀ Bs W W':=⟨h.mono hn,fun o h1 _=>(h.block Bs (Array.getElem?_eq_some_iff.1 h1).1).trans h1⟩
theorem KpY.boxed {n₀ Bs:Nat} {W W':World} {t:TypeId} {v:Value} (h:KpY n₀ Bs W W') (b:Boxed W Bs t v):Boxed W' Bs t v:=h.2 _ b rfl
theorem kpY_b {n₀ Bs:Nat} {w:World} (hn:n₀≤w.heap.size):∀ (W:World) (l:Nat) (o o':Obj),w.heap.size≤l→W.heap[l]?=some o→o.isCells=false→o.isWalk=false→KpY n₀ Bs W (W.putObj l o'):=fun W l o o' hl ho hc hw =>
 ⟨belowK_b (w:=w) hn W l o o' hl ho hc hw,fun o2 h2 hc2=>by
  by_cases he:l=Bs
  ·subst he
   rw [ho] at h2;cases h2;rw [hc] at hc2;cases hc2
  ·exact ((grownBy_putObj' W l o').block Bs (Array.getElem?_eq_some_iff.1 h2).1 (fun e=>he (by cases e;rfl))).trans h2⟩
set_option maxRecDepth 100000 in
set_option maxHeartbeats 8000000 in
theorem each1_in (n:Nat) (hn:2≤n) (l Bm Bs n₀:Nat) (t:List UInt8) (m:Nat) (hm:m≤21) (ht:24 * m≤t.length) (hl:t.length≤100000) (J Jx:List Yd→World→Prop)
  (hY:∀ pre x W,J pre W→pre.length<(yl t m 0).length→YieldAt Fence.wide (n - 1) Tryz.prog l (encY x) W fun e W' =>
   (e=.returned (.bool true)∧J (pre++[x]) W'∧KpY n₀ Bs W W')∨(e=.returned (.bool false)∧Jx (pre++[x]) W'))
  (W:World) (hJ:AbidesFrom W.heap.size J) (hBm:Boxed W Bm 3 (.int .i64 (m:Int))) (hBs:Boxed W Bs 9 (.string (mkS t))) (hn₀:n₀≤W.heap.size) (h0:J [] W) :
  CallsIn Fence.wide n Tryz.prog 208 #[.func (.yield l) #[] #[],.pointer (some ⟨Bm,0,none⟩),.pointer (some ⟨Bs,0,none⟩)] W fun e W'=>(∃ v,e=.returned v) ∧
   ((∃ ys,ys=yl t m 0∧J ys W')∨(∃ pre,(∃ k,k≤(yl t m 0).length∧pre=(yl t m 0).take k)∧Jx pre W')):=by
 refine callsIn_of_wp Tryz.func208 rfl trivial ?_ rfl
 simp only [Tryz.ntmps208,List.size_toArray,List.length_cons,List.length_nil,Nat.reduceAdd,Nat.reduceSub,Array.replicate_succ,Array.replicate_zero,List.push_toArray,List.append_toArray,List.nil_append,List.cons_append]
 obtain ⟨Y,hYl⟩:∃ Y,yl t m 0=Y:=⟨_,rfl⟩
 rw [hYl] at hY ⊢
 have cm:=hBm.cell
 have HYl:=Lib.hid hYl
 clear hYl
 gi_wp2
 gi_loopw [8] (fun i wr=>∃ k:Nat,k≤m∧i=.int .i64 (k:Int)∧Aside (k≤Y.length∧Y.drop k=yl t (m - k) k∧J (Y.take k) wr∧KpY n₀ Bs W wr))
  (fun i _=>m - (intOf i).toNat)
 case atStart=>exact ⟨0,by omega,rfl,Nat.zero_le _,by rw [← HYl.out];rfl,by rw [List.take_zero];exact h0,KpY.refl _ _ _⟩
 case round =>
  obtain ⟨k,hk,rfl,A⟩:=hrel
  obtain ⟨hkY,hd,hJs,hnx⟩:=A.out
  have hbs:=(hnx.boxed hBs).cell
  have h4:n₀≤wr.heap.size:=Nat.le_trans hn₀ hnx.1.size
  have z1:=mkS_size t
  by_cases hkm:k<m
  ·obtain ⟨u,hu⟩:∃ u,m - k=u+1:=⟨m - k - 1,by omega⟩
   have hu2:m - (k+1)=u:=by omega
   rw [hu,yl] at hd
   have CR:=Lib.hid (fun w=>readPiece_any (t.drop (24 * k)) (by rw [List.length_drop];omega) (by rw [List.length_drop];omega) w)
   obtain ⟨q,hq⟩:∃ q,pieceF (t.drop (24 * k))=q:=⟨_,rfl⟩
   rw [hq] at hd CR
   obtain ⟨⟨p1,p2⟩,er⟩:=q
   simp only at hd CR
   have hsl:∀ w,(Instr.slice 9 (.string (mkS t)) (some (.int .i64 ((k:Int) * 24))) none none).run Tryz.prog w=.ok (.string (mkS (t.drop (24 * k)))) w:=fun w=>by
    have:=mkS_onward t (24 * k) (by omega) w
    rwa [show ((24 * k:Nat):Int)=(k:Int) * 24 by omega] at this
   have HJ:=Lib.hid (show ∀ w2,Below wr.heap.size wr w2→J (Y.take k) (w2.alloc (.cells #[.int .i64 p1,.int .i64 p2] 77))∧KpY n₀ Bs W (w2.alloc (.cells #[.int .i64 p1,.int .i64 p2] 77)) from fun w2 h2=>by
    have h3:=h2.alloc h2.size (.cells #[.int .i64 p1,.int .i64 p2] 77)
    exact ⟨hJ _ _ _ none hJs ⟨h3.os,h3.tape,h3.output,h3.size,fun i hi _=>h3.block i hi⟩ (fun r e=>by cases e),hnx.trans (KpY.of_below h3 h4)⟩)
   have hfn:Fence.wide.fn 209:=trivial
   have h1:1≤n:=by omega
   by_cases he:er=0
   ·subst he
    rw [show errV 0=.nilIface from rfl] at CR
    by_cases hp:p2=0
    ·subst hp
     have hend:Y.drop k=[]:=by rw [hd];simp
     have hYk:Y.take k=Y:=by
      have:=List.take_append_drop k Y
      rw [hend,List.append_nil] at this
      exact this
     have HYk:=Lib.hid hYk
     clear A hJs hnx hd hend hYk hq
     gi_wp2_with (gi_at_call 209;refine (callsIn_wide.2 (CR.out _)).mono ?_;rintro e w2 ⟨rfl,h2⟩)
     obtain ⟨hJ2,hB2⟩:=HJ.out _ h2
     try gi_wp2
     refine bodyPost_ret (results_none rfl _ _ _) rfl ?_
     exact ⟨⟨_,rfl⟩,.inl ⟨_,rfl,by rw [HYk.out] at hJ2;exact hJ2⟩⟩
    ·rw [if_neg (by rintro ⟨_,h⟩;exact hp h),if_neg (by simp)] at hd
     have hkl:k<Y.length:=by
      rcases Nat.lt_or_ge k Y.length with h|h
      ·exact h
      ·rw [List.drop_of_length_le h] at hd;cases hd
     have hat:Y[k]?=some ((p1,p2),0):=by
      have:=congrArg (fun l:List Yd=>l[0]?) hd
      simpa using this
     have htk:Y.take (k+1)=Y.take k++[((p1,p2),0)]:=by rw [List.take_add_one,hat];rfl
     have hdr:Y.drop (k+1)=yl t u (k+1):=by
      have:=congrArg (List.drop 1) hd
      rw [List.drop_drop] at this
      simpa using this
     have HX:=Lib.hid (And.intro hkl (And.intro htk hdr))
     clear A hJs hnx hd hq hat htk hdr
     gi_wp2_with (gi_at_call 209;refine (callsIn_wide.2 (CR.out _)).mono ?_;rintro e w2 ⟨rfl,h2⟩)
     obtain ⟨hJ2,hB2⟩:=HJ.out _ h2
     obtain ⟨fn,tmps,assign,body,hy,hRd⟩:=hY _ ((p1,p2),0) _ hJ2 (by rw [List.length_take];have:=HX.out.1;omega)
     rw [show encY ((p1,p2),0)=#[.agg #[.int .i64 p1,.int .i64 p2],.nilIface] from rfl] at hy
     rw [show Sem.run Tryz.prog (Instr.yield l #[.agg #[.int .i64 p1,.int .i64 p2],.nilIface]) _=_ from hy]
     gi_wp2
     refine hRd.mono ?_
     rintro e W3 (⟨rfl,hJ3,hk3⟩|⟨rfl,hJx3⟩)
     ·gi_wp2
      go_roundw
      case rel =>
       exact ⟨k+1,by omega,by first|rfl|simp,HX.out.1,by rw [hu2];exact HX.out.2.2,by rw [HX.out.2.1];exact hJ3,hB2.trans hk3⟩
      case measure=>simp [intOf];omega
     ·gi_wp2
      refine bodyPost_ret (results_none rfl _ _ _) rfl ?_
      exact ⟨⟨_,rfl⟩,.inr ⟨_,⟨k+1,HX.out.1,rfl⟩,by rw [HX.out.2.1];exact hJx3⟩⟩
   ·rw [if_neg (by rintro ⟨h,_⟩;exact he h),if_pos he] at hd
    have hE:errV er=.iface 68 (.int .i64 er):=if_neg he
    rw [hE] at CR
    have hkl:k<Y.length:=by
     rcases Nat.lt_or_ge k Y.length with h|h
     ·exact h
     ·rw [List.drop_of_length_le h] at hd;cases hd
    have hall:Y=Y.take k++[((p1,p2),er)]:=by
     have:=List.take_append_drop k Y
     rw [hd] at this
     exact this.symm
    have hlen:Y.length=k+1:=by
     have:=congrArg List.length hall
     rw [List.length_append,List.length_take] at this
     simp at this
     omega
    have HX:=Lib.hid (And.intro hkl (And.intro hall hlen))
    clear A hJs hnx hd hq hall hlen he
    gi_wp2_with (gi_at_call 209;refine (callsIn_wide.2 (CR.out _)).mono ?_;rintro e w2 ⟨rfl,h2⟩)
    obtain ⟨hJ2,hB2⟩:=HJ.out _ h2
    obtain ⟨fn,tmps,assign,body,hy,hRd⟩:=hY _ ((p1,p2),er) _ hJ2 (by rw [List.length_take];have:=HX.out.1;omega)
    rw [show encY ((p1,p2),er)=#[.agg #[.int .i64 p1,.int .i64 p2],.iface 68 (.int .i64 er)] by unfold encY;rw [hE]] at hy
    rw [show Sem.run Tryz.prog (Instr.yield l #[.agg #[.int .i64 p1,.int .i64 p2],.iface 68 (.int .i64 er)]) _=_ from hy]
    clear hE
    gi_wp2
    refine hRd.mono ?_
    rintro e W3 (⟨rfl,hJ3,hk3⟩|⟨rfl,hJx3⟩)
    ·gi_wp2
     refine bodyPost_ret (results_none rfl _ _ _) rfl ?_
     exact ⟨⟨_,rfl⟩,.inl ⟨_,rfl,by rw [HX.out.2.1];exact hJ3⟩⟩
    ·gi_wp2
     refine bodyPost_ret (results_none rfl _ _ _) rfl ?_
     refine ⟨⟨_,rfl⟩,.inr ⟨_,⟨k+1,by rw [HX.out.2.2];exact Nat.le_refl _,rfl⟩,?_⟩⟩
     rw [← HX.out.2.2,List.take_length,HX.out.2.1]
     exact hJx3
  ·obtain rfl:k=m:=by omega
   have hend:Y.drop k=[]:=by rw [hd,Nat.sub_self];rfl
   have hYk:Y.take k=Y:=by
    have:=List.take_append_drop k Y
    rw [hend,List.append_nil] at this
    exact this
   rw [hYk] at hJs
   have HJ:=Lib.hid hJs
   clear hJs hnx A hd hend hYk
   gi_wp2
   go_end0
   exact ⟨⟨_,rfl⟩,.inl ⟨_,rfl,HJ.out⟩⟩
theorem each_in (n:Nat) (t:List UInt8) (m:Nat) (w:World) :
  CallsIn Fence.wide n Tryz.prog 192 #[.string (mkS t),.int .i64 (m:Int)] w fun e w'=>e=.returned (.func (.func 208) #[] #[.pointer (some ⟨w.heap.size+1,0,none⟩),.pointer (some ⟨w.heap.size,0,none⟩)])∧w'=(w.alloc (.cells #[.string (mkS t)] 9)).alloc (.cells #[.int .i64 (m:Int)] 3):=by
 refine callsIn_of_wp Tryz.func192 rfl trivial ?_ rfl
 simp only [Tryz.ntmps192,List.size_toArray,List.length_cons,List.length_nil,Nat.reduceAdd,Nat.reduceSub,Array.replicate_succ,Array.replicate_zero,List.push_toArray,List.append_toArray,List.nil_append,List.cons_append]
 gi_wp2
 go_ret
 exact ⟨rfl,rfl⟩
theorem each_stops (n:Nat) (hn:2≤n) (Bm Bs n₀:Nat) (t:List UInt8) (m:Nat) (hm:m≤21) (ht:24 * m≤t.length) (hl:t.length≤100000) (w:World) (hn₀:n₀≤w.heap.size)
  (hcm:Boxed w Bm 3 (.int .i64 (m:Int))) (hc:Boxed w Bs 9 (.string (mkS t))) :
  SeqStopsK Fence.wide n Tryz.prog 208 #[.pointer (some ⟨Bm,0,none⟩),.pointer (some ⟨Bs,0,none⟩)] encY (KpY n₀ Bs) (fun ys=>ys=yl t m 0) (fun pre=>∃ k,k≤(yl t m 0).length∧pre=(yl t m 0).take k) (yl t m 0).length w:=fun l J Jx W hW hJ _ hY h0 =>
 each1_in n hn l Bm Bs n₀ t m hm ht hl J Jx hY W hJ ((hW.block Bm hcm.lt).trans hcm) ((hW.block Bs hc.lt).trans hc) (Nat.le_trans hn₀ hW.size) h0
end Go.Proofs.YtdjcjaidklgamaaGreatDoor
end
section
namespace Go.Proofs.YtdjcjaidklgamaaGreatDoor
open Go.RowKit Go.Shelf Go.Joins
attribute [local go_sem] Oper.semAt_some
abbrev pcObj (p:Pc):Obj:=.cells #[.int .i64 p.1,.int .i64 p.2] 77 (0,0)
def gotP (l0:List Pc) (pre:List Yd):List Pc:=l0++pre.map fun x=>x.1
def AdI (w:World) (n0 lb:Nat) (l0:List Pc) (t:List UInt8) (pre:List Yd) (W:World):Prop :=
 (Boxed W w.heap.size 31 .nilIface∧Boxed W (w.heap.size+1) 9 (.string (mkS t))) ∧
 ((∃ v,Boxed W lb 24 v∧W.ownsRow n0 77 2 v (gotP l0 pre).length (pcCells (gotP l0 pre))∧True) ∧
  (Below n0 w W∧(w.heap.size+3≤W.heap.size∧(gotP l0 pre).length≤20∧∀ x∈pre,x.2=0)))
def AdX (w:World) (n0 lb:Nat) (l0:List Pc) (c:Code) (pre:List Yd) (W:World):Prop :=
 c=.ret∧∃ (er:Int) (x:Yd) (pre':List Yd),(Boxed W w.heap.size 31 (.iface 68 (.int .i64 er)) ∧
  (∃ v,Boxed W lb 24 v∧W.ownsRow n0 77 2 v (gotP l0 pre').length (pcCells (gotP l0 pre')))) ∧
  (Below n0 w W∧(w.heap.size+3≤W.heap.size∧pre=pre'++[x]∧(gotP l0 pre').length≤20∧(∀ y∈pre',y.2=0)∧((er=2∧x.2≠0)∨(er=4∧x.2=0∧(gotP l0 pre').length=20))))
theorem gotP_snoc (l0:List Pc) (pre:List Yd) (x:Yd):gotP l0 (pre++[x])=gotP l0 pre++[x.1]:=by unfold gotP;simp
theorem addG_good (l0:List Pc):∀ (pre rest:List Yd),(∀ y∈pre,y.2=0)→(gotP l0 pre).length≤20→addG (pre++rest) l0=addG rest (gotP l0 pre)
 | [],rest,_,_=>by unfold gotP;simp
 | q :: r,rest,h,hl=>by
  have h0:q.2=0:=h q (by simp)
  have hl2:(gotP (l0++[q.1]) r).length≤20:=by unfold gotP at hl ⊢;simp at hl ⊢;omega
  have:l0.length<20:=by unfold gotP at hl;simp at hl;omega
  rw [List.cons_append,addG,if_neg (by simp [h0]),if_neg (by omega),addG_good (l0++[q.1]) r rest (fun y hy=>h y (by simp [hy])) hl2]
  congr 1
  unfold gotP;simp
theorem AdI.own (w:World) (n0 lb:Nat) (l0:List Pc) (t:List UInt8) (B:Nat) (hn:n0≤w.heap.size) (hB:n0≤B):OwnFrom B (AdI w n0 lb l0 t):=by
 unfold AdI
 refine OwnFrom.and (OwnFrom.and (Own.from (boxed_own _ _ _) _) (Own.from (boxed_own _ _ _) _))
  (OwnFrom.and (Own.from (holdsRow_own n0 _ _ _ 2 (fun pre:List Yd=>(gotP l0 pre).length) (fun pre=>pcCells (gotP l0 pre)) (fun _ _=>True)) _) (OwnFrom.and (ownFrom_below hn hB) ?_))
 rintro pre X Y row ⟨h1,h2⟩ hg hr
 exact ⟨Nat.le_trans h1 hg.size,h2⟩
theorem own_row {n0 size k:Nat} {e:TypeId} {v:Value} {xs:List Value} {X Y:World} {row:Option Nat} (h:X.ownsRow n0 e size v k xs) (hg:X.grownBy Y row) (hr:∀ r,row=some r→∃ o:Obj,X.heap[r]?=some o∧o.isCells=false):Y.ownsRow n0 e size v k xs:=by
 refine ⟨h.1,?_⟩
 rcases h.2 with h0|⟨g,cap,cur,h1,h2,h3,h4⟩
 ·exact Or.inl h0
 ·refine Or.inr ⟨g,cap,cur,h1,h2,(hg.block g (Array.getElem?_eq_some_iff.1 h3).1 fun e=>?_).trans h3,h4⟩
  obtain ⟨o,ho,hc⟩:=hr g e.symm
  rw [h3] at ho
  cases ho
  simp [Obj.isCells] at hc
theorem AdX.own (w:World) (n0 lb:Nat) (l0:List Pc) (c:Code) (B:Nat) (hn:n0≤w.heap.size) (hB:n0≤B):OwnFrom B (AdX w n0 lb l0 c):=by
 rintro pre X Y row ⟨hc,er,x,pre',⟨h1,v,h2,h3⟩,h4,h5,h6⟩ hg hr
 have hr':∀ r,row=some r→∃ o:Obj,X.heap[r]?=some o∧o.isCells=false:=fun r e=>(hr r e).2
 exact ⟨hc,er,x,pre',⟨boxed_own _ _ (fun (_:Unit)=>Value.iface 68 (.int .i64 er)) () X Y row h1 hg hr',v,boxed_own _ _ (fun (_:Unit)=>v) () X Y row h2 hg hr',own_row h3 hg hr'⟩,ownFrom_below (β:=Unit) hn (B:=B) hB () X Y row h4 hg hr,Nat.le_trans h5 hg.size,h6⟩
theorem cell_two_new' (W:World) (t:TypeId) (a b:Value):∀ (j:Nat) (u:Value),[a,b][j]?=some u→(W.alloc (.cells #[a,b] t)).cell? ((⟨W.heap.size,0,none⟩:Addr).add j)=some u
 | 0,u,h=>by simp at h;subst h;simp [Addr.add]
 | 1,u,h=>by simp at h;subst h;simp [Addr.add]
 | j+2,u,h=>by simp at h
theorem cells_own' {β:Type} (B:Nat) (f:β→Obj) (hf:∀ s,(f s).isCells=true):Own (fun s W=>W.heap[B]?=some (f s)):=fun s X Y row hs hg hrow=>by
 have hlt:B<X.heap.size:=(Array.getElem?_eq_some_iff.1 hs).1
 refine (hg.block B hlt fun e=>?_).trans hs
 obtain ⟨o,ho,hc⟩:=hrow B e.symm
 rw [hs] at ho
 cases ho
 rw [hf s] at hc
 cases hc
theorem adX_of {w:World} {n0 lb:Nat} {l0:List Pc} {t:List UInt8} {pre:List Yd} {W:World} (x:Yd) (er:Int) (hn:n0≤w.heap.size) (hlb:lb<w.heap.size) (hI:AdI w n0 lb l0 t pre W)
  (he:(er=2∧x.2≠0)∨(er=4∧x.2=0∧(gotP l0 pre).length=20)) (B:Nat) :
  KeepsFrom B W (W.setCell ⟨w.heap.size,0,none⟩ (.iface 68 (.int .i64 er)))∧AdX w n0 lb l0 .ret (pre++[x]) (W.setCell ⟨w.heap.size,0,none⟩ (.iface 68 (.int .i64 er))):=by
 obtain ⟨⟨h0,h1⟩,⟨v,h2,h3,_⟩,h4,h5,h6,h7⟩:=hI
 refine ⟨(KeepsOthers.setCell _ _ _).from _,rfl,er,x,pre,⟨h0.set _,v,h2.other (by omega) _,h3.kept (grownBy_setCell' W w.heap.size _) (.inr (h0.not_row (by decide) h3).symm)⟩,h4.setCell (p:=⟨w.heap.size,0,none⟩) hn _,by simp [World.setCell];exact h5,rfl,h6,h7,he⟩
theorem adI_of {w:World} {n0 lb:Nat} {l0:List Pc} {t:List UInt8} {pre:List Yd} {W w1:World} (x:Yd) (hx:x.2=0) (hn:n0≤lb) (hlb:lb<w.heap.size) (hI:AdI w n0 lb l0 t pre W) {v v':Value} (hbv:Boxed W lb 24 v)
  (hrow:W.ownsRow n0 77 2 v (gotP l0 pre).length (pcCells (gotP l0 pre))) {tmp:Obj}
  (hown':w1.ownsRow n0 77 2 v' ((gotP l0 pre).length+1) (pcCells (gotP l0 pre)++[.int .i64 x.1.1,.int .i64 x.1.2])) (hgrow:(W.alloc tmp).grownBy w1 v.ownBlock)
  (h20:(gotP l0 pre).length<20) (B:Nat) :
  KeepsFrom B W (w1.setCell ⟨lb,0,none⟩ v')∧KpY n0 (w.heap.size+1) W (w1.setCell ⟨lb,0,none⟩ v')∧AdI w n0 lb l0 t (pre++[x]) (w1.setCell ⟨lb,0,none⟩ v'):=by
 obtain ⟨⟨h0,h1⟩,_,h4,h5,h6,h7⟩:=hI
 have hnW:n0≤W.heap.size:=by omega
 obtain ⟨hv1,hv2,hr2,hk2,hb2⟩:=hbv.appended (by decide) hrow hnW hn hown' hgrow
 have e0:=((h0.alloc tmp).kept hgrow (h0.not_row (by decide) hrow)).other (B':=lb) (by omega) v'
 have e1:=((h1.alloc tmp).kept hgrow (h1.not_row (by decide) hrow)).other (B':=lb) (by omega) v'
 refine ⟨hk2.from _,⟨hb2,fun o ho _=>?_⟩,⟨e0,e1⟩,⟨v',hv2,?_,trivial⟩,h4.trans hb2,Nat.le_trans h5 hb2.size,?_,fun y hy=>?_⟩
 ·have:=(show W.heap[w.heap.size+1]?=_ from h1).symm.trans ho
  rw [← this];exact e1
 ·rw [gotP_snoc,List.length_append,pcCells_snoc];exact hr2
 ·rw [gotP_snoc];simp;omega
 ·rcases List.mem_append.1 hy with hy|hy
  ·exact h7 y hy
  ·rw [List.mem_singleton.1 hy];exact hx
theorem own_bel {w w':World} {base:Nat} {e:TypeId} {size:Nat} {v:Value} {k:Nat} {xs:List Value} (h:w.ownsRow base e size v k xs) (hb:Below w.heap.size w w'):w'.ownsRow base e size v k xs:=by
 refine ⟨h.1,?_⟩
 rcases h.2 with h0|⟨g,cap,cur,h1,h2,h3,h4⟩
 ·exact Or.inl h0
 ·exact Or.inr ⟨g,cap,cur,h1,h2,(hb.block g (Array.getElem?_eq_some_iff.1 h3).1).trans h3,h4⟩
theorem own_shape {W:World} {base:Nat} {e:TypeId} {size:Nat} {v:Value} {k:Nat} {xs:List Value} (h:W.ownsRow base e size v k xs):∃ ad cap,v=.slice ad k cap:=by
 rcases h.2 with ⟨rfl,h0⟩|⟨g,cap,_,rfl,_⟩
 ·exact ⟨none,0,by rw [h0]⟩
 ·exact ⟨_,cap,rfl⟩
def AddOut (n0 lb:Nat) (q:Int × List Pc) (w:World) (e:Ending) (W:World):Prop :=
 e=.returned (errV q.1)∧(∃ v,Boxed W lb 24 v∧W.ownsRow n0 77 2 v q.2.length (pcCells q.2))∧Below n0 w W
set_option maxRecDepth 100000 in
set_option maxHeartbeats 8000000 in
theorem add_in (n:Nat) (hn6:6≤n) (n0 lb:Nat) (t:List UInt8) (m:Nat) (hm:m≤21) (ht:24 * m≤t.length) (htl:t.length≤100000) (l0:List Pc) (h20:l0.length≤20) (w:World) (hn0:n0≤lb) (hlb:lb<w.heap.size) (v:Value)
  (hv:Boxed w lb 24 v) (ho:w.ownsRow n0 77 2 v l0.length (pcCells l0)) :
  CallsIn Fence.wide n Tryz.prog 191 #[.string (mkS t),.int .i64 (m:Int),.pointer (some ⟨lb,0,none⟩)] w (AddOut n0 lb (addF t m 0 l0) w):=by
 have h1:1≤n:=by omega
 rw [addF_eq]
 refine callsIn_of_wp_marks Tryz.func191 rfl trivial ?_ rfl
 simp only [Tryz.ntmps191,List.size_toArray,List.length_cons,List.length_nil,Nat.reduceAdd,Nat.reduceSub,Array.replicate_succ,Array.replicate_zero,List.push_toArray,List.append_toArray,List.nil_append,List.cons_append]
 have hfn:Fence.wide.fn 192:=trivial
 have b0:=((Boxed.new w 31 .nilIface).alloc (.cells #[.string (mkS t)] 9)).alloc (.cells #[.int .i64 (m:Int)] 3)
 have b1:=(Boxed.new (w.alloc (.cells #[.nilIface] 31)) 9 (.string (mkS t))).alloc (.cells #[.int .i64 (m:Int)] 3)
 have b2:=Boxed.new ((w.alloc (.cells #[.nilIface] 31)).alloc (.cells #[.string (mkS t)] 9)) 3 (.int .i64 (m:Int))
 have b3:=((hv.alloc (.cells #[.nilIface] 31)).alloc (.cells #[.string (mkS t)] 9)).alloc (.cells #[.int .i64 (m:Int)] 3)
 simp only [World.size_alloc] at b1 b2
 have hB0:Below w.heap.size w (((w.alloc (.cells #[.nilIface] 31)).alloc (.cells #[.string (mkS t)] 9)).alloc (.cells #[.int .i64 (m:Int)] 3)):=(below_alloc2 w (.cells #[.nilIface] 31) (.cells #[.string (mkS t)] 9)).alloc (by simp;omega) _
 have hr0:World.ownsRow _ n0 77 2 v l0.length (pcCells l0):=own_bel ho hB0
 have hsz:(((w.alloc (.cells #[.nilIface] 31)).alloc (.cells #[.string (mkS t)] 9)).alloc (.cells #[.int .i64 (m:Int)] 3)).heap.size=w.heap.size+3:=by simp
 gi_wp2_with (gi_at_call 192;refine (each_in (n - 1) t m _).mono ?_;rintro e w' ⟨rfl,rfl⟩)
 try simp only [World.size_alloc]
 obtain ⟨W0,hW0⟩:∃ W0,((w.alloc (.cells #[.nilIface] 31)).alloc (.cells #[.string (mkS t)] 9)).alloc (.cells #[.int .i64 (m:Int)] 3)=W0:=⟨_,rfl⟩
 rw [hW0] at b0 b1 b2 b3 hB0 hsz hr0 ⊢
 clear hW0
 have hle:n0≤W0.heap.size:=by omega
 have hnw:n0≤w.heap.size:=by omega
 refine wpIn_rangeFunc_ownH rfl h1 (gf:=208) (lb:=#[.pointer (some ⟨w.heap.size+1+1,0,none⟩),.pointer (some ⟨w.heap.size+1,0,none⟩)]) rfl trivial (enters_of Tryz.func208 (by kernel_rfl) rfl)
  (each_stops (n - 1) (by omega) (w.heap.size+1+1) (w.heap.size+1) n0 t m hm ht htl W0 hle b2 b1) KpY.trans (kpY_b hle) (Below.refl _ _) (fun _=>rfl)
  (AdI w n0 lb l0 t) (AdX w n0 lb l0) (AdI.own w n0 lb l0 t _ hnw hle) (fun c=>AdX.own w n0 lb l0 c _ hnw hle)
  ⟨⟨b0,b1⟩,⟨_,b3,by unfold gotP;simp only [List.map_nil,List.append_nil];exact hr0,trivial⟩,hB0.mono hnw,by omega,by unfold gotP;simpa using h20,fun x hx=>by simp at hx⟩
  (fun x a' W=>∃ Bx,W0.heap.size≤Bx∧W.heap[Bx]?=some (pcObj x.1)∧a'={ tmps:=#[.string (mkS t),.int .i64 (m:Int),.pointer (some ⟨lb,0,none⟩),undef,undef,.pointer (some ⟨w.heap.size,0,none⟩),.pointer (some ⟨Bx,0,none⟩),errV x.2,.string (mkS t),.int .i64 (m:Int),.func (.func 208) #[] #[.pointer (some ⟨w.heap.size+1+1,0,none⟩),.pointer (some ⟨w.heap.size+1,0,none⟩)],pcV x.1,errV x.2,undef,undef,undef,undef,undef,undef,undef,undef,undef,undef,undef],defers:=[] })
  (fun x a' _ X Y row hs hg hr=>by obtain ⟨Bx,h1,h2,h3⟩:=hs;exact ⟨Bx,h1,cells_own' Bx (fun (_:Unit)=>pcObj x.1) (fun _=>rfl) () X Y row h2 hg (fun r e=>(hr r e).2),h3⟩)
  ?assign ?body ?done ?stop
 case assign =>
  rintro l pre x W K hI hK
  have hsW:n0≤W.heap.size:=by have:=hI.2.2.2.1;omega
  have hlt4:W0.heap.size≤W.heap.size:=by have:=hI.2.2.2.1;omega
  have hb:=(Below.refl W.heap.size W).alloc (Nat.le_refl _) (.cells #[.int .i64 x.1.1,.int .i64 x.1.2] 77)
  gi_wp2
  refine hK _ _ ((KeepsOthers.alloc _ _).from _) (KpY.of_below hb hsW) ?_ ⟨W.heap.size,hlt4,World.alloc_heap_new W _,rfl⟩
  exact (AdI.own w n0 lb l0 t n0 hnw (Nat.le_refl _)).alloc _ hI
 case body =>
  rintro l pre x a' W hl ⟨r,hr⟩ hI ⟨Bx,hBx,bX,rfl⟩ hlt
  have x1:W.cell? ⟨Bx,0,none⟩=some (.int .i64 x.1.1):=by simp [World.cell?,bX]
  have x2:W.cell? ⟨Bx,1,none⟩=some (.int .i64 x.1.2):=by simp [World.cell?,bX]
  have c0:=hI.1.1.cell
  have f0:=hI.1.1.frozen
  have HI:=Lib.hid hI
  by_cases he:x.2=0
  ·obtain ⟨_,⟨v1,hbv,hrow,_⟩,hBW,hsW,hlen,hgood⟩:=hI
   have hE:errV x.2=.nilIface:=by rw [he];rfl
   rw [hE]
   have HE:=Lib.hid he
   obtain ⟨ad,cap,rfl⟩:=own_shape hrow
   have c4:=hbv.cell
   have HG:=Lib.hid hgood
   have HV:=Lib.hid (And.intro hbv hrow)
   clear hbv hrow hBW hgood he hE bX b0 b1 b2 b3 hr0
   by_cases h20:(gotP l0 pre).length=20
   ·have HL:=Lib.hid h20
    have h20':((gotP l0 pre).length:Int)=20:=by omega
    clear h20
    gi_wp2
    exact adX_of x 4 hnw hlb HI.out (Or.inr ⟨rfl,HE.out,HL.out⟩) _
   ·have hL:¬ ((gotP l0 pre).length:Int)=20:=by omega
    have h20':(gotP l0 pre).length<20:=by omega
    obtain ⟨i0,hi,hz0,hz1,hz2⟩:=info_parts Tryz.infoPiece
    clear h20
    gi_wp2_with (gi_at_builtin;refine wpListIn_append_own _ rfl _ _ 24 rfl n0 77 i0 (.agg #[.int .i64 0,.int .i64 0]) 2 16 Tryz.underlying24 hi hz0 hz1 hz2 rfl (by decide) _ _ _ rfl (HV.out.2.alloc _) ⟨W.heap.size,0,none⟩ 1 1 [.int .i64 x.1.1,.int .i64 x.1.2] rfl rfl (cell_two_new' _ _ _ _) (by simp [Value.oneCell']) (by unfold maxLen;omega) (by omega) (by simp;omega) ?_;intro v' w1 hown' hgrow _;obtain ⟨g',cap',rfl⟩:=ownsRow_succ hown';have hv1:=(HV.out.1.alloc _).kept hgrow (HV.out.1.not_row (by decide) HV.out.2);have hc1:=hv1.cell;have hf1:=hv1.frozen)
    exact adI_of x HE.out hn0 hlb HI.out HV.out.1 HV.out.2 hown' hgrow h20' _
  ·have hE:errV x.2=.iface 68 (.int .i64 x.2):=if_neg he
   rw [hE]
   have HE:=Lib.hid he
   clear hI he hE bX b0 b1 b2 b3 hr0
   gi_wp2
   exact adX_of x 2 hnw hlb HI.out (Or.inl ⟨rfl,HE.out⟩) _
 case done =>
  rintro D xs W hD rfl ⟨⟨c0,c1⟩,⟨v',c2,hrow,_⟩,hBW,hsW,hlen,hgood⟩ hK
  have hG:=addG_good l0 (yl t m 0) [] hgood hlen
  rw [List.append_nil] at hG
  have HGG:=Lib.hid hG
  have k0:=c0.cell
  have f0:=c0.frozen
  have n0':=c0.not_row (by decide) hrow
  have HB:=Lib.hid (And.intro (And.intro c0 c2) (And.intro hBW (And.intro hrow n0')))
  have hD':=hD
  clear hr0 b0 b1 b2 b3 c0 c1 c2 hBW hgood n0' hrow hB0 hG
  gi_wp2
  obtain ⟨⟨c0,c2⟩,hBW,hrow,n0'⟩:=HB.out
  have hK':=(KeepsOthers.setCell W ⟨w.heap.size,0,none⟩ .nilIface).same D _ hK rfl
  refine ⟨by simp,.inl ⟨_,_,rfl,run_takeDeferred hK',?_⟩⟩
  have d2:=cell_kept (c0.set .nilIface).cell (grownBy_putObj' _ D (.deferred none)) (fun r e=>by cases e;exact ⟨_,hK',rfl⟩)
  refine ⟨.nilIface,?_,?_⟩
  ·simp [results,Tryz.f191,go_sem,d2]
  ·show AddOut n0 lb (addG (yl t m 0) l0) w _ _
   rw [HGG.out]
   refine ⟨rfl,⟨v',?_,?_⟩,?_⟩
   ·exact ((grownBy_putObj' _ D (.deferred none)).block lb (by have:=(c2.other (B':=w.heap.size) (by omega) .nilIface).lt;exact this) (fun e=>by cases e;rw [(c2.other (B':=w.heap.size) (by omega) .nilIface:_=_)] at hK';cases hK')).trans (c2.other (B':=w.heap.size) (by omega) .nilIface)
   ·exact ownsRow_putObj (hrow.kept (grownBy_setCell' W w.heap.size .nilIface) (.inr n0'.symm)) (.deferred none) hK' rfl
   ·exact (hBW.setCell (p:=⟨w.heap.size,0,none⟩) hnw _).trans (belowK_b (w:=W0) hle _ D _ _ (by omega) hK' rfl rfl)
 case stop =>
  rintro D c pre W hD ⟨k,hk,rfl⟩ ⟨rfl,er,x,pre',⟨c0,v',c2,hrow⟩,hBW,hsW,hpre,hlen,hgood,her⟩ hK
  have hall:yl t m 0=pre'++(x :: (yl t m 0).drop k):=by
   have:=List.take_append_drop k (yl t m 0)
   rw [hpre] at this
   simpa using this.symm
  have hG:addG (yl t m 0) l0=(er,gotP l0 pre'):=by
   rw [hall,addG_good l0 pre' _ hgood hlen,addG]
   rcases her with ⟨rfl,h⟩|⟨rfl,h,h2⟩
   ·rw [if_pos h]
   ·rw [if_neg (by simpa using h),if_pos (by omega)]
  have hne:er≠0:=by rcases her with ⟨rfl,_⟩|⟨rfl,_⟩ <;> decide
  have HGG:=Lib.hid hG
  have HB:=Lib.hid (And.intro (And.intro c0 c2) (And.intro hBW (And.intro hrow hne)))
  clear hr0 b0 b1 b2 b3 c0 c2 hBW hgood hpre hall hG her hrow hB0 hne
  gi_wp2
  obtain ⟨⟨c0,c2⟩,hBW,hrow,hne⟩:=HB.out
  refine ⟨by simp,.inl ⟨_,_,rfl,run_takeDeferred hK,?_⟩⟩
  have d2:=cell_kept c0.cell (grownBy_putObj' _ D (.deferred none)) (fun r e=>by cases e;exact ⟨_,hK,rfl⟩)
  refine ⟨.iface 68 (.int .i64 er),?_,?_⟩
  ·simp [results,Tryz.f191,go_sem,d2]
  ·show AddOut n0 lb (addG (yl t m 0) l0) w _ _
   rw [HGG.out]
   refine ⟨by show _=Ending.returned (errV er);rw [show errV er=.iface 68 (.int .i64 er) from if_neg hne],⟨v',?_,?_⟩,?_⟩
   ·exact ((grownBy_putObj' _ D (.deferred none)).block lb c2.lt (fun e=>by cases e;rw [(c2:_=_)] at hK;cases hK)).trans c2
   ·exact ownsRow_putObj hrow (.deferred none) hK rfl
   ·exact hBW.trans (belowK_b (w:=W0) hle _ D _ _ (by omega) hK rfl rfl)
end Go.Proofs.YtdjcjaidklgamaaGreatDoor
end
