import Derived.Test.YtdjcjaidklgamaaGreatDoorQBa
import Derived.SizedLaws
import Derived.Deep.SlicePairs
import Derived.Carry
import Derived.ChangeMaps5
import Derived.Deep.LoopGhost
import Derived.OpenShut
set_option linter.unusedSimpArgs false
set_option linter.unusedVariables false
section
namespace Go.Proofs.YtdjcjaidklgamaaGreatDoor
open Go.RowKit (wrap64)
set_option linter.unusedVariables false
abbrev Pc:=Int × Int
def rightF (size:Int):Int→List Pc→Bool
 | _,[]=>true
 | e,p :: l=>decide (e<p.1)&&(decide (1≤p.2)&&(decide (p.2≤size - p.1)&&rightF size (p.1+p.2) l))
def mapRight (l:List Pc) (size:Int):Bool:=decide (0≤size)&&(decide (l.length≤20)&&rightF size (-1) l)
def sizeF (a:Int):List Pc→Int
 | []=>a
 | p :: l=>sizeF (wrap64 (a+p.2)) l
def endE:Int→List Pc→Int
 | e,[]=>e
 | _,p :: l=>endE (p.1+p.2) l
theorem rightF_cons {size e:Int} {p:Pc} {l:List Pc}:rightF size e (p :: l)=true↔e<p.1∧1≤p.2∧p.2≤size - p.1∧rightF size (p.1+p.2) l=true:=by
 simp [rightF]
theorem rightF_snoc (size:Int) (p:Pc):∀ (l:List Pc) (e:Int),rightF size e (l++[p])=true↔rightF size e l=true∧endE e l<p.1∧1≤p.2∧p.2≤size - p.1
 | [],e=>by simp [rightF,endE]
 | q :: l,e=>by
  rw [List.cons_append,rightF_cons,rightF_cons,rightF_snoc size p l]
  simp only [endE]
  constructor
  ·rintro ⟨h1,h2,h3,h4,h5⟩;exact ⟨⟨h1,h2,h3,h4⟩,h5⟩
  ·rintro ⟨⟨h1,h2,h3,h4⟩,h5⟩;exact ⟨h1,h2,h3,h4,h5⟩
theorem endE_snoc (p:Pc):∀ (l:List Pc) (e:Int),endE e (l++[p])=p.1+p.2
 | [],e=>rfl
 | q :: l,e=>endE_snoc p l _
theorem endE_take {l:List Pc} {i:Nat} {p:Pc} (h:l[i]?=some p) (e:Int):endE e (l.take (i+1))=p.1+p.2:=by
 rw [List.take_add_one,h]
 exact endE_snoc p _ e
theorem rightF_take {size:Int} {l:List Pc} {i:Nat} {p:Pc} {e:Int} (h:l[i]?=some p):rightF size e (l.take (i+1))=true↔rightF size e (l.take i)=true∧endE e (l.take i)<p.1∧1≤p.2∧p.2≤size - p.1:=by
 rw [List.take_add_one,h]
 exact rightF_snoc size p _ e
theorem rightF_prefix {size:Int}:∀ (l:List Pc) (e:Int) (i:Nat),rightF size e l=true→rightF size e (l.take i)=true
 | [],e,i,h=>by rw [List.take_nil];exact h
 | p :: l,e,0,h=>rfl
 | p :: l,e,i+1,h=>by
  rw [List.take_succ_cons,rightF_cons]
  rw [rightF_cons] at h
  exact ⟨h.1,h.2.1,h.2.2.1,rightF_prefix l _ i h.2.2.2⟩
theorem rightF_false {size e:Int} {l:List Pc} {i:Nat} (h:rightF size e (l.take i)=false):rightF size e l=false:=by
 cases hh:rightF size e l with
 | false=>rfl
 | true=>rw [rightF_prefix l e i hh] at h;cases h
theorem rightF_end {size:Int}:∀ (l:List Pc) (e:Int),rightF size e l=true→e≤endE e l∧(l≠[]→endE e l≤size)
 | [],e,h=>⟨Int.le_refl _,fun h=>absurd rfl h⟩
 | p :: l,e,h=>by
  rw [rightF_cons] at h
  have ih:=rightF_end l _ h.2.2.2
  refine ⟨?_,fun _=>?_⟩
  ·simp only [endE];omega
  ·simp only [endE]
   by_cases hl:l=[]
   ·subst hl;simp only [endE];omega
   ·exact ih.2 hl
theorem sizeF_snoc (p:Pc):∀ (l:List Pc) (a:Int),sizeF a (l++[p])=wrap64 (sizeF a l+p.2)
 | [],a=>rfl
 | q :: l,a=>sizeF_snoc p l _
theorem sizeF_take {l:List Pc} {i:Nat} {p:Pc} (h:l[i]?=some p) (a:Int):sizeF a (l.take (i+1))=wrap64 (sizeF a (l.take i)+p.2):=by
 rw [List.take_add_one,h];exact sizeF_snoc p _ a
end Go.Proofs.YtdjcjaidklgamaaGreatDoor
end
section
namespace Go.Proofs.YtdjcjaidklgamaaGreatDoor
set_option linter.unusedVariables false
def bump (l:List Pc) (c:Int):List Pc:=match l.getLast? with
 | none=>l
 | some p=>l.dropLast++[(p.1,p.2+c)]
def prevB (f:Nat→Bool):Nat→Bool
 | 0=>false
 | i+1=>f i
def runs (f:Nat→Bool):Nat→List Pc
 | 0=>[]
 | i+1=>if f i=true then (if prevB f i=true then bump (runs f i) 1 else runs f i++[((i:Int),1)]) else runs f i
end Go.Proofs.YtdjcjaidklgamaaGreatDoor
end
section
namespace Go.Proofs.YtdjcjaidklgamaaGreatDoor
open Go.RowKit Go.Joins
set_option linter.unusedVariables false
def PiecesAt (W:World) (ad:Option Addr) (l:List Pc):Prop :=
 ∀ (i:Nat) (p:Pc),l[i]?=some p→∃ b off,ad=some ⟨b,off,none⟩∧b<W.heap.size∧W.cell? ⟨b,off+i * 2,none⟩=some (.int .i64 p.1)∧W.cell? ⟨b,off+i * 2+1,none⟩=some (.int .i64 p.2)
theorem PiecesAt.below {W W':World} {ad:Option Addr} {l:List Pc} (h:PiecesAt W ad l) (hb:Below W.heap.size W W'):PiecesAt W' ad l:=fun i p hi=>by
 obtain ⟨b,off,h1,h2,h3,h4⟩:=h i p hi
 exact ⟨b,off,h1,Nat.lt_of_lt_of_le h2 hb.size,(hb.cell (p:=⟨b,off+i * 2,none⟩) h2).trans h3,(hb.cell (p:=⟨b,off+i * 2+1,none⟩) h2).trans h4⟩
def RowAt (W:World) (b off:Nat) (l:List Pc):Prop :=
 ∀ (i:Nat) (p:Pc),l[i]?=some p→W.cell? ⟨b,off+i * 2,none⟩=some (.int .i64 p.1)∧W.cell? ⟨b,off+i * 2+1,none⟩=some (.int .i64 p.2)
theorem RowAt.below {W W':World} {b off:Nat} {l:List Pc} (hlt:b<W.heap.size) (h:RowAt W b off l) (hb:Below W.heap.size W W'):RowAt W' b off l:=fun i p hi=>by
 obtain ⟨h3,h4⟩:=h i p hi
 exact ⟨(hb.cell (p:=⟨b,off+i * 2,none⟩) hlt).trans h3,(hb.cell (p:=⟨b,off+i * 2+1,none⟩) hlt).trans h4⟩
theorem PiecesAt.cases {W:World} {ad:Option Addr} {l:List Pc} (h:PiecesAt W ad l):l=[]∨∃ b off,ad=some ⟨b,off,none⟩∧b<W.heap.size∧RowAt W b off l:=by
 cases l with
 | nil=>exact Or.inl rfl
 | cons q l =>
  right
  obtain ⟨b,off,h1,h2,_⟩:=h 0 q rfl
  refine ⟨b,off,h1,h2,fun i p hi=>?_⟩
  obtain ⟨b',off',h1',_,h3,h4⟩:=h i p hi
  rw [h1] at h1'
  cases h1'
  exact ⟨h3,h4⟩
def Fits (l:List Pc):Prop:=∀ p∈l,(-9223372036854775808≤p.1∧p.1≤9223372036854775807)∧(-9223372036854775808≤p.2∧p.2≤9223372036854775807)
theorem spot_of_cell {w:World} {a:Addr} {v:Value} (h:w.cell? a=some v):a.spot=none:=by
 unfold World.cell? at h
 split at h
 ·cases hs:a.spot with
  | none=>rfl
  | some x=>rw [hs] at h;simp at h
 ·cases h
set_option maxHeartbeats 2000000 in
theorem sizeA_any (ad:Option Addr) (cap:Nat) (l:List Pc) (hl:l.length≤maxLen) (hF:Fits l) (w:World) (hM:PiecesAt w ad l) :
  Calls Tryz.prog 95 #[.slice ad l.length cap] w fun e w'=>e=.returned (.int .i64 (sizeF 0 l))∧Below w.heap.size w w':=by
 unfold maxLen at hl
 rcases hM.cases with rfl|⟨b,off,rfl,hlt,hR⟩
 ·clear hM hF
  go_enter Tryz.func95,Tryz.ntmps95
  go_wp2
  refine wp_loop_rounds 1 ?_
  rw [rounds_succ]
  go_wp2
  go_ret
  exact ⟨rfl,Below.refl _ _⟩
 ·clear hM
  have HR:=Lib.hid (fun w' hb=>RowAt.below (W':=w') hlt hR hb)
  have HF:=Lib.hid hF
  clear hR hF hlt
  go_enter Tryz.func95,Tryz.ntmps95
  go_wp2
  go_loopg [3,8] l.length (fun g s2 s8 wr=>∃ i:Nat,i≤l.length∧l.length - i≤g∧s2=.int .i64 (sizeF 0 (l.take i))∧s8=.int .i64 i∧Aside (Below w.heap.size w wr))
  case atStart=>exact ⟨0,by omega,by omega,rfl,rfl,(show Aside _ from Below.refl _ _)⟩
  case round =>
   obtain ⟨i,hi,hg,rfl,rfl,A⟩:=hrel
   by_cases hil:i<l.length
   ·obtain ⟨p,hp⟩:∃ p,l[i]?=some p:=⟨_,List.getElem?_eq_getElem hil⟩
    obtain ⟨c1,c2⟩:=HR.out wr A.out i p hp
    have hF:=HF.out p (List.mem_of_getElem? hp)
    have HS:=Lib.hid (sizeF_take hp 0)
    clear hp
    go_wp2
    go_roundg (l.length - (i+1))
    case measure=>omega
    case rel=>exact ⟨i+1,by omega,by omega,by rw [HS.out],by first|rfl|simp,(show Aside _ from A.out.alloc A.out.size _)⟩
   ·go_wp2
    go_ret
    rw [List.take_of_length_le (by omega)]
    exact ⟨rfl,A.out⟩
theorem mapRight_false_size {l:List Pc} {size:Int} (h:size<0):mapRight l size=false:=by
 unfold mapRight;rw [decide_eq_false (by omega),Bool.false_and]
theorem mapRight_false_long {l:List Pc} {size:Int} (h:20<l.length):mapRight l size=false:=by
 unfold mapRight;rw [decide_eq_false (by omega:¬ l.length≤20),Bool.false_and,Bool.and_false]
theorem mapRight_false_at {l:List Pc} {size:Int} {i:Nat} {p:Pc} (hp:l[i]?=some p) (h:p.1≤endE (-1) (l.take i)∨p.2<1∨size - p.1<p.2):mapRight l size=false:=by
 unfold mapRight
 have:rightF size (-1) l=false:=rightF_false (i:=i+1) (by
  cases hh:rightF size (-1) (l.take (i+1)) with
  | false=>rfl
  | true=>have:=(rightF_take hp).1 hh;omega)
 rw [this,Bool.and_false,Bool.and_false]
theorem mapRight_true {l:List Pc} {size:Int} (h0:0≤size) (h1:l.length≤20) (h2:rightF size (-1) l=true):mapRight l size=true:=by
 unfold mapRight;rw [decide_eq_true h0,decide_eq_true h1,h2];rfl
theorem mapRight_nil {size:Int} (h:0≤size):mapRight [] size=true:=mapRight_true h (by simp) rfl
set_option maxHeartbeats 2000000 in
theorem rightA_any (ad:Option Addr) (cap:Nat) (l:List Pc) (size:Int) (hs:-9223372036854775808≤size∧size≤9223372036854775807) (hl:l.length≤maxLen) (hF:Fits l) (w:World) (hM:PiecesAt w ad l) :
  Calls Tryz.prog 94 #[.slice ad l.length cap,.int .i64 size] w fun e w'=>e=.returned (.bool (mapRight l size))∧Below w.heap.size w w':=by
 unfold maxLen at hl
 by_cases h0:size<0
 ·rw [mapRight_false_size h0]
  clear hM hF
  go_enter Tryz.func94,Tryz.ntmps94
  go_wp2
  go_ret
  exact ⟨rfl,Below.refl _ _⟩
 by_cases h20:(20:Int)<(l.length:Int)
 ·rw [mapRight_false_long (by omega)]
  clear hM hF
  go_enter Tryz.func94,Tryz.ntmps94
  go_wp2
  go_ret
  exact ⟨rfl,Below.refl _ _⟩
 rcases hM.cases with rfl|⟨b,off,rfl,hlt,hR⟩
 ·rw [mapRight_nil (by omega)]
  clear hM hF
  go_enter Tryz.func94,Tryz.ntmps94
  go_wp2
  refine wp_loop_rounds 1 ?_
  rw [rounds_succ]
  go_wp2
  go_ret
  exact ⟨rfl,Below.refl _ _⟩
 ·clear hM
  have HR:=Lib.hid (fun w' hb=>RowAt.below (W':=w') hlt hR hb)
  have HF:=Lib.hid hF
  clear hR hF hlt
  go_enter Tryz.func94,Tryz.ntmps94
  go_wp2
  go_loopg [5,17] l.length (fun g s2 s8 wr=>∃ i:Nat,i≤l.length∧l.length - i≤g∧s2=.int .i64 (endE (-1) (l.take i))∧s8=.int .i64 i∧Aside (Below w.heap.size w wr∧rightF size (-1) (l.take i)=true))
  case atStart=>exact ⟨0,by omega,by omega,rfl,rfl,(show Aside _ from ⟨Below.refl _ _,rfl⟩)⟩
  case round =>
   obtain ⟨i,hi,hg,rfl,rfl,A⟩:=hrel
   by_cases hil:i<l.length
   ·obtain ⟨p,hp⟩:∃ p,l[i]?=some p:=⟨_,List.getElem?_eq_getElem hil⟩
    obtain ⟨c1,c2⟩:=HR.out wr A.out.1 i p hp
    have hF:=HF.out p (List.mem_of_getElem? hp)
    have hlow:=(rightF_end _ _ A.out.2).1
    generalize hE:endE (-1) (l.take i)=E at hlow
    by_cases hbad:p.1≤E∨p.2<1∨size - p.1<p.2
    ·have HX:=Lib.hid (mapRight_false_at (size:=size) hp (by rw [hE];exact hbad))
     clear hE hp
     by_cases h1:p.1≤E
     ·go_wp2
      go_ret
      exact ⟨by rw [HX.out];rfl,A.out.1.alloc A.out.1.size _⟩
     by_cases h2:p.2<1
     ·go_wp2
      go_ret
      exact ⟨by rw [HX.out];rfl,A.out.1.alloc A.out.1.size _⟩
     have h3:size - p.1<p.2:=by omega
     go_wp2
     go_ret
     exact ⟨by rw [HX.out];rfl,A.out.1.alloc A.out.1.size _⟩
    ·have h1:E<p.1:=by omega
     have h2:1≤p.2:=by omega
     have h3:p.2≤size - p.1:=by omega
     have HS:=Lib.hid (endE_take hp (-1))
     have HT:=Lib.hid ((rightF_take hp).2 ⟨A.out.2,by rw [hE];exact h1,h2,h3⟩)
     clear hbad hE hp
     go_wp2
     go_roundg (l.length - (i+1))
     case measure=>omega
     case rel=>exact ⟨i+1,by omega,by omega,by rw [HS.out],by first|rfl|simp,(show Aside _ from ⟨A.out.1.alloc A.out.1.size _,HT.out⟩)⟩
   ·go_wp2
    go_ret
    have hr:=A.out.2
    rw [List.take_of_length_le (by omega)] at hr
    rw [mapRight_true (by omega) (by omega) hr]
    exact ⟨rfl,A.out.1⟩
end Go.Proofs.YtdjcjaidklgamaaGreatDoor
end
section
namespace Go.Proofs.YtdjcjaidklgamaaGreatDoor
open Go.RowKit Go.Joins
set_option linter.unusedVariables false
theorem idx_piece (w:World) (b off n cap k:Nat) (h:k<n):(Instr.indexAt 24 (.slice (some ⟨b,off,none⟩) n cap) (.int .i64 (k:Int))).run Tryz.prog w=.ok (.pointer (some ⟨b,off+k * 2,none⟩)) w:=by
 have he:Tryz.prog.elem 24=77:=by kernel_rfl
 rw [run_indexAt_slice w 24 _ _ _ _ _ (by rw [he];exact Tryz.underlying24),if_pos ⟨by omega,by omega⟩,he]
 have hs:(sizeOf 77).run Tryz.prog w=.ok 2 w:=by rw [sizeOf];go_simp;kernel_rfl
 rw [hs]
 simp [Result.andThen,Go.WideShapes.add_plain]
end Go.Proofs.YtdjcjaidklgamaaGreatDoor
end
