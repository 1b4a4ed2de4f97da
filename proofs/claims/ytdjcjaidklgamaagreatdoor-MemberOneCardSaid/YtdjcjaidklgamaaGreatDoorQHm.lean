import Derived.Test.YtdjcjaidklgamaaGreatDoorQBa
import Derived.Deep.Fields
import Derived.SizedLaws
import Derived.WideShapes
import Derived.ChangeSame
import Derived.Laws.StructEq
import Derived.Lib.QuietBelow
import Derived.BigQuiet
import Derived.Lib.Split
import Derived.Lib.Join
import Derived.Lib.MinMax
set_option linter.unusedSimpArgs false
set_option linter.unusedVariables false
section
namespace Go.Proofs.YtdjcjaidklgamaaGreatDoor
open Go.RowKit Go.Joins Go.ChangeShapes Go.WideShapes Go.Deep
set_option linter.unusedVariables false
structure RawL where
 name:List UInt8
 link:List UInt8
 user:List UInt8
 group:List UInt8
 front:List UInt8
 kind:UInt8
 mode:Int
 uid:Int
 gid:Int
 size:Int
 time:Int
 major:Int
 minor:Int
 deriving DecidableEq
def i64 (n:Int):Prop:=-9223372036854775808≤n∧n≤9223372036854775807
def intsL (r:RawL):Prop:=i64 r.mode∧i64 r.uid∧i64 r.gid∧i64 r.size∧i64 r.time∧i64 r.major∧i64 r.minor
abbrev rawV (r:RawL):Value:=.agg #[.string (mkS r.name),.string (mkS r.link),.string (mkS r.user),.string (mkS r.group),.string (mkS r.front),.int .u8 (r.kind.toNat:Int),.int .i64 r.mode,.int .i64 r.uid,.int .i64 r.gid,.int .i64 r.size,.int .i64 r.time,.int .i64 r.major,.int .i64 r.minor]
theorem u8_of {n:Int} (h:(Lit.int .u8 n).wf=true):∃ c:UInt8,n=(c.toNat:Int):=by
 have h2:0≤n∧n≤255:=by simpa [Lit.wf,IntKind.min,IntKind.max,IntKind.signed,IntKind.bits] using h
 exact ⟨UInt8.ofNat n.toNat,by rw [UInt8.toNat_ofNat'];omega⟩
theorem i64_of {n:Int} (h:(Lit.int .i64 n).wf=true):i64 n:=by
 unfold i64
 simpa [Lit.wf,IntKind.min,IntKind.max,IntKind.signed,IntKind.bits] using h
section
variable {H:Type} {enc:TypeId × Value→H} {P:Program} {w:World} {base:Nat} {spare:Nat→Bool} {held:Bool}
end
end Go.Proofs.YtdjcjaidklgamaaGreatDoor
end
section
namespace Go.Proofs.YtdjcjaidklgamaaGreatDoor
open Go.RowKit Go.Joins
set_option linter.unusedVariables false
set_option linter.unusedSimpArgs false
theorem kind_beq (a b:UInt8):((a.toNat:Int)==(b.toNat:Int))=decide (a=b):=by
 by_cases h:a=b
 ·simp [h]
 ·have:¬ (a.toNat:Int)=b.toNat:=fun k=>h (UInt8.toNat_inj.1 (by omega))
  simp [h,this]
theorem text_beq (x y:List UInt8):((mkS x).toList==(mkS y).toList)=decide (x=y):=by
 rw [ByteArray.toList_eq,ByteArray.toList_eq,mkS_list,mkS_list]
 by_cases h:x=y <;> simp [h]
set_option maxHeartbeats 2000000 in
theorem raw_neq (a b:RawL) (w:World):(binOp .neq 117 (rawV a) (rawV b)).run Tryz.prog w=.ok (.bool (!decide (a=b))) w:=by
 have hS:Tryz.prog.underlying 117=some (.struct (Tryz.prog.fieldsOf 117)):=by kernel_rfl
 have hp:Tryz.prog.stoodInHeld 117=false:=by kernel_rfl
 have e1:=text_beq
 have e2:=kind_beq
 rw [run_neq_struct,show (10000:Nat)=9999+1 from rfl,run_equalIn_agg w 9999 117 _ _ hS hp]
 simp only [Program.fieldsOf,Tryz.underlying117]
 obtain ⟨a0,a1,a2,a3,a4,a5,a6,a7,a8,a9,a10,a11,a12⟩:=a
 obtain ⟨b0,b1,b2,b3,b4,b5,b6,b7,b8,b9,b10,b11,b12⟩:=b
 simp only [RawL.mk.injEq]
 go_simp
 by_cases h0:a0=b0
 case neg=>simp [h0]
 subst h0
 by_cases h1:a1=b1
 case neg=>simp [h1]
 subst h1
 by_cases h2:a2=b2
 case neg=>simp [h2]
 subst h2
 by_cases h3:a3=b3
 case neg=>simp [h3]
 subst h3
 by_cases h4:a4=b4
 case neg=>simp [h4]
 subst h4
 by_cases h5:a5=b5
 case neg=>simp [h5]
 subst h5
 by_cases h6:a6=b6
 case neg=>simp [h6]
 subst h6
 by_cases h7:a7=b7
 case neg=>simp [h7]
 subst h7
 by_cases h8:a8=b8
 case neg=>simp [h8]
 subst h8
 by_cases h9:a9=b9
 case neg=>simp [h9]
 subst h9
 by_cases h10:a10=b10
 case neg=>simp [h10]
 subst h10
 by_cases h11:a11=b11
 case neg=>simp [h11]
 subst h11
 by_cases h12:a12=b12
 case neg=>simp [h12]
 subst h12
 simp
theorem raw_guard (op:BinOp) (x y:Operand) (a b:RawL) (w:World):(eqGuard op 117 x y (rawV a) (rawV b)).run Tryz.prog w=.ok () w :=
 run_eqGuard_agg w op 117 x y _ _ (by kernel_rfl)
end Go.Proofs.YtdjcjaidklgamaaGreatDoor
end
section
namespace Go.Proofs.YtdjcjaidklgamaaGreatDoor
open Go.RowKit Go.Joins
set_option linter.unusedVariables false
set_option linter.unusedSimpArgs false
def RawAt (w:World) (b:Nat) (r:RawL):Prop:=w.cell? ⟨b,0,none⟩=some (.string (mkS r.name))∧w.cell? ⟨b,1,none⟩=some (.string (mkS r.link))∧w.cell? ⟨b,2,none⟩=some (.string (mkS r.user))∧w.cell? ⟨b,3,none⟩=some (.string (mkS r.group))∧w.cell? ⟨b,4,none⟩=some (.string (mkS r.front))∧w.cell? ⟨b,5,none⟩=some (.int .u8 (r.kind.toNat:Int))∧w.cell? ⟨b,6,none⟩=some (.int .i64 r.mode)∧w.cell? ⟨b,7,none⟩=some (.int .i64 r.uid)∧w.cell? ⟨b,8,none⟩=some (.int .i64 r.gid)∧w.cell? ⟨b,9,none⟩=some (.int .i64 r.size)∧w.cell? ⟨b,10,none⟩=some (.int .i64 r.time)∧w.cell? ⟨b,11,none⟩=some (.int .i64 r.major)∧w.cell? ⟨b,12,none⟩=some (.int .i64 r.minor)
theorem RawAt.lt {w:World} {b:Nat} {r:RawL} (h:RawAt w b r):b<w.heap.size:=block_lt_of_cell h.1
theorem RawAt.below {w w':World} {b B:Nat} {r:RawL} (h:RawAt w b r) (hb:Below B w w') (hB:b<B):RawAt w' b r:=by
 unfold RawAt at h ⊢
 simp only [hb.cell (p:=⟨b,_,none⟩) hB]
 exact h
theorem RawAt.of_row {w:World} {b:Nat} {r:RawL} {t:TypeId} {fr:Nat × Nat} (h:w.heap[b]?=some (.cells #[.string (mkS r.name),.string (mkS r.link),.string (mkS r.user),.string (mkS r.group),.string (mkS r.front),.int .u8 (r.kind.toNat:Int),.int .i64 r.mode,.int .i64 r.uid,.int .i64 r.gid,.int .i64 r.size,.int .i64 r.time,.int .i64 r.major,.int .i64 r.minor] t fr)):RawAt w b r:=by
 unfold RawAt
 refine ⟨?_,?_,?_,?_,?_,?_,?_,?_,?_,?_,?_,?_,?_⟩ <;> (simp only [World.cell?,h];rfl)
theorem RawAt.new (w:World) (r:RawL) (t:TypeId):RawAt (w.alloc (.cells #[.string (mkS r.name),.string (mkS r.link),.string (mkS r.user),.string (mkS r.group),.string (mkS r.front),.int .u8 (r.kind.toNat:Int),.int .i64 r.mode,.int .i64 r.uid,.int .i64 r.gid,.int .i64 r.size,.int .i64 r.time,.int .i64 r.major,.int .i64 r.minor] t)) w.heap.size r:=RawAt.of_row (heap_alloc_new w _)
theorem RawAt.regrown {w:World} {b:Nat} {r:RawL} (h:RawAt w b r) (d:Nat) (os:Array Obj):RawAt (Sort.grow (redrawn w d) os) b r:=h.below (below_regrown w d os) h.lt
end Go.Proofs.YtdjcjaidklgamaaGreatDoor
end
section
namespace Go.Proofs.YtdjcjaidklgamaaGreatDoor
set_option linter.unusedVariables false
def piecesL:List UInt8→List (List UInt8)
 | []=>[[]]
 | c :: r=>if c=47 then [] :: piecesL r else match piecesL r with
  | []=>[[c]]
  | p :: ps=>(c :: p) :: ps
abbrev St:=List (List UInt8) × Bool
def goodPiece (p:List UInt8):Bool:=!(p==[])&&!(p==[46])&&!(p==[46,46])
def rightB (l:List UInt8):Bool:=decide (l≠[]∧l.length≤120∧(0:UInt8) ∉ l∧(piecesL l).all goodPiece=true∧(piecesL l).length≤12)
def halfAt (l:List UInt8) (i:Nat):Prop:=1≤i∧i≤155∧l[i]?=some 47∧1≤l.length - (i+1)∧l.length - (i+1)≤100
def HalfIs (l a b:List UInt8) (ok:Bool):Prop :=
 (l.length≤100∧a=[]∧b=l∧ok=true) ∨
 (100<l.length∧((∃ i,halfAt l i∧(∀ j,j<i→¬ halfAt l j)∧a=l.take i∧b=l.drop (i+1)∧ok=true)∨((∀ i,¬ halfAt l i)∧a=[]∧b=[]∧ok=false)))
theorem HalfIs.unique {l a b a' b':List UInt8} {k k':Bool} (h:HalfIs l a b k) (h':HalfIs l a' b' k'):a=a'∧b=b'∧k=k':=by
 rcases h with ⟨h0,rfl,rfl,rfl⟩|⟨h0,h⟩
 ·rcases h' with ⟨_,rfl,rfl,rfl⟩|⟨h1,_⟩
  ·exact ⟨rfl,rfl,rfl⟩
  ·omega
 ·rcases h' with ⟨h1,_⟩|⟨_,h'⟩
  ·omega
  ·rcases h with ⟨i,hi,hl,rfl,rfl,rfl⟩|⟨hn,rfl,rfl,rfl⟩
   ·rcases h' with ⟨j,hj,hl',rfl,rfl,rfl⟩|⟨hn',_⟩
    ·obtain rfl:i=j:=by
      by_cases h1:i<j
      ·exact absurd hi (hl' i h1)
      ·by_cases h2:j<i
       ·exact absurd hj (hl j h2)
       ·omega
     exact ⟨rfl,rfl,rfl⟩
    ·exact absurd hi (hn' i)
   ·rcases h' with ⟨j,hj,_⟩|⟨_,rfl,rfl,rfl⟩
    ·exact absurd hj (hn j)
    ·exact ⟨rfl,rfl,rfl⟩
end Go.Proofs.YtdjcjaidklgamaaGreatDoor
end
section
namespace Go.Proofs.YtdjcjaidklgamaaGreatDoor
open Go.RowKit Go.Joins
set_option linter.unusedVariables false
def HalfPost (l:List UInt8) (w:World) (e:Ending) (w':World):Prop :=
 ∃ a b k,HalfIs l a b k∧e=.returned (.tuple #[.string (mkS a),.string (mkS b),.bool k])∧(w'=w∨w'=w.drew)
theorem half_ret {l:List UInt8} {w w':World} {x y:ByteArray} {k:Bool} (a b:List UInt8) (h:HalfIs l a b k) (hx:x=mkS a) (hy:y=mkS b) (hw:(w'=w∨w'=w.drew)) :
  HalfPost l w (.returned (.tuple #[.string x,.string y,.bool k])) w':=⟨a,b,k,h,by rw [hx,hy],hw⟩
theorem ext_onward (l:List UInt8) (j:Nat):(mkS l).extract j l.length=mkS (l.drop j):=by
 rw [← mkS_self ((mkS l).extract j l.length),Lib.extract_data,mkS_list]
 rw [List.take_of_length_le (by simp)]
set_option maxHeartbeats 2000000 in
theorem split_any (l:List UInt8) (hl:l.length≤1000000) (w:World) :
  Calls Tryz.prog 82 #[.string (mkS l)] w (HalfPost l w):=by
 have s1:=mkS_size l
 by_cases h100:l.length≤100
 ·have H:=Lib.hid (show HalfIs l [] l true from .inl ⟨h100,rfl,rfl,rfl⟩)
  go_enter Tryz.func82,Tryz.ntmps82
  go_wp2
  go_ret3
  exact half_ret _ _ H.out rfl rfl (Or.inl rfl)
 ·obtain ⟨F,hF⟩:∃ F:Nat,max (1:Int) ((l.length:Int) - 1 - 100)=(F:Int):=⟨(max (1:Int) ((l.length:Int) - 1 - 100)).toNat,by omega⟩
  obtain ⟨T,hT⟩:∃ T:Nat,min (155:Int) ((l.length:Int) - 2)=(T:Int):=⟨(min (155:Int) ((l.length:Int) - 2)).toNat,by omega⟩
  have hF1:1≤F:=by omega
  have hF2:l.length≤F+101:=by omega
  have hF3:F≤1∨F+101≤l.length:=by omega
  have hT1:T≤155:=by omega
  have hT2:T+2≤l.length:=by omega
  have hT3:155≤T∨l.length≤T+2:=by omega
  go_enter Tryz.func82,Tryz.ntmps82
  go_wp2
  clear hF hT
  go_loop [7] (fun s=>∃ k:Nat,F≤k∧k≤1000001∧s=.int .i64 (k:Int)∧∀ j,j<k→¬ halfAt l j) (fun s=>T+1 - (intOf s).toNat)
  case atStart=>exact ⟨F,by omega,by omega,rfl,fun j hj h=>by unfold halfAt at h;omega⟩
  case round =>
   obtain ⟨k,hk,hk2,rfl,hno⟩:=hrel
   by_cases hkT:k≤T
   ·obtain ⟨c,hc⟩:∃ c,l[k]?=some c:=⟨_,List.getElem?_eq_getElem (by omega)⟩
    have hidx:=fun w=>mkS_index l (k:Int) c (by omega) (by simpa using hc) w
    have h1:=fun w=>mkS_upto l k (by omega) w
    have h2:=fun w=>mkS_onward l (k+1) (by omega) w
    have HE:=Lib.hid (ext_onward l (k+1))
    by_cases h47:c=47
    ·subst h47
     have H:=Lib.hid (show HalfIs l (l.take k) (l.drop (k+1)) true from .inr ⟨by omega,.inl ⟨k,⟨by omega,by omega,hc,by omega,by omega⟩,hno,rfl,rfl,rfl⟩⟩)
     clear hno hc
     go_wp2
     go_region
     go_wp2
     go_ret3
     exact half_ret _ _ H.out rfl HE.out (Or.inr rfl)
    ·have hne:((c.toNat:Int)==47)=false:=by
      rw [beq_eq_false_iff_ne]
      intro e
      exact h47 (UInt8.toNat_inj.1 (by show c.toNat=47;omega))
     have HF:Hid (∀ j,j<k+1→¬ halfAt l j):=Lib.hid fun j hj h=>by
      by_cases e:j=k
      ·subst e
       have:=h.2.2.1
       rw [hc] at this
       exact h47 (Option.some.inj this)
      ·exact hno j (by omega) h
     clear hno hc
     go_wp2
     go_round
     case rel=>exact ⟨k+1,by omega,by omega,by go_num,HF.out⟩
     case measure=>simp [intOf];omega
   ·have H:=Lib.hid (show HalfIs l [] [] false from .inr ⟨by omega,.inr ⟨fun i h=>by
     by_cases e:i<k
     ·exact hno i e h
     ·unfold halfAt at h;omega,rfl,rfl,rfl⟩⟩)
    clear hno
    go_wp2
    go_ret3
    exact half_ret _ _ H.out rfl rfl (Or.inl rfl)
end Go.Proofs.YtdjcjaidklgamaaGreatDoor
end
section
namespace Go.Proofs.YtdjcjaidklgamaaGreatDoor
open Go.RowKit Go.Joins
set_option linter.unusedVariables false
end Go.Proofs.YtdjcjaidklgamaaGreatDoor
end
section
namespace Go.Proofs.YtdjcjaidklgamaaGreatDoor
open Go.RowKit Go.Joins
set_option linter.unusedVariables false
set_option linter.unusedSimpArgs false
def sumT (r:RawL):Nat:=r.name.length+r.link.length+r.user.length+r.group.length+r.front.length
def fullL (r:RawL):List UInt8:=if r.front=[] then r.name else r.front++(47 :: r.name)
theorem full_any (r:RawL) (hz:sumT r≤1000000) (w:World) :
  Calls Tryz.prog 165 #[rawV r] w fun e w'=>e=.returned (.string (mkS (fullL r)))∧Below w.heap.size w w':=by
 obtain ⟨a0,a1,a2,a3,a4,a5,a6,a7,a8,a9,a10,a11,a12⟩:=r
 simp only [sumT] at hz
 unfold rawV
 unfold fullL
 simp only
 have c1:∀ w,(Op.stringOp .add (mkS a4) (⟨#[47]⟩:ByteArray)).run Tryz.prog w=.ok (.string (mkS (a4++[47]))) w:=fun w=>mkS_cat2 a4 [47] (by simp;omega) w
 have c2:∀ w,(Op.stringOp .add (mkS (a4++[47])) (mkS a0)).run Tryz.prog w=.ok (.string (mkS (a4++47 :: a0))) w:=fun w=>by
  rw [mkS_cat2 _ _ (by simp;omega) w,List.append_assoc];rfl
 by_cases h:a4=[]
 ·subst h
  have e1:=mkS_emp_nil
  rw [if_pos rfl]
  go_enter Tryz.func165,Tryz.ntmps165
  go_wp2
  go_ret
  exact ⟨rfl,below_alloc1 _ _⟩
 ·have e1:=mkS_emp a4 h
  rw [if_neg h]
  go_enter Tryz.func165,Tryz.ntmps165
  go_wp2
  go_ret
  exact ⟨rfl,below_alloc1 _ _⟩
inductive NamedIs:Int→RawL→List UInt8→RawL→Bool→Prop
 | parted (d:Int) (r:RawL) (n a b:List UInt8) (k:Bool):d=2∨d=4→HalfIs n a b k→NamedIs d r n { r with front:=a,name:=b } k
 | whole (d:Int) (r:RawL) (n:List UInt8):¬ (d=2∨d=4)→NamedIs d r n { r with front:=[],name:=n } (decide (n.length≤100))
def NamedPost (d:Int) (r:RawL) (n:List UInt8) (w:World) (e:Ending) (w':World):Prop :=
 ∃ q k,NamedIs d r n q k∧e=.returned (.tuple #[rawV q,.bool k])∧Below w.heap.size w w'
theorem mkS_nil':mkS []=⟨#[]⟩:=rfl
set_option maxHeartbeats 4000000 in
theorem named_any (d:Int) (r:RawL) (n:List UInt8) (hn:n.length≤1000000) (w:World) :
  Calls Tryz.prog 113 #[rawV r,.int .i64 d,.string (mkS n)] w (NamedPost d r n w):=by
 obtain ⟨a0,a1,a2,a3,a4,a5,a6,a7,a8,a9,a10,a11,a12⟩:=r
 have s1:=mkS_size n
 have C1:=Lib.hid (fun w=>split_any n hn w)
 unfold rawV
 simp only
 by_cases h:d=2∨d=4
 ·rcases h with rfl|rfl
  all_goals
   go_enter Tryz.func113,Tryz.ntmps113
   go_wp2_with fail
   go_at_call 82
   refine (C1.out _).mono ?_
   rintro e w1 ⟨x,y,k,hI,rfl,h1⟩
   have HI:=Lib.hid hI
   clear hI
   rcases h1 with rfl|rfl
   all_goals
    go_wp2
    refine bodyPost_ret (v:=.tuple #[rawV ⟨y,a1,a2,a3,x,a5,a6,a7,a8,a9,a10,a11,a12⟩,.bool k]) (by simp [results,Tryz.results113,go_sem]) rfl ?_
    refine ⟨_,k,.parted _ _ n x y k (by decide) HI.out,rfl,?_⟩
    first|exact below_alloc1 _ _|exact below_alloc2 _ _ _|exact (below_alloc1 _ _).drew|exact (below_alloc2 _ _ _).drew
 ·have h2:¬ d=2:=fun e=>h (Or.inl e)
  have h4:¬ d=4:=fun e=>h (Or.inr e)
  have hd:=Lib.hid h
  have b2:(d==2)=false:=beq_eq_false_iff_ne.2 h2
  have b4:(d==4)=false:=beq_eq_false_iff_ne.2 h4
  clear h
  go_enter Tryz.func113,Tryz.ntmps113
  go_wp2
  refine bodyPost_ret (v:=.tuple #[rawV ⟨n,a1,a2,a3,[],a5,a6,a7,a8,a9,a10,a11,a12⟩,.bool (decide (n.length≤100))]) ?_ rfl ?_
  ·have hk:decide ((n.length:Int)≤100)=decide (n.length≤100):=by congr 1;exact propext (by omega)
   simp [results,Tryz.results113,go_sem,← hk,mkS_nil',rawV]
  refine ⟨_,_,.whole d _ n hd.out,rfl,?_⟩
  first|exact below_alloc1 _ _|exact below_alloc2 _ _ _|exact (below_alloc1 _ _).drew|exact (below_alloc2 _ _ _).drew
end Go.Proofs.YtdjcjaidklgamaaGreatDoor
end
section
namespace Go.Proofs.YtdjcjaidklgamaaGreatDoor
open Go.RowKit Go.Joins
set_option linter.unusedVariables false
set_option linter.unusedSimpArgs false
end Go.Proofs.YtdjcjaidklgamaaGreatDoor
end
