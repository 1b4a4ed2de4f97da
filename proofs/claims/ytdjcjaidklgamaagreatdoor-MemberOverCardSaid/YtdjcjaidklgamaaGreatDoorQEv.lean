import Derived.Test.YtdjcjaidklgamaaGreatDoorQMw
import Derived.Laws.StructEq
import Derived.Handy
import Derived.Test.YtdjcjaidklgamaaGreatDoorQKa
import Derived.Test.YtdjcjaidklgamaaGreatDoorQXp
set_option linter.unusedSimpArgs false
set_option linter.unusedVariables false
section
namespace Go.Proofs.YtdjcjaidklgamaaGreatDoor
open Go.RowKit Go.Joins
theorem kindE_beq (a b:UInt8):((a.toNat:Int)==(b.toNat:Int))=decide (a=b):=by
 by_cases h:a=b
 ·simp [h]
 ·have:¬ (a.toNat:Int)=b.toNat:=fun k=>h (UInt8.toNat_inj.1 (by omega))
  simp [h,this]
theorem textE_beq (x y:List UInt8):((mkS x).toList==(mkS y).toList)=decide (x=y):=by
 rw [ByteArray.toList_eq,ByteArray.toList_eq,mkS_list,mkS_list]
 by_cases h:x=y <;> simp [h]
theorem timeE_eql (s n s' n':Int) (w:World):(binOp .eql 23 (.agg #[.int .i64 s,.int .i64 n]) (.agg #[.int .i64 s',.int .i64 n'])).run Tryz.prog w=.ok (.bool (decide (s=s'∧n=n'))) w:=by
 have u3:=Tryz.underlying3
 have a3:=Tryz.isAgg3
 have z3:=Tryz.sizeOf3
 have hS:Tryz.prog.underlying 23=some (.struct (Tryz.prog.fieldsOf 23)):=by kernel_rfl
 have hp:Tryz.prog.stoodInHeld 23=false:=by kernel_rfl
 rw [run_eql_struct,show (10000:Nat)=9999+1 from rfl,run_equalIn_agg w 9999 23 _ _ hS hp]
 simp only [Program.fieldsOf,Tryz.underlying23]
 go_simp
 by_cases h1:s=s' <;> by_cases h2:n=n' <;> simp [h1,h2]
theorem timeE_guard (op:BinOp) (a b:Operand) (s n s' n':Int) (w:World):(eqGuard op 23 a b (.agg #[.int .i64 s,.int .i64 n]) (.agg #[.int .i64 s',.int .i64 n'])).run Tryz.prog w=.ok () w :=
 run_eqGuard_agg w op 23 a b _ _ (by kernel_rfl)
abbrev pcE (p:Pc):Value:=.agg #[.int .i64 p.1,.int .i64 p.2]
theorem pieceE_neq (p q:Pc) (w:World):(binOp .neq 77 (pcE p) (pcE q)).run Tryz.prog w=.ok (.bool (!decide (p=q))) w:=by
 have u3:=Tryz.underlying3
 have a3:=Tryz.isAgg3
 have z3:=Tryz.sizeOf3
 have hS:Tryz.prog.underlying 77=some (.struct (Tryz.prog.fieldsOf 77)):=by kernel_rfl
 have hp:Tryz.prog.stoodInHeld 77=false:=by kernel_rfl
 obtain ⟨p1,p2⟩:=p
 obtain ⟨q1,q2⟩:=q
 rw [run_neq_struct,show (10000:Nat)=9999+1 from rfl,run_equalIn_agg w 9999 77 _ _ hS hp]
 simp only [Program.fieldsOf,Tryz.underlying77,Prod.mk.injEq]
 go_simp
 by_cases h1:p1=q1 <;> by_cases h2:p2=q2 <;> simp [h1,h2]
theorem pieceE_guard (op:BinOp) (a b:Operand) (p q:Pc) (w:World):(eqGuard op 77 a b (pcE p) (pcE q)).run Tryz.prog w=.ok () w :=
 run_eqGuard_agg w op 77 a b _ _ (by kernel_rfl)
theorem takes_step {α:Type} {l m:List α} {i:Nat} (h:l.take i=m.take i) {x y:α} (hx:l[i]?=some x) (hy:m[i]?=some y):(x=y→l.take (i+1)=m.take (i+1))∧(x≠y→l≠m):=by
 refine ⟨fun e=>?_,fun hn e=>hn ?_⟩
 ·subst e
  rw [List.take_add_one,List.take_add_one,h,hx,hy]
 ·subst e
  rw [hx] at hy
  exact Option.some.inj hy
set_option maxHeartbeats 4000000 in
theorem equal_pieces (a1 a2:Option Addr) (c1 c2:Nat) (M N:List Pc) (hl:M.length≤1000000) (hl2:N.length≤1000000) (w:World) (h1:PiecesAt w a1 M) (h2:PiecesAt w a2 N) :
  Calls Tryz.prog 44 #[.slice a1 M.length c1,.slice a2 N.length c2] w fun e w'=>e=.returned (.bool (decide (M=N)))∧Below w.heap.size w w':=by
 by_cases hle:M.length=N.length
 ·obtain ⟨n,hn⟩:∃ n,M.length=n:=⟨_,rfl⟩
  have hn2:N.length=n:=by omega
  have H1:=Lib.hid (fun w' hb=>PiecesAt.below (W':=w') h1 hb)
  have H2:=Lib.hid (fun w' hb=>PiecesAt.below (W':=w') h2 hb)
  have HN:=Lib.hid hn
  have HN2:=Lib.hid hn2
  rw [hn,hn2]
  rw [hn] at hl
  clear h1 h2 hle hn hn2 hl2
  obtain ⟨Z,hZ⟩:∃ Z:Bool,decide (M=N)=Z:=⟨_,rfl⟩
  rw [hZ]
  have HZ:=Lib.hid hZ
  clear hZ
  go_enter Tryz.func44,Tryz.ntmps44
  go_wp2
  go_loopg [13] n (fun g s5 wr=>∃ i:Nat,i≤n∧n - i≤g∧s5=.int .i64 i∧Aside (Below w.heap.size w wr)∧Aside (M.take i=N.take i))
  case atStart=>exact ⟨0,by omega,by omega,rfl,Below.refl _ _,rfl⟩
  case round =>
   obtain ⟨i,hi,hg,rfl,A,T⟩:=hrel
   by_cases hil:i<n
   ·obtain ⟨p,hp⟩:∃ p,M[i]?=some p:=⟨_,List.getElem?_eq_getElem (by rw [HN.out];exact hil)⟩
    obtain ⟨q,hq⟩:∃ q,N[i]?=some q:=⟨_,List.getElem?_eq_getElem (by rw [HN2.out];exact hil)⟩
    obtain ⟨b1,o1,e1,_,x1,x2⟩:=H1.out wr A.out i p hp
    obtain ⟨b2,o2,e2,_,y1,y2⟩:=H2.out wr A.out i q hq
    subst e1
    subst e2
    have S:=Lib.hid (takes_step T.out hp hq)
    have AB:=Lib.hid A.out
    have N2:=fun op a b W=>pieceE_guard op a b p q W
    by_cases hpq:p=q
    ·have N1:=fun W=>pieceE_neq p q W
     rw [decide_eq_true hpq] at N1
     have T2:=Lib.hid (S.out.1 hpq)
     clear hp hq A T S hpq
     simp only [Bool.not_true] at N1
     go_wp2
     go_quiet (fail)
     go_wp2
     go_roundg (n - (i+1))
     case measure=>omega
     case rel=>exact ⟨i+1,by omega,by omega,by first|rfl|simp,AB.out.trans (below_draws _ _ _),T2.out⟩
    ·have N1:=fun W=>pieceE_neq p q W
     rw [decide_eq_false hpq] at N1
     have T2:=Lib.hid (S.out.2 hpq)
     clear hp hq A T S hpq
     simp only [Bool.not_false] at N1
     go_wp2
     go_quiet (fail)
     go_wp2
     go_ret
     exact ⟨by have hz:=HZ.out;rw [decide_eq_false T2.out] at hz;subst hz;rfl,AB.out.trans (below_draws _ _ _)⟩
   ·have T2:=Lib.hid T.out
    have HI:=Lib.hid (Nat.not_lt.1 hil)
    have AB:=Lib.hid A.out
    clear A T
    go_wp2
    go_ret
    refine ⟨?_,AB.out⟩
    have h:=T2.out
    rw [List.take_of_length_le (by rw [HN.out];exact HI.out),List.take_of_length_le (by rw [HN2.out];exact HI.out)] at h
    have hz:=HZ.out
    rw [decide_eq_true h] at hz
    subst hz
    rfl
 ·have hne:M≠N:=fun e=>hle (by rw [e])
  have q1:((M.length:Int)==(N.length:Int))=false:=by rw [beq_eq_false_iff_ne];omega
  have q2:((M.length:Int) != (N.length:Int))=true:=by rw [bne,q1];rfl
  rw [decide_eq_false hne]
  generalize M.length=m at *
  generalize N.length=n at *
  clear h1 h2 hle hne
  go_enter Tryz.func44,Tryz.ntmps44
  go_wp2
  go_ret
  exact ⟨rfl,Below.refl _ _⟩
end Go.Proofs.YtdjcjaidklgamaaGreatDoor
end
section
namespace Go.Proofs.YtdjcjaidklgamaaGreatDoor
open Go.RowKit Go.Joins
def pickG (a n:Int):Int:=a % 18446744073709551616 % n
theorem pickG_range (a n:Int) (h:1≤n):0≤pickG a n∧pickG a n<n:=by
 unfold pickG;exact ⟨Int.emod_nonneg _ (by omega),Int.emod_lt_of_pos _ (by omega)⟩
theorem wrap_u64 (a:Int):IntKind.u64.wrap a=a % 18446744073709551616:=by
 simp only [IntKind.wrap,IntKind.bits,IntKind.signed];simp
theorem pickg_any (a n:Int) (w:World) (h1:1≤n) (h2:n≤1000000) :
  Calls Tryz.prog 19 #[.int .i64 a,.int .i64 n] w fun e w'=>e=.returned (.int .i64 (pickG a n))∧w'=w:=by
 have hw:=wrap_u64 a
 have hr:=pickG_range a n h1
 have hp:a % 18446744073709551616 % n=pickG a n:=rfl
 obtain ⟨u,hu,hu0,hu1⟩:∃ u,a % 18446744073709551616=u∧0≤u∧u≤18446744073709551615:=⟨_,rfl,by omega,by omega⟩
 rw [hu] at hw hp
 obtain ⟨hr1,hr2⟩:=hr
 have hn:n≠0:=by omega
 clear hu
 go_enter Tryz.func19,Tryz.ntmps19
 go_wp2
 go_ret
 exact ⟨rfl,rfl⟩
theorem pick_nat (a:Int) (n:Nat) (h1:1≤n) (h2:n≤1000000):∃ k,k<n∧∀ w,Calls Tryz.prog 19 #[.int .i64 a,.int .i64 (n:Int)] w fun e w'=>e=.returned (.int .i64 (k:Int))∧w'=w:=by
 obtain ⟨p1,p2⟩:=pickG_range a n (by omega)
 obtain ⟨k,hk⟩:=Int.eq_ofNat_of_zero_le p1
 exact ⟨k,by omega,fun w=>by rw [← hk];exact pickg_any a n w (by omega) (by omega)⟩
end Go.Proofs.YtdjcjaidklgamaaGreatDoor
end
section
namespace Go.Proofs.YtdjcjaidklgamaaGreatDoor
open Go.RowKit Go.Joins
set_option maxRecDepth 100000 in
set_option maxHeartbeats 4000000 in
theorem same_ne0 (a0:List UInt8) (a1:UInt8) (a2:Int) (a3:Int) (a4:Int) (a5:Int) (a6:Int) (a7:Int) (a8:List UInt8) (a9:List UInt8) (a10:List UInt8) (a11:Int) (a12:Int) (a13:List UInt8) (b0:List UInt8) (b1:UInt8) (b2:Int) (b3:Int) (b4:Int) (b5:Int) (b6:Int) (b7:Int) (b8:List UInt8) (b9:List UInt8) (b10:List UInt8) (b11:Int) (b12:Int) (b13:List UInt8) (h:a0≠b0) (s1 s2:Option Addr) (m1 m2 k1 k2:Nat) (w:World):Calls Tryz.prog 21 #[.agg #[.string (mkS a0),.int .u8 (a1.toNat:Int),.int .i64 a2,.int .i64 a3,.int .i64 a4,.int .i64 a5,.int .i64 a6,.int .i64 a7,.string (mkS a8),.string (mkS a9),.string (mkS a10),.int .i64 a11,.int .i64 a12,.string (mkS a13),.slice s1 m1 k1],.agg #[.string (mkS b0),.int .u8 (b1.toNat:Int),.int .i64 b2,.int .i64 b3,.int .i64 b4,.int .i64 b5,.int .i64 b6,.int .i64 b7,.string (mkS b8),.string (mkS b9),.string (mkS b10),.int .i64 b11,.int .i64 b12,.string (mkS b13),.slice s2 m2 k2]] w fun r w'=>r=.returned (.bool false)∧Below w.heap.size w w':=by
 have q:((mkS a0).toList==(mkS b0).toList)=false:=by rw [textE_beq,decide_eq_false h]
 clear h
 go_enter Tryz.func21,Tryz.ntmps21
 go_wp2
 go_ret
 exact ⟨rfl,below_alloc2 _ _ _⟩
set_option maxRecDepth 100000 in
set_option maxHeartbeats 4000000 in
theorem same_ne1 (a0:List UInt8) (a1:UInt8) (a2:Int) (a3:Int) (a4:Int) (a5:Int) (a6:Int) (a7:Int) (a8:List UInt8) (a9:List UInt8) (a10:List UInt8) (a11:Int) (a12:Int) (a13:List UInt8) (b1:UInt8) (b2:Int) (b3:Int) (b4:Int) (b5:Int) (b6:Int) (b7:Int) (b8:List UInt8) (b9:List UInt8) (b10:List UInt8) (b11:Int) (b12:Int) (b13:List UInt8) (h:a1≠b1) (s1 s2:Option Addr) (m1 m2 k1 k2:Nat) (w:World):Calls Tryz.prog 21 #[.agg #[.string (mkS a0),.int .u8 (a1.toNat:Int),.int .i64 a2,.int .i64 a3,.int .i64 a4,.int .i64 a5,.int .i64 a6,.int .i64 a7,.string (mkS a8),.string (mkS a9),.string (mkS a10),.int .i64 a11,.int .i64 a12,.string (mkS a13),.slice s1 m1 k1],.agg #[.string (mkS a0),.int .u8 (b1.toNat:Int),.int .i64 b2,.int .i64 b3,.int .i64 b4,.int .i64 b5,.int .i64 b6,.int .i64 b7,.string (mkS b8),.string (mkS b9),.string (mkS b10),.int .i64 b11,.int .i64 b12,.string (mkS b13),.slice s2 m2 k2]] w fun r w'=>r=.returned (.bool false)∧Below w.heap.size w w':=by
 have q:((a1.toNat:Int)==(b1.toNat:Int))=false:=by rw [kindE_beq,decide_eq_false h]
 clear h
 go_enter Tryz.func21,Tryz.ntmps21
 go_wp2
 go_ret
 exact ⟨rfl,below_alloc2 _ _ _⟩
set_option maxRecDepth 100000 in
set_option maxHeartbeats 4000000 in
theorem same_ne2 (a0:List UInt8) (a1:UInt8) (a2:Int) (a3:Int) (a4:Int) (a5:Int) (a6:Int) (a7:Int) (a8:List UInt8) (a9:List UInt8) (a10:List UInt8) (a11:Int) (a12:Int) (a13:List UInt8) (b2:Int) (b3:Int) (b4:Int) (b5:Int) (b6:Int) (b7:Int) (b8:List UInt8) (b9:List UInt8) (b10:List UInt8) (b11:Int) (b12:Int) (b13:List UInt8) (h:a2≠b2) (s1 s2:Option Addr) (m1 m2 k1 k2:Nat) (w:World):Calls Tryz.prog 21 #[.agg #[.string (mkS a0),.int .u8 (a1.toNat:Int),.int .i64 a2,.int .i64 a3,.int .i64 a4,.int .i64 a5,.int .i64 a6,.int .i64 a7,.string (mkS a8),.string (mkS a9),.string (mkS a10),.int .i64 a11,.int .i64 a12,.string (mkS a13),.slice s1 m1 k1],.agg #[.string (mkS a0),.int .u8 (a1.toNat:Int),.int .i64 b2,.int .i64 b3,.int .i64 b4,.int .i64 b5,.int .i64 b6,.int .i64 b7,.string (mkS b8),.string (mkS b9),.string (mkS b10),.int .i64 b11,.int .i64 b12,.string (mkS b13),.slice s2 m2 k2]] w fun r w'=>r=.returned (.bool false)∧Below w.heap.size w w':=by
 have q:(a2==b2)=false:=by rw [beq_eq_false_iff_ne];exact h
 clear h
 go_enter Tryz.func21,Tryz.ntmps21
 go_wp2
 go_ret
 exact ⟨rfl,below_alloc2 _ _ _⟩
set_option maxRecDepth 100000 in
set_option maxHeartbeats 4000000 in
theorem same_ne3 (a0:List UInt8) (a1:UInt8) (a2:Int) (a3:Int) (a4:Int) (a5:Int) (a6:Int) (a7:Int) (a8:List UInt8) (a9:List UInt8) (a10:List UInt8) (a11:Int) (a12:Int) (a13:List UInt8) (b3:Int) (b4:Int) (b5:Int) (b6:Int) (b7:Int) (b8:List UInt8) (b9:List UInt8) (b10:List UInt8) (b11:Int) (b12:Int) (b13:List UInt8) (h:a3≠b3) (s1 s2:Option Addr) (m1 m2 k1 k2:Nat) (w:World):Calls Tryz.prog 21 #[.agg #[.string (mkS a0),.int .u8 (a1.toNat:Int),.int .i64 a2,.int .i64 a3,.int .i64 a4,.int .i64 a5,.int .i64 a6,.int .i64 a7,.string (mkS a8),.string (mkS a9),.string (mkS a10),.int .i64 a11,.int .i64 a12,.string (mkS a13),.slice s1 m1 k1],.agg #[.string (mkS a0),.int .u8 (a1.toNat:Int),.int .i64 a2,.int .i64 b3,.int .i64 b4,.int .i64 b5,.int .i64 b6,.int .i64 b7,.string (mkS b8),.string (mkS b9),.string (mkS b10),.int .i64 b11,.int .i64 b12,.string (mkS b13),.slice s2 m2 k2]] w fun r w'=>r=.returned (.bool false)∧Below w.heap.size w w':=by
 have q:(a3==b3)=false:=by rw [beq_eq_false_iff_ne];exact h
 clear h
 go_enter Tryz.func21,Tryz.ntmps21
 go_wp2
 go_ret
 exact ⟨rfl,below_alloc2 _ _ _⟩
set_option maxRecDepth 100000 in
set_option maxHeartbeats 4000000 in
theorem same_ne4 (a0:List UInt8) (a1:UInt8) (a2:Int) (a3:Int) (a4:Int) (a5:Int) (a6:Int) (a7:Int) (a8:List UInt8) (a9:List UInt8) (a10:List UInt8) (a11:Int) (a12:Int) (a13:List UInt8) (b4:Int) (b5:Int) (b6:Int) (b7:Int) (b8:List UInt8) (b9:List UInt8) (b10:List UInt8) (b11:Int) (b12:Int) (b13:List UInt8) (h:a4≠b4) (s1 s2:Option Addr) (m1 m2 k1 k2:Nat) (w:World):Calls Tryz.prog 21 #[.agg #[.string (mkS a0),.int .u8 (a1.toNat:Int),.int .i64 a2,.int .i64 a3,.int .i64 a4,.int .i64 a5,.int .i64 a6,.int .i64 a7,.string (mkS a8),.string (mkS a9),.string (mkS a10),.int .i64 a11,.int .i64 a12,.string (mkS a13),.slice s1 m1 k1],.agg #[.string (mkS a0),.int .u8 (a1.toNat:Int),.int .i64 a2,.int .i64 a3,.int .i64 b4,.int .i64 b5,.int .i64 b6,.int .i64 b7,.string (mkS b8),.string (mkS b9),.string (mkS b10),.int .i64 b11,.int .i64 b12,.string (mkS b13),.slice s2 m2 k2]] w fun r w'=>r=.returned (.bool false)∧Below w.heap.size w w':=by
 have q:(a4==b4)=false:=by rw [beq_eq_false_iff_ne];exact h
 clear h
 go_enter Tryz.func21,Tryz.ntmps21
 go_wp2
 go_ret
 exact ⟨rfl,below_alloc2 _ _ _⟩
set_option maxRecDepth 100000 in
set_option maxHeartbeats 4000000 in
theorem same_ne5 (a0:List UInt8) (a1:UInt8) (a2:Int) (a3:Int) (a4:Int) (a5:Int) (a6:Int) (a7:Int) (a8:List UInt8) (a9:List UInt8) (a10:List UInt8) (a11:Int) (a12:Int) (a13:List UInt8) (b5:Int) (b6:Int) (b7:Int) (b8:List UInt8) (b9:List UInt8) (b10:List UInt8) (b11:Int) (b12:Int) (b13:List UInt8) (h:a5≠b5) (s1 s2:Option Addr) (m1 m2 k1 k2:Nat) (w:World):Calls Tryz.prog 21 #[.agg #[.string (mkS a0),.int .u8 (a1.toNat:Int),.int .i64 a2,.int .i64 a3,.int .i64 a4,.int .i64 a5,.int .i64 a6,.int .i64 a7,.string (mkS a8),.string (mkS a9),.string (mkS a10),.int .i64 a11,.int .i64 a12,.string (mkS a13),.slice s1 m1 k1],.agg #[.string (mkS a0),.int .u8 (a1.toNat:Int),.int .i64 a2,.int .i64 a3,.int .i64 a4,.int .i64 b5,.int .i64 b6,.int .i64 b7,.string (mkS b8),.string (mkS b9),.string (mkS b10),.int .i64 b11,.int .i64 b12,.string (mkS b13),.slice s2 m2 k2]] w fun r w'=>r=.returned (.bool false)∧Below w.heap.size w w':=by
 have q:(a5==b5)=false:=by rw [beq_eq_false_iff_ne];exact h
 clear h
 go_enter Tryz.func21,Tryz.ntmps21
 go_wp2
 go_ret
 exact ⟨rfl,below_alloc2 _ _ _⟩
set_option maxRecDepth 100000 in
set_option maxHeartbeats 4000000 in
theorem same_ne6 (a0:List UInt8) (a1:UInt8) (a2:Int) (a3:Int) (a4:Int) (a5:Int) (a6:Int) (a7:Int) (a8:List UInt8) (a9:List UInt8) (a10:List UInt8) (a11:Int) (a12:Int) (a13:List UInt8) (b6:Int) (b7:Int) (b8:List UInt8) (b9:List UInt8) (b10:List UInt8) (b11:Int) (b12:Int) (b13:List UInt8) (h:¬ (a6=b6∧a7=b7)) (s1 s2:Option Addr) (m1 m2 k1 k2:Nat) (w:World):Calls Tryz.prog 21 #[.agg #[.string (mkS a0),.int .u8 (a1.toNat:Int),.int .i64 a2,.int .i64 a3,.int .i64 a4,.int .i64 a5,.int .i64 a6,.int .i64 a7,.string (mkS a8),.string (mkS a9),.string (mkS a10),.int .i64 a11,.int .i64 a12,.string (mkS a13),.slice s1 m1 k1],.agg #[.string (mkS a0),.int .u8 (a1.toNat:Int),.int .i64 a2,.int .i64 a3,.int .i64 a4,.int .i64 a5,.int .i64 b6,.int .i64 b7,.string (mkS b8),.string (mkS b9),.string (mkS b10),.int .i64 b11,.int .i64 b12,.string (mkS b13),.slice s2 m2 k2]] w fun r w'=>r=.returned (.bool false)∧Below w.heap.size w w':=by
 have NT:=fun W=>timeE_eql a6 a7 b6 b7 W
 rw [decide_eq_false h] at NT
 have NG:=fun op x y W=>timeE_guard op x y a6 a7 b6 b7 W
 clear h
 go_enter Tryz.func21,Tryz.ntmps21
 go_wp2
 go_ret
 exact ⟨rfl,below_alloc2 _ _ _⟩
set_option maxRecDepth 100000 in
set_option maxHeartbeats 4000000 in
theorem same_ne7 (a0:List UInt8) (a1:UInt8) (a2:Int) (a3:Int) (a4:Int) (a5:Int) (a6:Int) (a7:Int) (a8:List UInt8) (a9:List UInt8) (a10:List UInt8) (a11:Int) (a12:Int) (a13:List UInt8) (b8:List UInt8) (b9:List UInt8) (b10:List UInt8) (b11:Int) (b12:Int) (b13:List UInt8) (h:a8≠b8) (s1 s2:Option Addr) (m1 m2 k1 k2:Nat) (w:World):Calls Tryz.prog 21 #[.agg #[.string (mkS a0),.int .u8 (a1.toNat:Int),.int .i64 a2,.int .i64 a3,.int .i64 a4,.int .i64 a5,.int .i64 a6,.int .i64 a7,.string (mkS a8),.string (mkS a9),.string (mkS a10),.int .i64 a11,.int .i64 a12,.string (mkS a13),.slice s1 m1 k1],.agg #[.string (mkS a0),.int .u8 (a1.toNat:Int),.int .i64 a2,.int .i64 a3,.int .i64 a4,.int .i64 a5,.int .i64 a6,.int .i64 a7,.string (mkS b8),.string (mkS b9),.string (mkS b10),.int .i64 b11,.int .i64 b12,.string (mkS b13),.slice s2 m2 k2]] w fun r w'=>r=.returned (.bool false)∧Below w.heap.size w w':=by
 have q:((mkS a8).toList==(mkS b8).toList)=false:=by rw [textE_beq,decide_eq_false h]
 have NT:=fun W=>timeE_eql a6 a7 a6 a7 W
 rw [decide_eq_true ⟨rfl,rfl⟩] at NT
 have NG:=fun op x y W=>timeE_guard op x y a6 a7 a6 a7 W
 clear h
 go_enter Tryz.func21,Tryz.ntmps21
 go_wp2
 go_ret
 exact ⟨rfl,below_alloc2 _ _ _⟩
set_option maxRecDepth 100000 in
set_option maxHeartbeats 4000000 in
theorem same_ne8 (a0:List UInt8) (a1:UInt8) (a2:Int) (a3:Int) (a4:Int) (a5:Int) (a6:Int) (a7:Int) (a8:List UInt8) (a9:List UInt8) (a10:List UInt8) (a11:Int) (a12:Int) (a13:List UInt8) (b9:List UInt8) (b10:List UInt8) (b11:Int) (b12:Int) (b13:List UInt8) (h:a9≠b9) (s1 s2:Option Addr) (m1 m2 k1 k2:Nat) (w:World):Calls Tryz.prog 21 #[.agg #[.string (mkS a0),.int .u8 (a1.toNat:Int),.int .i64 a2,.int .i64 a3,.int .i64 a4,.int .i64 a5,.int .i64 a6,.int .i64 a7,.string (mkS a8),.string (mkS a9),.string (mkS a10),.int .i64 a11,.int .i64 a12,.string (mkS a13),.slice s1 m1 k1],.agg #[.string (mkS a0),.int .u8 (a1.toNat:Int),.int .i64 a2,.int .i64 a3,.int .i64 a4,.int .i64 a5,.int .i64 a6,.int .i64 a7,.string (mkS a8),.string (mkS b9),.string (mkS b10),.int .i64 b11,.int .i64 b12,.string (mkS b13),.slice s2 m2 k2]] w fun r w'=>r=.returned (.bool false)∧Below w.heap.size w w':=by
 have q:((mkS a9).toList==(mkS b9).toList)=false:=by rw [textE_beq,decide_eq_false h]
 have NT:=fun W=>timeE_eql a6 a7 a6 a7 W
 rw [decide_eq_true ⟨rfl,rfl⟩] at NT
 have NG:=fun op x y W=>timeE_guard op x y a6 a7 a6 a7 W
 clear h
 go_enter Tryz.func21,Tryz.ntmps21
 go_wp2
 go_ret
 exact ⟨rfl,below_alloc2 _ _ _⟩
set_option maxRecDepth 100000 in
set_option maxHeartbeats 4000000 in
theorem same_ne9 (a0:List UInt8) (a1:UInt8) (a2:Int) (a3:Int) (a4:Int) (a5:Int) (a6:Int) (a7:Int) (a8:List UInt8) (a9:List UInt8) (a10:List UInt8) (a11:Int) (a12:Int) (a13:List UInt8) (b10:List UInt8) (b11:Int) (b12:Int) (b13:List UInt8) (h:a10≠b10) (s1 s2:Option Addr) (m1 m2 k1 k2:Nat) (w:World):Calls Tryz.prog 21 #[.agg #[.string (mkS a0),.int .u8 (a1.toNat:Int),.int .i64 a2,.int .i64 a3,.int .i64 a4,.int .i64 a5,.int .i64 a6,.int .i64 a7,.string (mkS a8),.string (mkS a9),.string (mkS a10),.int .i64 a11,.int .i64 a12,.string (mkS a13),.slice s1 m1 k1],.agg #[.string (mkS a0),.int .u8 (a1.toNat:Int),.int .i64 a2,.int .i64 a3,.int .i64 a4,.int .i64 a5,.int .i64 a6,.int .i64 a7,.string (mkS a8),.string (mkS a9),.string (mkS b10),.int .i64 b11,.int .i64 b12,.string (mkS b13),.slice s2 m2 k2]] w fun r w'=>r=.returned (.bool false)∧Below w.heap.size w w':=by
 have q:((mkS a10).toList==(mkS b10).toList)=false:=by rw [textE_beq,decide_eq_false h]
 have NT:=fun W=>timeE_eql a6 a7 a6 a7 W
 rw [decide_eq_true ⟨rfl,rfl⟩] at NT
 have NG:=fun op x y W=>timeE_guard op x y a6 a7 a6 a7 W
 clear h
 go_enter Tryz.func21,Tryz.ntmps21
 go_wp2
 go_ret
 exact ⟨rfl,below_alloc2 _ _ _⟩
set_option maxRecDepth 100000 in
set_option maxHeartbeats 4000000 in
theorem same_ne10 (a0:List UInt8) (a1:UInt8) (a2:Int) (a3:Int) (a4:Int) (a5:Int) (a6:Int) (a7:Int) (a8:List UInt8) (a9:List UInt8) (a10:List UInt8) (a11:Int) (a12:Int) (a13:List UInt8) (b11:Int) (b12:Int) (b13:List UInt8) (h:a11≠b11) (s1 s2:Option Addr) (m1 m2 k1 k2:Nat) (w:World):Calls Tryz.prog 21 #[.agg #[.string (mkS a0),.int .u8 (a1.toNat:Int),.int .i64 a2,.int .i64 a3,.int .i64 a4,.int .i64 a5,.int .i64 a6,.int .i64 a7,.string (mkS a8),.string (mkS a9),.string (mkS a10),.int .i64 a11,.int .i64 a12,.string (mkS a13),.slice s1 m1 k1],.agg #[.string (mkS a0),.int .u8 (a1.toNat:Int),.int .i64 a2,.int .i64 a3,.int .i64 a4,.int .i64 a5,.int .i64 a6,.int .i64 a7,.string (mkS a8),.string (mkS a9),.string (mkS a10),.int .i64 b11,.int .i64 b12,.string (mkS b13),.slice s2 m2 k2]] w fun r w'=>r=.returned (.bool false)∧Below w.heap.size w w':=by
 have q:(a11==b11)=false:=by rw [beq_eq_false_iff_ne];exact h
 have NT:=fun W=>timeE_eql a6 a7 a6 a7 W
 rw [decide_eq_true ⟨rfl,rfl⟩] at NT
 have NG:=fun op x y W=>timeE_guard op x y a6 a7 a6 a7 W
 clear h
 go_enter Tryz.func21,Tryz.ntmps21
 go_wp2
 go_ret
 exact ⟨rfl,below_alloc2 _ _ _⟩
set_option maxRecDepth 100000 in
set_option maxHeartbeats 4000000 in
theorem same_ne11 (a0:List UInt8) (a1:UInt8) (a2:Int) (a3:Int) (a4:Int) (a5:Int) (a6:Int) (a7:Int) (a8:List UInt8) (a9:List UInt8) (a10:List UInt8) (a11:Int) (a12:Int) (a13:List UInt8) (b12:Int) (b13:List UInt8) (h:a12≠b12) (s1 s2:Option Addr) (m1 m2 k1 k2:Nat) (w:World):Calls Tryz.prog 21 #[.agg #[.string (mkS a0),.int .u8 (a1.toNat:Int),.int .i64 a2,.int .i64 a3,.int .i64 a4,.int .i64 a5,.int .i64 a6,.int .i64 a7,.string (mkS a8),.string (mkS a9),.string (mkS a10),.int .i64 a11,.int .i64 a12,.string (mkS a13),.slice s1 m1 k1],.agg #[.string (mkS a0),.int .u8 (a1.toNat:Int),.int .i64 a2,.int .i64 a3,.int .i64 a4,.int .i64 a5,.int .i64 a6,.int .i64 a7,.string (mkS a8),.string (mkS a9),.string (mkS a10),.int .i64 a11,.int .i64 b12,.string (mkS b13),.slice s2 m2 k2]] w fun r w'=>r=.returned (.bool false)∧Below w.heap.size w w':=by
 have q:(a12==b12)=false:=by rw [beq_eq_false_iff_ne];exact h
 have NT:=fun W=>timeE_eql a6 a7 a6 a7 W
 rw [decide_eq_true ⟨rfl,rfl⟩] at NT
 have NG:=fun op x y W=>timeE_guard op x y a6 a7 a6 a7 W
 clear h
 go_enter Tryz.func21,Tryz.ntmps21
 go_wp2
 go_ret
 exact ⟨rfl,below_alloc2 _ _ _⟩
set_option maxRecDepth 100000 in
set_option maxHeartbeats 4000000 in
theorem same_ne12 (a0:List UInt8) (a1:UInt8) (a2:Int) (a3:Int) (a4:Int) (a5:Int) (a6:Int) (a7:Int) (a8:List UInt8) (a9:List UInt8) (a10:List UInt8) (a11:Int) (a12:Int) (a13:List UInt8) (b13:List UInt8) (h:a13≠b13) (s1 s2:Option Addr) (m1 m2 k1 k2:Nat) (w:World):Calls Tryz.prog 21 #[.agg #[.string (mkS a0),.int .u8 (a1.toNat:Int),.int .i64 a2,.int .i64 a3,.int .i64 a4,.int .i64 a5,.int .i64 a6,.int .i64 a7,.string (mkS a8),.string (mkS a9),.string (mkS a10),.int .i64 a11,.int .i64 a12,.string (mkS a13),.slice s1 m1 k1],.agg #[.string (mkS a0),.int .u8 (a1.toNat:Int),.int .i64 a2,.int .i64 a3,.int .i64 a4,.int .i64 a5,.int .i64 a6,.int .i64 a7,.string (mkS a8),.string (mkS a9),.string (mkS a10),.int .i64 a11,.int .i64 a12,.string (mkS b13),.slice s2 m2 k2]] w fun r w'=>r=.returned (.bool false)∧Below w.heap.size w w':=by
 have q:((mkS a13).toList==(mkS b13).toList)=false:=by rw [textE_beq,decide_eq_false h]
 have NT:=fun W=>timeE_eql a6 a7 a6 a7 W
 rw [decide_eq_true ⟨rfl,rfl⟩] at NT
 have NG:=fun op x y W=>timeE_guard op x y a6 a7 a6 a7 W
 clear h
 go_enter Tryz.func21,Tryz.ntmps21
 go_wp2
 go_ret
 exact ⟨rfl,below_alloc2 _ _ _⟩
set_option maxRecDepth 100000 in
set_option maxHeartbeats 4000000 in
theorem same_eq (a0:List UInt8) (a1:UInt8) (a2:Int) (a3:Int) (a4:Int) (a5:Int) (a6:Int) (a7:Int) (a8:List UInt8) (a9:List UInt8) (a10:List UInt8) (a11:Int) (a12:Int) (a13:List UInt8) (s1 s2:Option Addr) (m1 m2 k1 k2:Nat) (w:World) (B:Bool) (CE:∀ W,Below w.heap.size w W→Calls Tryz.prog 44 #[.slice s1 m1 k1,.slice s2 m2 k2] W fun r w'=>r=.returned (.bool B)∧Below W.heap.size W w'):Calls Tryz.prog 21 #[.agg #[.string (mkS a0),.int .u8 (a1.toNat:Int),.int .i64 a2,.int .i64 a3,.int .i64 a4,.int .i64 a5,.int .i64 a6,.int .i64 a7,.string (mkS a8),.string (mkS a9),.string (mkS a10),.int .i64 a11,.int .i64 a12,.string (mkS a13),.slice s1 m1 k1],.agg #[.string (mkS a0),.int .u8 (a1.toNat:Int),.int .i64 a2,.int .i64 a3,.int .i64 a4,.int .i64 a5,.int .i64 a6,.int .i64 a7,.string (mkS a8),.string (mkS a9),.string (mkS a10),.int .i64 a11,.int .i64 a12,.string (mkS a13),.slice s2 m2 k2]] w fun r w'=>r=.returned (.bool B)∧Below w.heap.size w w':=by
 have NT:=fun W=>timeE_eql a6 a7 a6 a7 W
 rw [decide_eq_true ⟨rfl,rfl⟩] at NT
 have NG:=fun op x y W=>timeE_guard op x y a6 a7 a6 a7 W
 have CE:=Lib.hid CE
 have hB:=Lib.hid (below_alloc2 w (.cells #[.string (mkS a0),.int .u8 (a1.toNat:Int),.int .i64 a2,.int .i64 a3,.int .i64 a4,.int .i64 a5,.int .i64 a6,.int .i64 a7,.string (mkS a8),.string (mkS a9),.string (mkS a10),.int .i64 a11,.int .i64 a12,.string (mkS a13),.slice s1 m1 k1] 26) (.cells #[.string (mkS a0),.int .u8 (a1.toNat:Int),.int .i64 a2,.int .i64 a3,.int .i64 a4,.int .i64 a5,.int .i64 a6,.int .i64 a7,.string (mkS a8),.string (mkS a9),.string (mkS a10),.int .i64 a11,.int .i64 a12,.string (mkS a13),.slice s2 m2 k2] 26))
 go_enter Tryz.func21,Tryz.ntmps21
 go_wp2_with (first
  |(go_at_call 44;(with_reducible refine (CE.out _ hB.out).mono ?_);rintro r w2 ⟨rfl,h2⟩;have hB2:=Lib.hid (hB.out.trans (h2.mono hB.out.size));clear h2)
  | fail)
 go_ret
 exact ⟨rfl,hB2.out⟩
set_option maxHeartbeats 1000000 in
theorem same_any (e f:EntL) (s1 s2:Option Addr) (k1 k2:Nat) (hl:e.map.length≤1000000) (hl2:f.map.length≤1000000) (w:World) (h1:PiecesAt w s1 e.map) (h2:PiecesAt w s2 f.map) :
  Calls Tryz.prog 21 #[entV e (.slice s1 e.map.length k1),entV f (.slice s2 f.map.length k2)] w fun r w'=>r=.returned (.bool (decide (e=f)))∧Below w.heap.size w w':=by
 obtain ⟨a0,a1,a2,a3,a4,a5,a6,a7,a8,a9,a10,a11,a12,a13,M⟩:=e
 obtain ⟨b0,b1,b2,b3,b4,b5,b6,b7,b8,b9,b10,b11,b12,b13,N⟩:=f
 dsimp only at hl hl2 h1 h2
 unfold entV
 dsimp only
 by_cases h:a0=b0
 case neg =>
  rw [decide_eq_false (by rw [EntL.mk.injEq];intro hh;exact h (by simp only [hh,and_self]))]
  exact same_ne0 a0 a1 a2 a3 a4 a5 a6 a7 a8 a9 a10 a11 a12 a13 b0 b1 b2 b3 b4 b5 b6 b7 b8 b9 b10 b11 b12 b13 h s1 s2 _ _ k1 k2 w
 subst h
 by_cases h:a1=b1
 case neg =>
  rw [decide_eq_false (by rw [EntL.mk.injEq];intro hh;exact h (by simp only [hh,and_self]))]
  exact same_ne1 a0 a1 a2 a3 a4 a5 a6 a7 a8 a9 a10 a11 a12 a13 b1 b2 b3 b4 b5 b6 b7 b8 b9 b10 b11 b12 b13 h s1 s2 _ _ k1 k2 w
 subst h
 by_cases h:a2=b2
 case neg =>
  rw [decide_eq_false (by rw [EntL.mk.injEq];intro hh;exact h (by simp only [hh,and_self]))]
  exact same_ne2 a0 a1 a2 a3 a4 a5 a6 a7 a8 a9 a10 a11 a12 a13 b2 b3 b4 b5 b6 b7 b8 b9 b10 b11 b12 b13 h s1 s2 _ _ k1 k2 w
 subst h
 by_cases h:a3=b3
 case neg =>
  rw [decide_eq_false (by rw [EntL.mk.injEq];intro hh;exact h (by simp only [hh,and_self]))]
  exact same_ne3 a0 a1 a2 a3 a4 a5 a6 a7 a8 a9 a10 a11 a12 a13 b3 b4 b5 b6 b7 b8 b9 b10 b11 b12 b13 h s1 s2 _ _ k1 k2 w
 subst h
 by_cases h:a4=b4
 case neg =>
  rw [decide_eq_false (by rw [EntL.mk.injEq];intro hh;exact h (by simp only [hh,and_self]))]
  exact same_ne4 a0 a1 a2 a3 a4 a5 a6 a7 a8 a9 a10 a11 a12 a13 b4 b5 b6 b7 b8 b9 b10 b11 b12 b13 h s1 s2 _ _ k1 k2 w
 subst h
 by_cases h:a5=b5
 case neg =>
  rw [decide_eq_false (by rw [EntL.mk.injEq];intro hh;exact h (by simp only [hh,and_self]))]
  exact same_ne5 a0 a1 a2 a3 a4 a5 a6 a7 a8 a9 a10 a11 a12 a13 b5 b6 b7 b8 b9 b10 b11 b12 b13 h s1 s2 _ _ k1 k2 w
 subst h
 by_cases h:a6=b6∧a7=b7
 case neg =>
  rw [decide_eq_false (by rw [EntL.mk.injEq];intro hh;exact h (by simp only [hh,and_self]))]
  exact same_ne6 a0 a1 a2 a3 a4 a5 a6 a7 a8 a9 a10 a11 a12 a13 b6 b7 b8 b9 b10 b11 b12 b13 h s1 s2 _ _ k1 k2 w
 obtain ⟨rfl,rfl⟩:=h
 by_cases h:a8=b8
 case neg =>
  rw [decide_eq_false (by rw [EntL.mk.injEq];intro hh;exact h (by simp only [hh,and_self]))]
  exact same_ne7 a0 a1 a2 a3 a4 a5 a6 a7 a8 a9 a10 a11 a12 a13 b8 b9 b10 b11 b12 b13 h s1 s2 _ _ k1 k2 w
 subst h
 by_cases h:a9=b9
 case neg =>
  rw [decide_eq_false (by rw [EntL.mk.injEq];intro hh;exact h (by simp only [hh,and_self]))]
  exact same_ne8 a0 a1 a2 a3 a4 a5 a6 a7 a8 a9 a10 a11 a12 a13 b9 b10 b11 b12 b13 h s1 s2 _ _ k1 k2 w
 subst h
 by_cases h:a10=b10
 case neg =>
  rw [decide_eq_false (by rw [EntL.mk.injEq];intro hh;exact h (by simp only [hh,and_self]))]
  exact same_ne9 a0 a1 a2 a3 a4 a5 a6 a7 a8 a9 a10 a11 a12 a13 b10 b11 b12 b13 h s1 s2 _ _ k1 k2 w
 subst h
 by_cases h:a11=b11
 case neg =>
  rw [decide_eq_false (by rw [EntL.mk.injEq];intro hh;exact h (by simp only [hh,and_self]))]
  exact same_ne10 a0 a1 a2 a3 a4 a5 a6 a7 a8 a9 a10 a11 a12 a13 b11 b12 b13 h s1 s2 _ _ k1 k2 w
 subst h
 by_cases h:a12=b12
 case neg =>
  rw [decide_eq_false (by rw [EntL.mk.injEq];intro hh;exact h (by simp only [hh,and_self]))]
  exact same_ne11 a0 a1 a2 a3 a4 a5 a6 a7 a8 a9 a10 a11 a12 a13 b12 b13 h s1 s2 _ _ k1 k2 w
 subst h
 by_cases h:a13=b13
 case neg =>
  rw [decide_eq_false (by rw [EntL.mk.injEq];intro hh;exact h (by simp only [hh,and_self]))]
  exact same_ne12 a0 a1 a2 a3 a4 a5 a6 a7 a8 a9 a10 a11 a12 a13 b13 h s1 s2 _ _ k1 k2 w
 subst h
 have:=same_eq a0 a1 a2 a3 a4 a5 a6 a7 a8 a9 a10 a11 a12 a13 s1 s2 M.length N.length k1 k2 w (decide (M=N)) fun W hb=>equal_pieces s1 s2 k1 k2 M N hl hl2 W (h1.below hb) (h2.below hb)
 simpa only [EntL.mk.injEq,true_and] using this
end Go.Proofs.YtdjcjaidklgamaaGreatDoor
end
section
namespace Go.Proofs.YtdjcjaidklgamaaGreatDoor
open Go.RowKit Go.Joins
theorem read_back (d:Int) (e:EntL) (hdl:e.data.length≤10000) (s:List UInt8) (h:eWriteF d e=(s,0)) (p R:List UInt8) (hl:(p++(s++R)).length≤30000) (w:World) (hL:Laid w) (hE:ErrLaid w) :
  Calls Tryz.prog 22 #[.string (mkS (p++(s++R))),.int .i64 (p.length:Int),.slice none 0 0] w fun r W=>∃ ad cap a2 c2,r=.returned (.tuple #[entV e (.slice ad e.map.length cap),.int .i64 (p.length+s.length:Nat),.slice a2 0 c2,.nilIface])∧PiecesAt W ad e.map∧Below w.heap.size w W:=by
 refine (eread_any (p++(s++R)) (p.length:Int) (.slice none 0 0) [] hl (by omega) w (by simp) (fun p hp=>by cases hp) ⟨none,0,rfl,fun _=>rfl,fun i p h=>by simp at h⟩ hL hE).mono fun r W ⟨q,hq,hB,ho⟩=>?_
 have hu:=hq.unique (back_at hdl h p R (p.length:Int) rfl)
 subst hu
 rcases ho with ⟨k,h1,_⟩|⟨k,p',pb,h1,_⟩|⟨e',a,G,v,gv,h1,h2,⟨ad,cap,h3,_,h4,_⟩,_,_,⟨ad2,cap2,h5,_⟩⟩
 ·cases h1
 ·cases h1
 ·injection h1 with e1 e2 e3
  subst e1 e2 e3 h3 h5
  exact ⟨ad,cap,ad2,cap2,h2,h4,hB⟩
def toldE:EntL:={ name:=[97],kind:=48,mode:=420,uid:=0,gid:=0,size:=2,sec:=5,nano:=0,link:=[],user:=[],group:=[],major:=0,minor:=0,data:=[104,105],map:=[] }
def zeroE:EntL:={ name:=[],kind:=0,mode:=0,uid:=0,gid:=0,size:=0,sec:=0,nano:=0,link:=[],user:=[],group:=[],major:=0,minor:=0,data:=[],map:=[] }
theorem told_right:rightE toldE=true:=by decide
theorem zero_wrong:rightE zeroE=false:=by decide
set_option maxRecDepth 100000 in
theorem told_len:(eWriteF 2 toldE).2=0∧(eWriteF 2 toldE).1.length=1024:=by decide +kernel
theorem told_ok:EntOk toldE:=by
 refine ⟨?_,?_,?_,fun p h=>by simp [toldE] at h⟩ <;> (unfold toldE;simp [intsE,textsE,reachBytes,maxLen,i64])
theorem zero_ok:EntOk zeroE:=by
 refine ⟨?_,?_,?_,fun p h=>by simp [zeroE] at h⟩ <;> (unfold zeroE;simp [intsE,textsE,reachBytes,maxLen,i64])
def EntAtL (w:World) (b:Nat) (v:Value):Prop:=w.cell? ⟨b,0,none⟩=some (.string { data:=#[97] })∧w.cell? ⟨b,1,none⟩=some (.int .u8 48)∧w.cell? ⟨b,2,none⟩=some (.int .i64 420)∧w.cell? ⟨b,3,none⟩=some (.int .i64 0)∧w.cell? ⟨b,4,none⟩=some (.int .i64 0)∧w.cell? ⟨b,5,none⟩=some (.int .i64 2)∧w.cell? ⟨b,6,none⟩=some (.int .i64 5)∧w.cell? ⟨b,7,none⟩=some (.int .i64 0)∧w.cell? ⟨b,8,none⟩=some (.string { data:=#[] })∧w.cell? ⟨b,9,none⟩=some (.string { data:=#[] })∧w.cell? ⟨b,10,none⟩=some (.string { data:=#[] })∧w.cell? ⟨b,11,none⟩=some (.int .i64 0)∧w.cell? ⟨b,12,none⟩=some (.int .i64 0)∧w.cell? ⟨b,13,none⟩=some (.string { data:=#[104,105] })∧w.cell? ⟨b,14,none⟩=some v
theorem nil_pieces (W:World):PiecesAt W none []:=fun i p h=>by simp at h
set_option maxRecDepth 100000 in
set_option maxHeartbeats 8000000 in
theorem told_any (w:World) (hp:Px.PowLaid w) (hL:Laid w) (hE:ErrLaid w) :
  Calls Tryz.prog 17 #[] w fun r w'=>r=.returned (.bool true)∧Below w.heap.size w w':=by
 obtain ⟨k1,k2⟩:=told_len
 obtain ⟨s,hs⟩:∃ s,(eWriteF 2 toldE).1=s:=⟨_,rfl⟩
 have hw:eWriteF 2 toldE=(s,0):=Prod.ext hs k1
 rw [hs] at k2
 have hsz:(mkS s).size=1024:=by rw [mkS_size,k2]
 have CW:=Lib.hid (fun W (hB:Below w.heap.size w W)=>show Calls Tryz.prog 20 #[.int .i64 2,.agg #[.string { data:=#[97] },.int .u8 48,.int .i64 420,.int .i64 0,.int .i64 0,.int .i64 2,.int .i64 5,.int .i64 0,.string { data:=#[] },.string { data:=#[] },.string { data:=#[] },.int .i64 0,.int .i64 0,.string { data:=#[104,105] },.slice none 0 0]] W (fun r w'=>r=.returned (.tuple #[.string (mkS s),.nilIface])∧Below W.heap.size W w') from by
  have:=memWrite_all 2 toldE none 0 told_ok ⟨by decide,by decide,by decide⟩ (Nat.le_refl _) W (hp.below hB) (nil_pieces W)
  rw [hw] at this
  exact this)
 have CR:=Lib.hid (fun W (hB:Below w.heap.size w W)=>show Calls Tryz.prog 22 #[.string (mkS s),.int .i64 0,.slice none 0 0] W (fun r W'=>∃ ad cap a2 c2,r=.returned (.tuple #[.agg #[.string { data:=#[97] },.int .u8 48,.int .i64 420,.int .i64 0,.int .i64 0,.int .i64 2,.int .i64 5,.int .i64 0,.string { data:=#[] },.string { data:=#[] },.string { data:=#[] },.int .i64 0,.int .i64 0,.string { data:=#[104,105] },.slice ad 0 cap],.int .i64 1024,.slice a2 0 c2,.nilIface])∧Below W.heap.size W W') from by
  have:=read_back 2 toldE (by decide) s hw [] [] (by rw [List.nil_append,List.append_nil];omega) W (laid_below hL hB) (hE.below hB)
  rw [List.nil_append,List.append_nil] at this
  refine this.mono fun r W' ⟨ad,cap,a2,c2,h1,h2,h3⟩=>⟨ad,cap,a2,c2,?_,h3⟩
  rw [h1,k2];rfl)
 have CS:=Lib.hid (fun (ad:Option Addr) (cap:Nat) W=>show Calls Tryz.prog 21 #[.agg #[.string { data:=#[97] },.int .u8 48,.int .i64 420,.int .i64 0,.int .i64 0,.int .i64 2,.int .i64 5,.int .i64 0,.string { data:=#[] },.string { data:=#[] },.string { data:=#[] },.int .i64 0,.int .i64 0,.string { data:=#[104,105] },.slice ad 0 cap],.agg #[.string { data:=#[97] },.int .u8 48,.int .i64 420,.int .i64 0,.int .i64 0,.int .i64 2,.int .i64 5,.int .i64 0,.string { data:=#[] },.string { data:=#[] },.string { data:=#[] },.int .i64 0,.int .i64 0,.string { data:=#[104,105] },.slice none 0 0]] W (fun r W'=>r=.returned (.bool true)∧Below W.heap.size W W') from by
  have:=same_any toldE toldE ad none cap 0 (by decide) (by decide) W (fun i p h=>by simp [toldE] at h) (nil_pieces W)
  rwa [decide_eq_true rfl] at this)
 have CG:=Lib.hid (fun W=>show Calls Tryz.prog 23 #[.agg #[.string { data:=#[97] },.int .u8 48,.int .i64 420,.int .i64 0,.int .i64 0,.int .i64 2,.int .i64 5,.int .i64 0,.string { data:=#[] },.string { data:=#[] },.string { data:=#[] },.int .i64 0,.int .i64 0,.string { data:=#[104,105] },.slice none 0 0]] W (fun r W'=>r=.returned (.bool true)∧Below W.heap.size W W') from by
  have:=rightM_any toldE none 0 told_ok W (nil_pieces W)
  rwa [told_right] at this)
 have CZ:=Lib.hid (fun W=>show Calls Tryz.prog 23 #[.agg #[.string { data:=#[] },.int .u8 0,.int .i64 0,.int .i64 0,.int .i64 0,.int .i64 0,.int .i64 0,.int .i64 0,.string { data:=#[] },.string { data:=#[] },.string { data:=#[] },.int .i64 0,.int .i64 0,.string { data:=#[] },.slice none 0 0]] W (fun r W'=>r=.returned (.bool false)∧Below W.heap.size W W') from by
  have:=rightM_any zeroE none 0 zero_ok W (nil_pieces W)
  rwa [zero_wrong] at this)
 have hEn:w.heap.size<(w.alloc (.cells #[.string { data:=#[97] },.int .u8 48,.int .i64 420,.int .i64 0,.int .i64 0,.int .i64 2,.int .i64 5,.int .i64 0,.string { data:=#[] },.string { data:=#[] },.string { data:=#[] },.int .i64 0,.int .i64 0,.string { data:=#[104,105] },.slice none 0 0] 26)).heap.size:=by simp
 have HE:=Lib.hid (show EntAt (w.alloc (.cells #[.string { data:=#[97] },.int .u8 48,.int .i64 420,.int .i64 0,.int .i64 0,.int .i64 2,.int .i64 5,.int .i64 0,.string { data:=#[] },.string { data:=#[] },.string { data:=#[] },.int .i64 0,.int .i64 0,.string { data:=#[104,105] },.slice none 0 0] 26)) w.heap.size toldE (.slice none 0 0) from EntAt.new w toldE _ _)
 have hB:=Lib.hid (below_alloc1 w (.cells #[.string { data:=#[97] },.int .u8 48,.int .i64 420,.int .i64 0,.int .i64 0,.int .i64 2,.int .i64 5,.int .i64 0,.string { data:=#[] },.string { data:=#[] },.string { data:=#[] },.int .i64 0,.int .i64 0,.string { data:=#[104,105] },.slice none 0 0] 26))
 clear hw hs k1 k2 hEn hp hL hE
 go_enter Tryz.func17,Tryz.ntmps17
 go_wp2_with (first
  |(go_at_call 20;(with_reducible refine (CW.out _ hB.out).mono ?_);rintro r w2 ⟨rfl,h2⟩;have hB2:=Lib.hid (hB.out.trans (h2.mono hB.out.size));have hE2:=Lib.hid (HE.out.below h2 HE.out.lt);clear h2)
  |(go_at_call 22;(with_reducible refine (CR.out _ hB2.out).mono ?_);rintro r w3 ⟨ad,cap,a2,c2,rfl,h2⟩;have hbl:=(Below.refl w3.heap.size w3).alloc (Nat.le_refl _) (.cells #[.string { data:=#[97] },.int .u8 48,.int .i64 420,.int .i64 0,.int .i64 0,.int .i64 2,.int .i64 5,.int .i64 0,.string { data:=#[] },.string { data:=#[] },.string { data:=#[] },.int .i64 0,.int .i64 0,.string { data:=#[104,105] },.slice ad 0 cap] 26);have hb3:=hB2.out.trans (h2.mono hB2.out.size);have hB3:=Lib.hid (hb3.trans (hbl.mono hb3.size));have he3:=hE2.out.below h2 hE2.out.lt;have hE3:=Lib.hid (he3.below hbl he3.lt);have hF3:=Lib.hid (show EntAt (w3.alloc (.cells #[.string { data:=#[97] },.int .u8 48,.int .i64 420,.int .i64 0,.int .i64 0,.int .i64 2,.int .i64 5,.int .i64 0,.string { data:=#[] },.string { data:=#[] },.string { data:=#[] },.int .i64 0,.int .i64 0,.string { data:=#[104,105] },.slice ad 0 cap] 26)) w3.heap.size toldE (.slice ad 0 cap) from EntAt.new w3 toldE _ _);have q1:=show EntAtL _ _ (.slice none 0 0) from hE3.out;have q2:=show EntAtL _ _ (.slice ad 0 cap) from hF3.out;obtain ⟨c0,c1,c2',c3,c4,c5,c6,c7,c8,c9,c10,c11,c12,c13,c14⟩:=q1;obtain ⟨d0,d1,d2',d3,d4,d5,d6,d7,d8,d9,d10,d11,d12,d13,d14⟩:=q2;clear h2 hbl hb3 he3)
  |(go_at_call 21;(with_reducible refine (CS.out _ _ _).mono ?_);rintro r w4 ⟨rfl,h2⟩;have hB4:=Lib.hid (hB3.out.trans (h2.mono hB3.out.size));have q1:=show EntAtL _ _ (.slice none 0 0) from hE3.out.below h2 hE3.out.lt;clear h2 c0 c1 c2' c3 c4 c5 c6 c7 c8 c9 c10 c11 c12 c13 c14 d0 d1 d2' d3 d4 d5 d6 d7 d8 d9 d10 d11 d12 d13 d14;obtain ⟨c0,c1,c2',c3,c4,c5,c6,c7,c8,c9,c10,c11,c12,c13,c14⟩:=q1)
  |(go_at_call 23;(with_reducible refine (CG.out _).mono ?_);rintro r w5 ⟨rfl,h2⟩;have hB5:=Lib.hid (hB4.out.trans (h2.mono hB4.out.size));clear h2 c0 c1 c2' c3 c4 c5 c6 c7 c8 c9 c10 c11 c12 c13 c14)
  |(go_at_call 23;(with_reducible refine (CZ.out _).mono ?_);rintro r w6 ⟨rfl,h2⟩;have hB6:=Lib.hid (hB5.out.trans (h2.mono hB5.out.size));clear h2)
  | fail)
 go_ret
 exact ⟨rfl,hB6.out⟩
end Go.Proofs.YtdjcjaidklgamaaGreatDoor
end
section
namespace Go.Proofs.YtdjcjaidklgamaaGreatDoor
open Go.RowKit Go.Joins
def Bl (s:List UInt8) (n:Nat):Prop:=s.length % 512=0∧s.length≤n
theorem bl_nil (n:Nat):Bl [] n:=⟨rfl,Nat.zero_le _⟩
theorem Bl.app {s t:List UInt8} {n m:Nat} (h:Bl s n) (k:Bl t m):Bl (s++t) (n+m):=by
 obtain ⟨h1,h2⟩:=h
 obtain ⟨k1,k2⟩:=k
 refine ⟨?_,?_⟩ <;> rw [List.length_append] <;> omega
theorem Bl.mono {s:List UInt8} {n m:Nat} (h:Bl s n) (k:n≤m):Bl s m:=⟨h.1,Nat.le_trans h.2 k⟩
theorem bl_fill {l:List UInt8} {n:Nat} (h:l.length≤n):Bl (fillL l) (n+511):=by
 refine ⟨?_,by have:=fillL_len l;omega⟩
 have h1:padF (l.length:Int)=(512 - (l.length:Int) % 512) % 512:=by unfold padF;rw [if_neg (by omega)]
 unfold fillL
 rw [List.length_append,List.length_replicate,h1]
 omega
theorem bl_head {d:Nat} {r:RawL} (h:goodL d r):Bl (writeL d r) 512:=by
 have:=write_length h
 exact ⟨by rw [this],by omega⟩
theorem bl_whole {d:Nat} {R:RawL} {n link data s:List UInt8} {m:Nat} (h:wholeF d R n link data=(s,0)) (hd:data.length≤m):Bl s (m+1023)∧512≤s.length:=by
 unfold wholeF at h
 split at h
 ·next hg =>
  injection h with h _
  subst h
  refine ⟨((bl_head hg.2).app (bl_fill hd)).mono (by omega),?_⟩
  rw [List.length_append,write_length hg.2]
  omega
 ·simp at h
theorem bl_long (k:UInt8) (hk:k≠0) {t:List UInt8} {m:Nat} (h:t.length≤m) (hm:m≤5000):Bl (longF k t) (m+1024):=by
 unfold longF
 split
 ·exact ((bl_head (goodLong k hk _ (by omega) (by omega))).app (bl_fill (n:=m+1) (by rw [List.length_append,List.length_singleton];omega))).mono (by omega)
 ·exact bl_nil _
theorem bl_more (l:List Pc):Bl (moreF l) 1017:=by
 refine ⟨?_,moreF_len l⟩
 unfold moreF
 split
 ·rfl
 ·exact (bl_fill (Nat.le_refl _)).1
theorem bl_holes {s:List UInt8} {n:Nat} (e:EntL) (h:Bl s n) (h5:512≤s.length):Bl (holesF s e) (n+1529):=by
 have hs:Bl (sealL (holesB s e)) 512:=by
  have:=sealL_length _ (holesB_length h5 e)
  exact ⟨by rw [this],by omega⟩
 have hd:Bl (s.drop 512) n:=by
  obtain ⟨h1,h2⟩:=h
  exact ⟨by rw [List.length_drop];omega,by rw [List.length_drop];omega⟩
 exact (hs.app ((bl_more (e.map.drop 4)).app hd)).mono (by omega)
theorem bl_ext {l:List PrL} (h8:l.length≤8) (hM:∀ p∈l,Px.rightP p.1 p.2=true):Bl (extF l) 3000:=by
 have hb:=Px.recsL_bound l hM
 unfold extF
 split
 ·exact bl_nil _
 ·exact ((bl_head (goodExt _ (by omega) (by omega))).app (bl_fill (n:=1648) (by omega))).mono (by omega)
theorem write_blocks {d:Int} {e:EntL} (hs:Small e) {s:List UInt8} (h:eWriteF d e=(s,0)):Bl s 20000:=by
 have hd:=hs.data
 have ht:=hs.texts
 unfold eWriteF at h
 split at h
 ·simp at h
 next hr0 =>
 have hr:rightE e=true:=by cases hh:rightE e with|true=>rfl|false=>exact absurd (.inr (.inr hh)) hr0
 have hst:=(stored_len hr).1
 split at h
 ·unfold gnuF at h
  split at h
  ·simp at h
  ·split at h
   ·simp at h
   ·next hx =>
    injection h with h _
    subst h
    have hX:gnuX e=((gnuX e).1,0):=Prod.ext rfl (Classical.not_not.1 hx)
    have h1:=bl_whole (show wholeF 3 (gnuRaw e) ((storedE e).take 100) (e.link.take 100) e.data=((gnuX e).1,0) from hX) hd
    refine ((bl_long 75 (by decide) (m:=700) (by omega) (by omega)).app ((bl_long 76 (by decide) (m:=700) (by omega) (by omega)).app (m:=5000) ?_)).mono (by omega)
    split
    ·exact (bl_holes e h1.1 h1.2).mono (by omega)
    ·exact h1.1.mono (by omega)
 ·split at h
  ·unfold paxF at h
   split at h
   ·simp at h
   ·next hx =>
    injection h with h _
    subst h
    have hX:paxX e=((paxX e).1,0):=Prod.ext rfl (Classical.not_not.1 hx)
    have h1:=bl_whole (show wholeF 4 (paxRaw e) (paxName e) (e.link.take 100) (paxData e)=((paxX e).1,0) from hX) (paxData_le hr (by omega))
    exact ((bl_ext (recsE_length e) fun p hp=>(recsE_right hr p hp).1).app h1.1).mono (by omega)
  ·unfold oldF at h
   split at h
   ·simp at h
   ·split at h
    ·simp at h
    ·exact (bl_whole h hd).1.mono (by omega)
end Go.Proofs.YtdjcjaidklgamaaGreatDoor
end
section
namespace Go.Proofs.YtdjcjaidklgamaaGreatDoor
open Go.RowKit Go.Joins
theorem errV_nz {k:Int} (h:k≠0):∃ v,errV k=.iface 68 v:=by
 unfold errV
 rw [if_neg h]
 exact ⟨_,rfl⟩
theorem errV_z:errV 0=.nilIface:=by unfold errV;rw [if_pos rfl]
theorem ewrite_4 {e:EntL} (hs:Small e) (hr:rightE e=true):(eWriteF 4 e).2=0:=by
 have hd:=hs.data
 unfold eWriteF
 rw [if_neg (by rw [hr];simp),if_neg (by decide),if_pos rfl]
 exact room_pax hr (by have:=paxData_le hr (by omega);omega)
theorem ewrite_3 {e:EntL} (hs:Small e) (hr:rightE e=true):(eWriteF 3 e).2=if e.nano=0 then 0 else 2:=by
 have hd:=hs.data
 unfold eWriteF
 rw [if_neg (by rw [hr];simp),if_pos rfl]
 exact gnu_room hr (by omega)
theorem ewrite_old {e:EntL} (d:Int) (hd:d=1∨d=2) (hr:rightE e=true) (h:(eWriteF d e).2=0):e.nano=0:=by
 unfold eWriteF at h
 rw [if_neg (by rw [hr];rintro (h|h|h);omega;omega;cases h),if_neg (by omega),if_neg (by omega)] at h
 exact old_room h
end Go.Proofs.YtdjcjaidklgamaaGreatDoor
end
