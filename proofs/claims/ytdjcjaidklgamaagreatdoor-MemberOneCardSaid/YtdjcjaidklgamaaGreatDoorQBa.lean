import Derived.Test.YtdjcjaidklgamaaGreatDoorQShelf
import Derived.Test.YtdjcjaidklgamaaGreatDoorProg
import Derived.WalkKit
import Derived.ProofKit
import Derived.OpenShut
import Derived.LoopTactic
import Derived.Lib.Hide
import Derived.Lib.SmallJoins
import Derived.BigRegion
import Derived.BigQuiet
import Derived.Deep.QuietTactic
import Derived.Lib.QuietBelow
import Derived.Laws.Concat
import Derived.Laws.DeepStrings4
import Derived.Lib.Strings
import Derived.Lib.IndexBytes
import Derived.Lib.ItoaNum
import Derived.Laws.BytesArg
import Derived.IntWalk
import Derived.LaidEql
import Derived.Stop.Asserts
import Derived.RowKitTokens
import Derived.Handy
import Derived.Outline
import Derived.Lib.SlTrimSet
import Derived.Laws.BitsAllLaws
import Derived.Laws.Bits64b
import Derived.Lib.IfaceEq
import Derived.Shelf.Strings.SlTrimAscii
import Derived.Lib.ConvBytes
import Derived.Stop.IfaceNil
import Derived.Test.YtdjcjaidklgamaaGreatDoorRows
import Derived.Shelf.Strings.Builder2
import Derived.Deep.RegionWith
set_option linter.unusedSimpArgs false
set_option linter.unusedVariables false
section
namespace Go.Proofs.YtdjcjaidklgamaaGreatDoor
open Go.RowKit Go.Joins
def mkS (l:List UInt8):ByteArray:=⟨l.toArray⟩
theorem mkS_self (s:ByteArray):mkS s.data.toList=s:=by cases s;simp [mkS]
theorem mkS_list (l:List UInt8):(mkS l).data.toList=l:=by simp [mkS]
theorem mkS_size (l:List UInt8):(mkS l).size=l.length:=by show l.toArray.size=_;simp
theorem mkS_inj (x y:List UInt8):mkS x=mkS y↔x=y:=by
 constructor
 ·intro h;have:=congrArg (fun s:ByteArray=>s.data.toList) h;simpa [mkS_list] using this
 ·rintro rfl;rfl
theorem mkS_index (l:List UInt8) (i:Int) (c:UInt8) (h0:0≤i) (h:l[i.toNat]?=some c) (w:World):(Instr.index 9 (.string (mkS l)) (.int .i64 i)).run Tryz.prog w=.ok (.int .u8 (c.toNat:Int)) w:=by
 obtain ⟨h1,h2⟩:=List.getElem?_eq_some_iff.1 h
 rw [run_index_string w 9 _ .i64 _ Tryz.underlying9,dif_pos ⟨h0,by rw [mkS_size];omega⟩]
 have:(mkS l)[i.toNat]'(by rw [mkS_size];exact h1)=c:=by rw [← h2];rfl
 rw [this]
theorem mkS_upto (l:List UInt8) (j:Nat) (h:j≤l.length) (w:World):(Instr.slice 9 (.string (mkS l)) none (some (.int .i64 (j:Int))) none).run Tryz.prog w=.ok (.string (mkS (l.take j))) w:=by
 rw [run_slice_string_to_if w 9 _ .i64 _ Tryz.underlying9,if_pos ⟨by omega,by rw [mkS_size];omega⟩]
 have:(mkS l).extract 0 (j:Int).toNat=mkS (l.take j):=by
  rw [← mkS_self ((mkS l).extract 0 (j:Int).toNat),Lib.extract_data,mkS_list]
  simp
 rw [this]
theorem mkS_onward (l:List UInt8) (j:Nat) (h:j≤l.length) (w:World):(Instr.slice 9 (.string (mkS l)) (some (.int .i64 (j:Int))) none none).run Tryz.prog w=.ok (.string (mkS (l.drop j))) w:=by
 rw [run_slice_string_from_if w 9 _ .i64 _ Tryz.underlying9,if_pos ⟨by omega,by rw [mkS_size];omega⟩]
 have:(mkS l).extract (j:Int).toNat (mkS l).size=mkS (l.drop j):=by
  rw [← mkS_self ((mkS l).extract (j:Int).toNat (mkS l).size),Lib.extract_to_end,mkS_list]
  simp
 rw [this]
theorem mkS_cat (x y:List UInt8) (h:x.length+y.length≤1000000) (w:World):(Op.stringOp .add (mkS x) (mkS y)).run Tryz.prog w=.ok (.string (mkS (x++y))) w:=by
 unfold mkS
 rw [run_string_add_sum _ _ _ (by show x.toArray.size+y.toArray.size≤_;simp;omega),ByteArray.mk_append_mk]
theorem mkS_mid (l:List UInt8) (i j:Nat) (hi:i≤j) (h:j≤l.length) (w:World):(Instr.slice 9 (.string (mkS l)) (some (.int .i64 (i:Int))) (some (.int .i64 (j:Int))) none).run Tryz.prog w=.ok (.string (mkS ((l.drop i).take (j - i)))) w:=by
 rw [run_slice_string_if w 9 _ .i64 .i64 _ _ Tryz.underlying9,if_pos ⟨by omega,by rw [mkS_size];omega⟩,if_pos ⟨by omega,by omega⟩]
 have:(mkS l).extract (i:Int).toNat (j:Int).toNat=mkS ((l.drop i).take (j - i)):=by
  rw [← mkS_self ((mkS l).extract (i:Int).toNat (j:Int).toNat),Lib.extract_data,mkS_list]
  simp
 rw [this]
theorem mkS_cat2 (x y:List UInt8) (h:x.length+y.length≤9223372036854775807) (w:World):(Op.stringOp .add (mkS x) (mkS y)).run Tryz.prog w=.ok (.string (mkS (x++y))) w:=by
 unfold mkS
 rw [run_string_add_sum _ _ _ (by show x.toArray.size+y.toArray.size≤_;simp;omega),ByteArray.mk_append_mk]
theorem mkS_emp (l:List UInt8) (h:l≠[]):(mkS l).toList.isEmpty=false:=by
 rw [ByteArray.toList_eq,mkS_list]
 cases l with
 | nil=>exact absurd rfl h
 | cons c r=>rfl
theorem mkS_emp_nil:(mkS []).toList.isEmpty=true:=by rw [ByteArray.toList_eq,mkS_list];rfl
theorem dec_small (u:Nat) (h:u<10):Lib.decDigits u=[UInt8.ofNat (48+u)]:=by rw [Lib.decDigits,dif_pos h]
theorem dec_step (u:Nat) (h:¬ u<10):Lib.decDigits u=Lib.decDigits (u / 10)++[UInt8.ofNat (48+u % 10)]:=by rw [Lib.decDigits,dif_neg h]
theorem itoa_nat (n:Int) (h:0≤n):Lib.itoa n=Lib.decDigits n.toNat:=by unfold Lib.itoa;rw [if_neg (by omega)]
def digs:Nat→Nat→List UInt8
 | 0,_=>[]
 | k+1,u=>digs k (u / 10)++[UInt8.ofNat (48+u % 10)]
theorem digs_length:∀ k u,(digs k u).length=k
 | 0,_=>rfl
 | k+1,u=>by simp [digs,digs_length k]
theorem digs_zero:∀ k,digs k 0=List.replicate k 48
 | 0=>rfl
 | k+1=>by rw [digs,digs_zero k,List.replicate_succ'];rfl
theorem dec_ahead:∀ (k u:Nat),u<10 ^ k→Lib.decDigits (10 ^ k+u)=49 :: digs k u
 | 0,u,h=>by obtain rfl:u=0:=by simpa using h
             rw [dec_small _ (by decide)];rfl
 | k+1,u,h=>by
  have hp:10 ^ (k+1)=10 * 10 ^ k:=Nat.pow_succ'
  have h1:1≤10 ^ k:=Nat.one_le_pow _ _ (by decide)
  rw [dec_step _ (by omega),show (10 ^ (k+1)+u) / 10=10 ^ k+u / 10 by omega,dec_ahead k (u / 10) (by omega),show (10 ^ (k+1)+u) % 10=u % 10 by omega]
  rfl
theorem digs_pad:∀ (k u:Nat),u<10 ^ (k+1)→(Lib.decDigits u).length≤k+1∧digs (k+1) u=List.replicate (k+1 - (Lib.decDigits u).length) 48++Lib.decDigits u
 | 0,u,h=>by
  rw [dec_small u (by simpa using h)]
  refine ⟨by simp,?_⟩
  simp only [digs,List.length_singleton,Nat.sub_self,List.replicate_zero,List.nil_append]
  rw [show u % 10=u by have:u<10:=by simpa using h
                       omega]
 | k+1,u,h=>by
  by_cases h10:u<10
  ·rw [dec_small u h10]
   refine ⟨by simp,?_⟩
   rw [digs,show u / 10=0 by omega,digs_zero,show u % 10=u by omega];rfl
  ·have hp:10 ^ (k+1+1)=10 * 10 ^ (k+1):=Nat.pow_succ'
   obtain ⟨i1,i2⟩:=digs_pad k (u / 10) (by omega)
   rw [dec_step u h10,digs,i2]
   refine ⟨by simp;omega,?_⟩
   simp only [List.length_append,List.length_singleton,List.append_assoc]
   rw [show k+1+1 - ((Lib.decDigits (u / 10)).length+1)=k+1 - (Lib.decDigits (u / 10)).length by omega]
theorem dec_range:∀ (u:Nat),∀ c∈Lib.decDigits u,48≤c.toNat∧c.toNat≤57:=by
 intro u
 induction u using Nat.strongRecOn with
 | ind u ih =>
  intro c hc
  by_cases h:u<10
  ·rw [dec_small u h,List.mem_singleton] at hc
   subst hc
   simp only [UInt8.toNat_ofNat'];omega
  ·rw [dec_step u h,List.mem_append,List.mem_singleton] at hc
   rcases hc with hc|rfl
   ·exact ih (u / 10) (by omega) c hc
   ·simp only [UInt8.toNat_ofNat'];omega
theorem dec_pos (u:Nat):1≤(Lib.decDigits u).length:=by
 by_cases h:u<10
 ·rw [dec_small u h];simp
 ·rw [dec_step u h];simp
theorem digs_range:∀ (k u:Nat),∀ c∈digs k u,48≤c.toNat∧c.toNat≤57
 | 0,_,c,hc=>by simp [digs] at hc
 | k+1,u,c,hc=>by
  rw [digs,List.mem_append,List.mem_singleton] at hc
  rcases hc with hc|rfl
  ·exact digs_range k _ c hc
  ·simp only [UInt8.toNat_ofNat'];omega
end Go.Proofs.YtdjcjaidklgamaaGreatDoor
end
section
namespace Go.Proofs.YtdjcjaidklgamaaGreatDoor
def shn (n:Int) (k:Nat):Int:=n / 256 ^ k
theorem shn_zero (n:Int):shn n 0=n:=by simp [shn]
theorem shn_succ (n:Int) (k:Nat):shn n (k+1)=shn n k / 256:=by
 unfold shn
 rw [Int.pow_succ,Int.ediv_ediv_of_nonneg (Int.pow_nonneg (by decide))]
theorem shn_le (n:Int) (h1:-9223372036854775808≤n) (h2:n≤9223372036854775807) (k:Nat):-9223372036854775808≤shn n k∧shn n k≤9223372036854775807:=by
 induction k with
 | zero=>rw [shn_zero];exact ⟨h1,h2⟩
 | succ k ih=>rw [shn_succ];omega
def beB (n:Int):Nat→List Int
 | 0=>[]
 | k+1=>shn n k % 256 :: beB n k
theorem beB_length (n:Int) (k:Nat):(beB n k).length=k:=by
 induction k with
 | zero=>rfl
 | succ k ih=>simp [beB,ih]
def markB (n:Int):Int:=if n<0 then 255 else 128
def binNums (n:Int) (W:Nat):List Int:=markB n :: beB n (W - 1)
theorem binNums_length (n:Int) (W:Nat) (h:1≤W):(binNums n W).length=W:=by simp [binNums,beB_length];omega
def binRow (n:Int) (W k:Nat):List Int:=markB n :: (List.replicate (W - 1 - k) 0++beB n k)
theorem binRow_length (n:Int) (W k:Nat) (hk:k≤W - 1) (h:1≤W):(binRow n W k).length=W:=by simp [binRow,beB_length];omega
theorem binRow_start (n:Int) (W:Nat) (h:1≤W):(List.replicate W (0:Int)).set 0 (markB n)=binRow n W 0:=by
 obtain ⟨V,rfl⟩:∃ V,W=V+1:=⟨W - 1,by omega⟩
 simp [binRow,beB,List.replicate_succ]
theorem binRow_done (n:Int) (W:Nat):binRow n W (W - 1)=binNums n W:=by simp [binRow,binNums]
theorem binRow_step (n:Int) (W k:Nat) (hk:k<W - 1):(binRow n W k).set (W - 1 - k) (shn n k % 256)=binRow n W (k+1):=by
 obtain ⟨d,hd⟩:∃ d,W - 1 - k=d+1:=⟨W - 1 - k - 1,by omega⟩
 have hd2:W - 1 - (k+1)=d:=by omega
 unfold binRow
 rw [hd,hd2,List.set_cons_succ,List.replicate_succ',List.append_assoc]
 rw [List.set_append_right _ _ (by simp)]
 simp [beB]
theorem shn_big (n:Int) (h1:-9223372036854775808≤n) (h2:n≤9223372036854775807) (k:Nat) (hk:8≤k):shn n k=if n<0 then -1 else 0:=by
 induction k with
 | zero=>omega
 | succ k ih =>
  rcases Nat.lt_or_ge k 8 with h|h
  ·obtain rfl:k=7:=by omega
   simp only [shn_succ,shn_zero]
   split <;> omega
  ·rw [shn_succ,ih h];split <;> rfl
end Go.Proofs.YtdjcjaidklgamaaGreatDoor
end
section
namespace Go.Proofs.YtdjcjaidklgamaaGreatDoor
open Go.RowKit
theorem ipow_mono (k N:Nat) (b:Int) (hb:1≤b) (h:k≤N):b ^ k≤b ^ N∧1≤b ^ k:=by
 obtain ⟨c,rfl⟩:=Int.eq_ofNat_of_zero_le (by omega:0≤b)
 have hc:0<c:=by omega
 have h1:=Nat.pow_le_pow_right hc h
 have h2:=Nat.pow_pos (n:=k) hc
 constructor
 ·exact_mod_cast h1
 ·exact_mod_cast h2
def ipw (b n:Int):Int:=b ^ n.toNat
def mostF (a:Int):Int:=if 2≤a∧a≤20 then ipw 8 (a - 1) - 1 else 0
theorem pow8_le (a:Int) (h:2≤a∧a≤20):ipw 8 (a - 1)≤144115188075855872∧1≤ipw 8 (a - 1):=by
 have h1:=ipow_mono (a - 1).toNat 19 8 (by omega) (by omega)
 have h2:(8:Int) ^ 19=144115188075855872:=by decide +kernel
 unfold ipw;omega
theorem most_any (a:Int) (w:World) :
  Calls Tryz.prog 80 #[.int .i64 a] w fun e w'=>e=.returned (.int .i64 (mostF a))∧w'=w:=by
 by_cases h1:a<2
 ·have hm:mostF a=0:=by unfold mostF;rw [if_neg (by omega)]
  have Hm:=Lib.hid hm
  clear hm
  go_enter Tryz.func80,Tryz.ntmps80
  go_wp2
  go_ret
  exact ⟨by rw [Hm.out];rfl,rfl⟩
 ·by_cases h2:20<a
  ·have hm:mostF a=0:=by unfold mostF;rw [if_neg (by omega)]
   have Hm:=Lib.hid hm
   clear hm
   go_enter Tryz.func80,Tryz.ntmps80
   go_wp2
   go_ret
   exact ⟨by rw [Hm.out];rfl,rfl⟩
  ·have hm:mostF a=ipw 8 (a - 1) - 1:=by unfold mostF;rw [if_pos (by omega)]
   have hp:=pow8_le a (by omega)
   have he:wrap64 (wrap64 (2 ^ (3 * (a - 1)).toNat) - 1)=mostF a:=by
    have e1:(2:Int) ^ (3 * (a - 1)).toNat=ipw 8 (a - 1):=by
     unfold ipw
     rw [show (3 * (a - 1)).toNat=3 * (a - 1).toNat by omega,Int.pow_mul];rfl
    rw [e1,hm,IntWalk.wrap64_in (ipw 8 (a - 1)) ⟨by omega,by omega⟩,IntWalk.wrap64_in _ ⟨by omega,by omega⟩]
   have He:=Lib.hid he
   clear hm he
   go_enter Tryz.func80,Tryz.ntmps80
   go_wp2
   go_ret
   exact ⟨congrArg (fun x=>Ending.returned (.int .i64 x)) He.out,rfl⟩
def padF (n:Int):Int:=if n<0 then 0 else (512 - n % 512) % 512
theorem pad_any (n:Int) (w:World) (hn:n≤9223372036854775807) :
  Calls Tryz.prog 119 #[.int .i64 n] w fun e w'=>e=.returned (.int .i64 (padF n))∧w'=w:=by
 by_cases h1:n<0
 ·have hm:padF n=0:=by unfold padF;rw [if_pos h1]
  have Hm:=Lib.hid hm
  clear hm
  go_enter Tryz.func119,Tryz.ntmps119
  go_wp2
  go_ret
  exact ⟨by rw [Hm.out];rfl,rfl⟩
 ·have hm:padF n=(512 - n % 512) % 512:=by unfold padF;rw [if_neg h1]
  have Hm:=Lib.hid hm
  have h2:0≤n:=by omega
  clear hm h1
  go_enter Tryz.func119,Tryz.ntmps119
  go_wp2
  go_ret
  exact ⟨by rw [Hm.out];rfl,rfl⟩
end Go.Proofs.YtdjcjaidklgamaaGreatDoor
end
section
namespace Go.Proofs.YtdjcjaidklgamaaGreatDoor
set_option maxRecDepth 100000
open Go.RowKit Go.Extern.Stop Go.Stop Go.Extern
theorem Tryz.valueOfP (t:Addr) (w:World):(ReflectliteValue.unpack (.iface 113 (.pointer (some t)))).run Tryz.prog w
  = .ok (.agg #[.pointer (some ⟨9,113,none⟩),.pointer (some ⟨w.heap.size,0,none⟩),.int .u64 150]) (w.alloc (.cells #[.pointer (some t)] 113)):=by kernel_rfl
theorem Tryz.typeP (a : Addr) (w : World) : (ReflectliteValue.methodAny (ReflectliteValue.valueError "reflectlite.Value.Type" 0) (fun t _ _ _ => ReflectliteType.toType t) #[.agg #[.pointer (some ⟨9, 113, none⟩), .pointer (some a), .int .u64 150]]).run Tryz.prog w
  = .ok (.iface 204 (.agg #[.pointer (some ⟨9,113,none⟩)])) w:=by kernel_rfl
theorem Tryz.methodKind (h : Value) (w : World) : (Go.method 436 204 (.agg #[h]) "Kind").run Tryz.prog w = .ok (255, h) w := by kernel_rfl
theorem Tryz.kindP (w:World):((ReflectliteType.abiMethod fun t=>(fun a:Nat=>Value.int IntKind.u8 (a:Int)) <$> Rtype.kind t) #[.pointer (some ⟨9,113,none⟩)]).run Tryz.prog w=.ok (.int .u8 22) w:=by kernel_rfl
theorem Tryz.kindE (w:World):((ReflectliteType.abiMethod fun t=>(fun a:Nat=>Value.int IntKind.u8 (a:Int)) <$> Rtype.kind t) #[.pointer (some ⟨9,68,none⟩)]).run Tryz.prog w=.ok (.int .u8 2) w:=by kernel_rfl
theorem rlm (z:Sem Value) (f:TypeId→Addr→Nat→Nat→Sem Value) (v:Value) :
  ReflectliteValue.method z f #[v]=(do match ← ReflectliteValue.parts v with|none=>z|some (t,a,fl)=>f t a fl (fl % 32)):=rfl
theorem Tryz.partsP (a:Addr) (w:World):(ReflectliteValue.parts (.agg #[.pointer (some ⟨9,113,none⟩),.pointer (some a),.int .u64 150])).run Tryz.prog w=.ok (some (113,a,150)) w:=by kernel_rfl
theorem Tryz.isNilP (a p:Addr) (W:World) (ha:W.cell? a=some (.pointer (some p))) :
  (ReflectliteValue.method (ReflectliteValue.valueError "reflectlite.Value.IsNil" 0) ReflectliteValue.isNil #[.agg #[.pointer (some ⟨9, 113, none⟩), .pointer (some a), .int .u64 150]]).run Tryz.prog W = .ok (.bool false) W := by
 rw [rlm]
 simp only [Sem.run_bind,Tryz.partsP,Result.andThen]
 simp [ReflectliteValue.isNil,loadVar,isAgg,underlying,Tryz.underlying113,ha,Result.andThen]
theorem Tryz.methodElem (h : Value) (w : World) : (Go.method 436 204 (.agg #[h]) "Elem").run Tryz.prog w = .ok (268, .agg #[h]) w := by kernel_rfl
theorem Tryz.methodImplements (h : Value) (w : World) : (Go.method 436 204 (.agg #[h]) "Implements").run Tryz.prog w = .ok (269, .agg #[h]) w := by kernel_rfl
theorem Tryz.methodAssignableTo (h : Value) (w : World) : (Go.method 436 204 (.agg #[h]) "AssignableTo").run Tryz.prog w = .ok (266, .agg #[h]) w := by kernel_rfl
theorem Tryz.elemP (w:World):(ReflectliteType.method ReflectliteType.elem #[.agg #[.pointer (some ⟨9,113,none⟩)]]).run Tryz.prog w=.ok (.iface 204 (.agg #[.pointer (some ⟨9,68,none⟩)])) w:=by kernel_rfl
theorem Tryz.implementsE (w : World) : (ReflectliteType.relation "Implements" ReflectliteType.implements_ #[.agg #[.pointer (some ⟨9, 68, none⟩)], .iface 204 (.agg #[.pointer (some ⟨9, 31, none⟩)])]).run Tryz.prog w = .ok (.bool true) w := by kernel_rfl
theorem Tryz.typeOfE (v:Value) (w:World):(ReflectliteType.typeOf #[.iface 68 v]).run Tryz.prog w=.ok (.iface 204 (.agg #[.pointer (some ⟨9,68,none⟩)])) w:=by kernel_rfl
theorem Tryz.assignableE (w : World) : (ReflectliteType.relation "AssignableTo" ReflectliteType.assignableTo #[.agg #[.pointer (some ⟨9, 68, none⟩)], .iface 204 (.agg #[.pointer (some ⟨9, 68, none⟩)])]).run Tryz.prog w = .ok (.bool true) w := by kernel_rfl
theorem Tryz.valueOfE (n:Int) (w:World):(ReflectliteValue.unpack (.iface 68 (.int .i64 n))).run Tryz.prog w
  = .ok (.agg #[.pointer (some ⟨9,68,none⟩),.pointer (some ⟨w.heap.size,0,none⟩),.int .u64 130]) (w.alloc (.cells #[.int .i64 n] 68)):=by kernel_rfl
theorem Tryz.elemOfP (w:World):(Rtype.elem? 113).run Tryz.prog w=.ok (some 68) w:=by kernel_rfl
theorem Tryz.mkE (p:Addr) (w:World):(ReflectliteValue.mk 68 p ReflectliteValue.flagAddr).run Tryz.prog w=.ok (.agg #[.pointer (some ⟨9,68,none⟩),.pointer (some p),.int .u64 386]) w:=by kernel_rfl
theorem Tryz.elemVP (a p:Addr) (W:World) (ha:W.cell? a=some (.pointer (some p))) :
  (ReflectliteValue.method (ReflectliteValue.valueError "reflectlite.Value.Elem" 0) ReflectliteValue.elem #[.agg #[.pointer (some ⟨9, 113, none⟩), .pointer (some a), .int .u64 150]]).run Tryz.prog W
   = .ok (.agg #[.pointer (some ⟨9,68,none⟩),.pointer (some p),.int .u64 386]) W:=by
 rw [rlm]
 simp only [Sem.run_bind,Tryz.partsP,Result.andThen]
 simp [ReflectliteValue.elem,loadVar,isAgg,underlying,Tryz.underlying113,ha,Result.andThen,Tryz.elemOfP,Tryz.mkE]
theorem rls (v x:Value):ReflectliteValue.set #[v,x]=(do
  let (some (dst,a,fl),some (src,b,_)):=(← ReflectliteValue.parts v,← ReflectliteValue.parts x)
   | unsupported (.noEntry "extern/(internal/reflectlite.Value).Set.zeroValue")
  if fl / ReflectliteValue.flagAddr % 2 == 0 then unsupported (.noEntry "extern/(internal/reflectlite.Value).Set.unaddressable")
  let val ← loadVar src b
  if ← Rtype.directlyAssignable dst src then storeVar dst a val
  else if ← Rtype.implements dst src then
   if (← Rtype.kind src)==20 then
    match val with
    | .nilIface => unsupported (.noEntry "extern/reflectlite: a nil value of one interface type handed on as a value of another")
    | _=>storeVar dst a val
   else storeVar dst a (.iface src val)
  else panicString ("reflectlite.Set: value of type " ++ (← Rtype.spelt src) ++ " is not assignable to type " ++ (← Rtype.spelt dst))
  pure (.tuple #[])):=rfl
theorem Tryz.partsEa (a:Addr) (w:World):(ReflectliteValue.parts (.agg #[.pointer (some ⟨9,68,none⟩),.pointer (some a),.int .u64 386])).run Tryz.prog w=.ok (some (68,a,386)) w:=by kernel_rfl
theorem Tryz.partsE (a:Addr) (w:World):(ReflectliteValue.parts (.agg #[.pointer (some ⟨9,68,none⟩),.pointer (some a),.int .u64 130])).run Tryz.prog w=.ok (some (68,a,130)) w:=by kernel_rfl
theorem Tryz.directE (w:World):(Rtype.directlyAssignable 68 68).run Tryz.prog w=.ok true w:=by kernel_rfl
theorem Tryz.setE (ta b:Addr) (n:Int) (old:Value) (W:World) (hb:W.cell? b=some (.int .i64 n)) (ht:W.cell? ta=some old) (hf:W.frozen? ta=false) :
  (ReflectliteValue.set #[.agg #[.pointer (some ⟨9,68,none⟩),.pointer (some ta),.int .u64 386],.agg #[.pointer (some ⟨9,68,none⟩),.pointer (some b),.int .u64 130]]).run Tryz.prog W
   = .ok (.tuple #[]) (W.setCell ta (.int .i64 n)):=by
 rw [rls]
 simp only [Sem.run_bind,Tryz.partsEa,Tryz.partsE,Result.andThen]
 simp [ReflectliteValue.flagAddr,loadVar,isAgg,underlying,Tryz.underlying68,hb,Result.andThen,Tryz.directE,storeVar,Value.cells,storeCells,Addr.add]
 rw [run_store Tryz.prog W ta _ _ (by rfl)]
 simp [ht,hf]
set_option maxHeartbeats 4000000 in
theorem as_hit (n:Int) (t:Addr) (old:Value) (w:World) (hg:w.cell? ⟨0,0,none⟩=some (.iface 204 (.agg #[.pointer (some ⟨9,31,none⟩)]))) (ht0:w.cell? t=some old) (hf0:w.frozen? t=false) :
  Calls Tryz.prog 68 #[.iface 68 (.int .i64 n),.iface 113 (.pointer (some t))] w fun ev w'=>ev=.returned (.bool true)∧w'=((((w.alloc (.cells #[.pointer (some t)] 113)).alloc (.cells #[.pointer (some ⟨9,113,none⟩),.pointer (some ⟨w.heap.size,0,none⟩),.int .u64 150] 155)).alloc (.cells #[.pointer (some ⟨9,113,none⟩),.pointer (some ⟨w.heap.size,0,none⟩),.int .u64 150] 155)).alloc (.cells #[.int .i64 n] 68)).setCell t (.int .i64 n):=by
 have h6:=@run_callFunc_extern Tryz.prog 109 _ (fun args=>ReflectliteValue.unpack (args.getD 0 (.tuple #[]))) Tryz.func109 (by kernel_rfl) (by kernel_rfl) (by kernel_rfl) (by kernel_rfl)
 have h7 := @run_callFunc_extern Tryz.prog 110 _ (ReflectliteValue.methodAny (ReflectliteValue.valueError "reflectlite.Value.Type" 0) (fun t _ _ _ => ReflectliteType.toType t)) Tryz.func110 (by kernel_rfl) (by kernel_rfl) (by kernel_rfl) (by kernel_rfl)
 have h8 := @run_callFunc_extern Tryz.prog 111 _ (ReflectliteValue.method (ReflectliteValue.valueError "reflectlite.Value.IsNil" 0) ReflectliteValue.isNil) Tryz.func111 (by kernel_rfl) (by kernel_rfl) (by kernel_rfl) (by kernel_rfl)
 have h27:=@run_callFunc_extern Tryz.prog 255 _ (ReflectliteType.abiMethod fun t=>do pure (.int .u8 (← Rtype.kind t))) Tryz.func255 (by kernel_rfl) (by kernel_rfl) (by kernel_rfl) (by kernel_rfl)
 have h37:=@run_callFunc_extern Tryz.prog 268 _ (ReflectliteType.method ReflectliteType.elem) Tryz.func268 (by kernel_rfl) (by kernel_rfl) (by kernel_rfl) (by kernel_rfl)
 have h38 := @run_callFunc_extern Tryz.prog 269 _ (ReflectliteType.relation "Implements" ReflectliteType.implements_) Tryz.func269 (by kernel_rfl) (by kernel_rfl) (by kernel_rfl) (by kernel_rfl)
 have h10:=@run_callFunc_extern Tryz.prog 149 _ ReflectliteType.typeOf Tryz.func149 (by kernel_rfl) (by kernel_rfl) (by kernel_rfl) (by kernel_rfl)
 have h35 := @run_callFunc_extern Tryz.prog 266 _ (ReflectliteType.relation "AssignableTo" ReflectliteType.assignableTo) Tryz.func266 (by kernel_rfl) (by kernel_rfl) (by kernel_rfl) (by kernel_rfl)
 have h11 := @run_callFunc_extern Tryz.prog 150 _ (ReflectliteValue.method (ReflectliteValue.valueError "reflectlite.Value.Elem" 0) ReflectliteValue.elem) Tryz.func150 (by kernel_rfl) (by kernel_rfl) (by kernel_rfl) (by kernel_rfl)
 have h12:=@run_callFunc_extern Tryz.prog 151 _ ReflectliteValue.set Tryz.func151 (by kernel_rfl) (by kernel_rfl) (by kernel_rfl) (by kernel_rfl)
 have tO:=Tryz.typeOfE
 have mA:=Tryz.methodAssignableTo
 have a25:=Tryz.assignableE
 have v25:=Tryz.valueOfE
 have f6:=Tryz.valueOfP
 have f7:=Tryz.typeP
 have mK:=Tryz.methodKind
 have mE:=Tryz.methodElem
 have mI:=Tryz.methodImplements
 have k27:=Tryz.kindP
 have k25:=Tryz.kindE
 have e27:=Tryz.elemP
 have i25:=Tryz.implementsE
 have n8:=Tryz.isNilP ⟨w.heap.size,0,none⟩ t ((w.alloc (.cells #[.pointer (some t)] 113)).alloc (.cells #[.pointer (some ⟨9,113,none⟩),.pointer (some ⟨w.heap.size,0,none⟩),.int .u64 150] 155)) (by simp)
 have hlt:0<w.heap.size:=by
  rcases Nat.lt_or_ge 0 w.heap.size with h|h
  ·exact h
  ·simp [World.cell?,Array.getElem?_eq_none h] at hg
 have hg2:((w.alloc (.cells #[.pointer (some t)] 113)).alloc (.cells #[.pointer (some ⟨9,113,none⟩),.pointer (some ⟨w.heap.size,0,none⟩),.int .u64 150] 155)).cell? ⟨0,0,none⟩=some (.iface 204 (.agg #[.pointer (some ⟨9,31,none⟩)])):=by
  rw [World.cell?_alloc_lt _ _ ⟨0,0,none⟩ (by simp <;> omega),World.cell?_alloc_lt _ _ ⟨0,0,none⟩ hlt];exact hg
 have htl:t.block<w.heap.size:=by
  rcases Nat.lt_or_ge t.block w.heap.size with h|h
  ·exact h
  ·simp [World.cell?,Array.getElem?_eq_none h] at ht0
 have el:=Tryz.elemVP ⟨w.heap.size,0,none⟩ t (((w.alloc (.cells #[.pointer (some t)] 113)).alloc (.cells #[.pointer (some ⟨9,113,none⟩),.pointer (some ⟨w.heap.size,0,none⟩),.int .u64 150] 155)).alloc (.cells #[.pointer (some ⟨9,113,none⟩),.pointer (some ⟨w.heap.size,0,none⟩),.int .u64 150] 155)) (by rw [World.cell?_alloc_lt _ _ ⟨w.heap.size,0,none⟩ (by simp <;> omega)];simp)
 have st:=Tryz.setE t ⟨w.heap.size+1+1+1,0,none⟩ n old ((((w.alloc (.cells #[.pointer (some t)] 113)).alloc (.cells #[.pointer (some ⟨9,113,none⟩),.pointer (some ⟨w.heap.size,0,none⟩),.int .u64 150] 155)).alloc (.cells #[.pointer (some ⟨9,113,none⟩),.pointer (some ⟨w.heap.size,0,none⟩),.int .u64 150] 155)).alloc (.cells #[.int .i64 n] 68))
  (by rw [World.cell?_alloc_at _ _ _ _ (by simp)];rfl)
  (by rw [World.cell?_alloc_lt _ _ t (by simp <;> omega),World.cell?_alloc_lt _ _ t (by simp <;> omega),World.cell?_alloc_lt _ _ t (by simp <;> omega),World.cell?_alloc_lt _ _ t htl];exact ht0)
  (by rw [World.frozen?_alloc_old _ _ t (by simp <;> omega),World.frozen?_alloc_old _ _ t (by simp <;> omega),World.frozen?_alloc_old _ _ t (by simp <;> omega),World.frozen?_alloc_old _ _ t (Nat.ne_of_lt htl)];exact hf0)
 go_enter Tryz.func68,Tryz.ntmps68
 go_wp2
 refine wp_loop_rounds 1 ?_
 rw [rounds_succ]
 go_wp2
 go_ret
 exact ⟨rfl,rfl⟩
end Go.Proofs.YtdjcjaidklgamaaGreatDoor
end
section
namespace Go.Proofs.YtdjcjaidklgamaaGreatDoor
open Go.RowKit Go.Extern.Stop Go.Stop Go.Extern
def ErrLaid (w:World):Prop:=w.cell? ⟨0,0,none⟩=some (.iface 204 (.agg #[.pointer (some ⟨9,31,none⟩)]))
theorem ErrLaid.posG {w:World} (h:ErrLaid w):0<w.heap.size:=by
 unfold ErrLaid at h
 rcases Nat.lt_or_ge 0 w.heap.size with h0|h0
 ·exact h0
 ·simp [World.cell?,Array.getElem?_eq_none h0] at h
theorem ErrLaid.pos {w:World} (h:ErrLaid w):0<w.heap.size:=Nat.lt_of_le_of_lt (Nat.zero_le _) h.posG
theorem ErrLaid.below {w w':World} (h:ErrLaid w) (hb:Below w.heap.size w w'):ErrLaid w':=by
 have hp:=h.posG
 unfold ErrLaid at h ⊢
 rw [hb.cell (p:=⟨0,0,none⟩) hp];exact h
theorem ErrLaid.alloc {w:World} (h:ErrLaid w) (o:Obj):ErrLaid (w.alloc o):=h.below ((Below.refl _ _).alloc (Nat.le_refl _) o)
set_option maxHeartbeats 1000000 in
theorem tell_err (n:Int) (w:World) (hg:ErrLaid w) :
  Calls Tryz.prog 37 #[.iface 68 (.int .i64 n)] w fun e w'=>e=.returned (.int .i64 n)∧Below w.heap.size w w':=by
 have hgA:=hg.alloc (.cells #[.int .i64 0] 68)
 have hpos:=hg.pos
 have HG:=Lib.hid hg
 unfold ErrLaid at hgA
 clear hg
 have htA:(w.alloc (.cells #[.int .i64 0] 68)).cell? ⟨w.heap.size,0,none⟩=some (.int .i64 0):=by simp
 have hfA:(w.alloc (.cells #[.int .i64 0] 68)).frozen? ⟨w.heap.size,0,none⟩=false:=by simp
 go_enter Tryz.func37,Tryz.ntmps37
 go_wp2_with (go_at_call 68;refine (as_hit _ _ (.int .i64 0) _ hgA htA hfA).mono ?_;rintro e w' ⟨rfl,rfl⟩)
 go_ret
 exact ⟨rfl,by go_grown⟩
end Go.Proofs.YtdjcjaidklgamaaGreatDoor
end
section
namespace Go.Proofs.YtdjcjaidklgamaaGreatDoor
open Go.RowKit
theorem Tryz.infoU8:(Tryz.prog.info? 5).map (fun i=>(i.zero,i.size,i.bytes))=some (some (.int .u8 0),1,1):=by kernel_rfl
theorem binary_range (n:Int) (w:World) (h:n < -36028797018963968∨36028797018963967<n) :
  Calls Tryz.prog 176 #[.int .i64 n,.int .i64 8] w fun e w'=>e=.returned (.tuple #[.string ByteArray.empty,.iface 68 (.int .i64 2)])∧w'=w:=by
 rcases h with h|h
 ·go_enter Tryz.func176,Tryz.ntmps176
  go_wp2
  go_ret2
  exact ⟨rfl,rfl⟩
 ·have h':¬ n < -36028797018963968:=by omega
  go_enter Tryz.func176,Tryz.ntmps176
  go_wp2
  go_ret2
  exact ⟨rfl,rfl⟩
theorem ints_set (xs:List Int) (j:Nat) (x:Int):(xs.map (Value.int .u8)).set j (.int .u8 x)=(xs.set j x).map (Value.int .u8):=by rw [List.map_set]
set_option maxRecDepth 100000 in
set_option maxHeartbeats 2000000 in
theorem binary_ok (n:Int) (W:Nat) (w:World) (hW1:8≤W) (hW2:W≤20) (hn1:-9223372036854775808≤n) (hn2:n≤9223372036854775807) (hr:W=8→-36028797018963968≤n∧n≤36028797018963967) :
  Calls Tryz.prog 176 #[.int .i64 n,.int .i64 W] w fun e w'=>e=.returned (.tuple #[.string (strOfNums (binNums n W)),.nilIface])∧Below w.heap.size w w':=by
 obtain ⟨i0,hi,hz0,hz1,hz2⟩:=info_parts Tryz.infoU8
 have d1:decide ((W:Int)<8)=false:=by simp;omega
 have d2:decide (20<(W:Int))=false:=by simp;omega
 have e8:(((W:Int)==8)=true∧decide (n < -36028797018963968)=false∧decide (36028797018963967<n)=false)∨((W:Int)==8)=false:=by
  by_cases h8:W=8
  ·have:=hr h8
   exact .inl ⟨by rw [beq_iff_eq];omega,by simp;omega,by simp;omega⟩
  ·exact .inr (by rw [beq_eq_false_iff_ne];omega)
 clear hr
 rcases e8 with ⟨q1,q2,q3⟩|q1 <;> by_cases hn:n<0
 all_goals
  go_enter Tryz.func176,Tryz.ntmps176
  go_wp2_with (at_make;refine wpList_make_full _ rfl _ _ 67 rfl w.heap.size 5 i0 (.int .u8 0) 1 Tryz.underlying67 hi hz0 hz1 _ _ _ _ W rfl rfl rfl rfl (by rw [hz2];omega) (by unfold maxLen;omega) (Nat.le_refl _) ?_)
  intro w1 hown1 hgrow1
  rw [show (madeCells #[Value.int .u8 0] W).toList=(List.replicate W (0:Int)).map (Value.int .u8) from (toList_madeCells_one _ _).trans (by simp)] at hown1
  have hb1:Below w.heap.size w w1:=(Below.refl _ _).grown hgrow1 (Nat.le_refl _) (by intro k hk;cases hk)
  have hc0:w1.cell? ⟨w.heap.size,0,none⟩=some (.int .u8 0):=by
   rw [hown1.cellAt 0 (by omega),List.getElem?_map,List.getElem?_replicate,if_pos (by omega)];rfl
  have hf0:=hown1.frozenAt 0
  have HP:Hid (¬ n<0→(w1.setCell ⟨w.heap.size,0,none⟩ (.int .u8 128)).ownsRow w.heap.size 5 1 (.slice (some ⟨w.heap.size,0,none⟩) W W) W ((binRow n W 0).map (Value.int .u8))):=Lib.hid (fun h=>by
   have:=(hown1.stored 0 (.int .u8 128)).1
   rw [ints_set] at this
   rw [← binRow_start n W (by omega),show markB n=128 by unfold markB;rw [if_neg h]]
   exact this)
  have HN:Hid (n<0→((w1.setCell ⟨w.heap.size,0,none⟩ (.int .u8 128)).setCell ⟨w.heap.size,0,none⟩ (.int .u8 255)).ownsRow w.heap.size 5 1 (.slice (some ⟨w.heap.size,0,none⟩) W W) W ((binRow n W 0).map (Value.int .u8))):=Lib.hid (fun h=>by
   have:=((hown1.stored 0 (.int .u8 128)).1.stored 0 (.int .u8 255)).1
   rw [ints_set,ints_set,List.set_set] at this
   rw [← binRow_start n W (by omega),show markB n=255 by unfold markB;rw [if_pos h]]
   exact this)
  have hbl1:Below w.heap.size w (w1.setCell ⟨w.heap.size,0,none⟩ (.int .u8 128)):=hb1.setCell (Nat.le_refl _) _
  have hbl2:Below w.heap.size w ((w1.setCell ⟨w.heap.size,0,none⟩ (.int .u8 128)).setCell ⟨w.heap.size,0,none⟩ (.int .u8 255)):=hbl1.setCell (Nat.le_refl _) _
  clear hown1 hgrow1
  go_wp2
  clear hc0 hf0 hb1
  go_loopw [0,36] (fun v i wr=>∃ k:Nat,k≤W - 1∧i=.int .i64 k∧v=.int .i64 (shn n k)∧wr.ownsRow w.heap.size 5 1 (.slice (some ⟨w.heap.size,0,none⟩) W W) W ((binRow n W k).map (Value.int .u8))∧Below w.heap.size w wr) (fun _ i _=>W - (intOf i).toNat)
  case atStart=>first|exact ⟨0,by omega,rfl,by rw [shn_zero],HN.out hn,hbl2⟩|exact ⟨0,by omega,rfl,by rw [shn_zero],HP.out hn,hbl1⟩
  case round =>
   obtain ⟨k,hk,rfl,rfl,hown,hb⟩:=hrel
   clear HN HP hbl1 hbl2
   have hs:=shn_le n hn1 hn2 k
   obtain ⟨hs1,hs2⟩:=hs
   by_cases hlt:k<W - 1
   ·have hlt2:(k:Int)<(W:Int) - 1:=by omega
    have hbr:=binRow_length n W k hk (by omega)
    have hcell:∃ c,wr.cell? ⟨w.heap.size,W - 1 - k,none⟩=some c:=by
     rw [hown.cellAt (W - 1 - k) (by omega)]
     exact ⟨_,List.getElem?_eq_getElem (by simp;omega)⟩
    obtain ⟨c,hcell⟩:=hcell
    have hfr:=hown.frozenAt (W - 1 - k)
    have hst:=(hown.stored (W - 1 - k) (.int .u8 (shn n k % 256))).1
    rw [ints_set,binRow_step n W k hlt] at hst
    have Hst:=Lib.hid hst
    clear hst hown hbr
    go_wp2
    go_roundw
    case rel=>exact ⟨k+1,by omega,by go_num,by rw [shn_succ],Hst.out,hb.setCell (Nat.le_refl _) _⟩
    case measure=>simp [intOf];omega
   ·obtain rfl:k=W - 1:=by omega
    have hnl:¬ ((W - 1:Nat):Int)<(W:Int) - 1:=by omega
    rw [binRow_done] at hown
    have hlen:=binNums_length n W (by omega)
    have hconv:=run_convert_bytes_arg (P:=Tryz.prog) wr 67 5 Tryz.underlying67 Tryz.underlying5 w.heap.size 0 W W (binNums n W) hlen (fun i hi=>by
     rw [show 0+i=i by omega,hown.cellAt i (by omega),List.getElem?_map,List.getElem?_eq_getElem (by omega)]
     simp [List.getD,List.getElem?_eq_getElem (show i<(binNums n W).length by omega)]) 9 Tryz.underlying9
    clear hown hlen
    go_wp2
    go_ret2
    exact ⟨rfl,hb⟩
end Go.Proofs.YtdjcjaidklgamaaGreatDoor
end
section
namespace Go.Proofs.YtdjcjaidklgamaaGreatDoor
open Go.RowKit
end Go.Proofs.YtdjcjaidklgamaaGreatDoor
end
section
namespace Go.Proofs.YtdjcjaidklgamaaGreatDoor
def octn (n:Int) (k:Nat):Int:=n / 8 ^ k
theorem octn_zero (n:Int):octn n 0=n:=by simp [octn]
theorem octn_succ (n:Int) (k:Nat):octn n (k+1)=octn n k / 8:=by
 unfold octn
 rw [Int.pow_succ,Int.ediv_ediv_of_nonneg (Int.pow_nonneg (by decide))]
theorem octn_le (n:Int) (h1:0≤n) (h2:n≤9223372036854775807) (k:Nat):0≤octn n k∧octn n k≤9223372036854775807:=by
 induction k with
 | zero=>rw [octn_zero];exact ⟨h1,h2⟩
 | succ k ih=>rw [octn_succ];omega
def octB (n:Int):Nat→List Int
 | 0=>[]
 | k+1=>(48+octn n k % 8) :: octB n k
theorem octB_length (n:Int) (k:Nat):(octB n k).length=k:=by
 induction k with
 | zero=>rfl
 | succ k ih=>simp [octB,ih]
theorem octB_range (n:Int) (k:Nat):∀ x∈octB n k,48≤x∧x≤55:=by
 induction k with
 | zero=>intro x hx;cases hx
 | succ k ih =>
  intro x hx
  rcases List.mem_cons.1 hx with rfl|h
  ·omega
  ·exact ih x h
def octNums (n:Int) (W:Nat):List Int:=octB n (W - 1)++[0]
theorem octNums_length (n:Int) (W:Nat) (h:1≤W):(octNums n W).length=W:=by simp [octNums,octB_length];omega
def octRow (n:Int) (W k:Nat):List Int:=List.replicate (W - 1 - k) 0++(octB n k++[0])
theorem octRow_length (n:Int) (W k:Nat) (hk:k≤W - 1) (h:1≤W):(octRow n W k).length=W:=by simp [octRow,octB_length];omega
theorem octRow_start (n:Int) (W:Nat) (h:1≤W):List.replicate W (0:Int)=octRow n W 0:=by
 obtain ⟨V,rfl⟩:∃ V,W=V+1:=⟨W - 1,by omega⟩
 simp [octRow,octB,List.replicate_succ']
theorem octRow_done (n:Int) (W:Nat):octRow n W (W - 1)=octNums n W:=by simp [octRow,octNums]
theorem octRow_step (n:Int) (W k:Nat) (hk:k<W - 1):(octRow n W k).set (W - 2 - k) (48+octn n k % 8)=octRow n W (k+1):=by
 obtain ⟨d,hd⟩:∃ d,W - 1 - k=d+1:=⟨W - 1 - k - 1,by omega⟩
 have hd2:W - 1 - (k+1)=d:=by omega
 have hd3:W - 2 - k=d:=by omega
 unfold octRow
 rw [hd,hd2,hd3,List.replicate_succ',List.append_assoc]
 rw [List.set_append_right _ _ (by simp)]
 simp [octB]
theorem octn_pow (n:Int) (h:0≤n) (k:Nat):octn n k=0↔n<8 ^ k:=by
 have hp:(0:Int)<8 ^ k:=Int.pow_pos (by decide)
 unfold octn
 constructor
 ·intro h0
  have:=Int.lt_ediv_add_one_mul_self n hp
  rw [h0] at this;omega
 ·intro h0
  exact Int.ediv_eq_zero_of_lt h h0
end Go.Proofs.YtdjcjaidklgamaaGreatDoor
end
section
namespace Go.Proofs.YtdjcjaidklgamaaGreatDoor
theorem drop_get (s:ByteArray) (k:Nat) (h:k<s.size):s.data.toList.drop k=s[k] :: s.data.toList.drop (k+1):=by
 have h':k<s.data.toList.length:=by simpa using h
 rw [List.drop_eq_getElem_cons h'];rfl
theorem drop_end (s:ByteArray):s.data.toList.drop s.size=[]:=by
 apply List.drop_of_length_le;simp
theorem or_256 (n b:Int) (h1:-36028797018963968≤n) (h2:n≤36028797018963967) (h3:0≤b) (h4:b<256):bits .or .i64 (n * 256) b=n * 256+b:=by
 have key:(BitVec.ofInt 64 (n * 256) ||| BitVec.ofInt 64 b).toNat=(n % 72057594037927936).toNat * 256+b.toNat:=by
  rw [BitVec.toNat_or,BitVec.toNat_ofInt,BitVec.toNat_ofInt]
  have e1:(n * 256 % ((2 ^ 64:Nat):Int)).toNat=(n % 72057594037927936).toNat <<< 8:=by rw [Nat.shiftLeft_eq];omega
  have e2:(b % ((2 ^ 64:Nat):Int)).toNat=b.toNat:=by omega
  rw [e1,e2,← Nat.shiftLeft_add_eq_or_of_lt (by omega:b.toNat<2 ^ 8),Nat.shiftLeft_eq]
 show IntKind.i64.wrap ((BitVec.ofInt 64 (n * 256) ||| BitVec.ofInt 64 b).toNat:Nat)=_
 rw [key,IntKind.wrap_i64]
 omega
theorem or_8 (n b:Int) (h1:0≤n) (h2:n<1152921504606846976) (h3:0≤b) (h4:b<8):bits .or .i64 (n * 8) b=n * 8+b:=by
 have key:(BitVec.ofInt 64 (n * 8) ||| BitVec.ofInt 64 b).toNat=n.toNat * 8+b.toNat:=by
  rw [BitVec.toNat_or,BitVec.toNat_ofInt,BitVec.toNat_ofInt]
  have e1:(n * 8 % ((2 ^ 64:Nat):Int)).toNat=n.toNat <<< 3:=by rw [Nat.shiftLeft_eq];omega
  have e2:(b % ((2 ^ 64:Nat):Int)).toNat=b.toNat:=by omega
  rw [e1,e2,← Nat.shiftLeft_add_eq_or_of_lt (by omega:b.toNat<2 ^ 3),Nat.shiftLeft_eq]
 show IntKind.i64.wrap ((BitVec.ofInt 64 (n * 8) ||| BitVec.ofInt 64 b).toNat:Nat)=_
 rw [key,IntKind.wrap_i64]
 omega
def roF:Int→List UInt8→Int × Int
 | n,[]=>(n,0)
 | n,c :: l=>if (c.toNat:Int)<48∨55<(c.toNat:Int) then (0,3) else if 1152921504606846976≤n then (0,2) else roF (n * 8+((c.toNat:Int) - 48)) l
def rbF:Int→List UInt8→Int × Int
 | n,[]=>(n,0)
 | n,c :: l=>if n < -36028797018963968∨36028797018963967<n then (0,2) else rbF (n * 256+(c.toNat:Int)) l
theorem roF_bad {n:Int} {c:UInt8} {l:List UInt8} (h:(c.toNat:Int)<48∨55<(c.toNat:Int)):roF n (c :: l)=(0,3):=by rw [roF,if_pos h]
theorem roF_big {n:Int} {c:UInt8} {l:List UInt8} (h:¬ ((c.toNat:Int)<48∨55<(c.toNat:Int))) (h2:1152921504606846976≤n):roF n (c :: l)=(0,2):=by rw [roF,if_neg h,if_pos h2]
theorem roF_go {n:Int} {c:UInt8} {l:List UInt8} (h:¬ ((c.toNat:Int)<48∨55<(c.toNat:Int))) (h2:¬ 1152921504606846976≤n):roF n (c :: l)=roF (n * 8+((c.toNat:Int) - 48)) l:=by rw [roF,if_neg h,if_neg h2]
theorem rbF_big {n:Int} {c:UInt8} {l:List UInt8} (h:n < -36028797018963968∨36028797018963967<n):rbF n (c :: l)=(0,2):=by rw [rbF,if_pos h]
theorem rbF_go {n:Int} {c:UInt8} {l:List UInt8} (h:¬ (n < -36028797018963968∨36028797018963967<n)):rbF n (c :: l)=rbF (n * 256+(c.toNat:Int)) l:=by rw [rbF,if_neg h]
def trimL (l:List UInt8):List UInt8:=Lib.trimLeftB l 32
def trimR (l:List UInt8):List UInt8:=Lib.trimRightS l [32,0]
def firstF (c:UInt8):Int:=if (c.toNat:Int)=255 then -1 else (c.toNat:Int) - 128
def readF:List UInt8→Int × Int
 | []=>(0,3)
 | c :: r=>if 128≤(c.toNat:Int) then rbF (firstF c) r else roF 0 (trimR (trimL (c :: r)))
theorem readF_bin (c:UInt8) (r:List UInt8) (h:128≤c.toNat):readF (c :: r)=rbF (firstF c) r:=by
 show (if 128≤(c.toNat:Int) then rbF (firstF c) r else roF 0 (trimR (trimL (c :: r))))=_
 rw [if_pos (by omega)]
theorem readF_oct (c:UInt8) (r:List UInt8) (h:¬ 128≤c.toNat):readF (c :: r)=roF 0 (trimR (trimL (c :: r))):=by
 show (if 128≤(c.toNat:Int) then rbF (firstF c) r else roF 0 (trimR (trimL (c :: r))))=_
 rw [if_neg (by omega)]
end Go.Proofs.YtdjcjaidklgamaaGreatDoor
end
section
namespace Go.Proofs.YtdjcjaidklgamaaGreatDoor
def u8 (n:Int):UInt8:=UInt8.ofNat n.toNat
theorem u8_toNat (n:Int) (h1:0≤n) (h2:n≤255):((u8 n).toNat:Int)=n:=by
 unfold u8;rw [UInt8.toNat_ofNat'];omega
theorem strOf_list (x:List Int):(strOfNums x).data.toList=x.map u8:=strOfNums_data x
theorem emod_mul' (n a b:Int) (ha:0≤a):n % (a * b)=n % a+a * (n / a % b):=by
 rw [Int.emod_def,Int.emod_def n a,Int.emod_def (n / a) b,← Int.ediv_ediv_of_nonneg ha,Int.mul_sub,Int.mul_assoc]
 omega
theorem octn_mod (n:Int) (k:Nat):n % 8 ^ (k+1)=octn n k % 8 * 8 ^ k+n % 8 ^ k:=by
 have hp:(1:Int)≤8 ^ k:=Int.pow_pos (by decide)
 unfold octn
 rw [Int.pow_succ,emod_mul' _ _ _ (by omega),Int.mul_comm]
 omega
theorem roF_octB (n:Int):∀ (k:Nat) (m:Int),0≤m→(m+1) * 8 ^ k≤1152921504606846976→roF m ((octB n k).map u8)=(m * 8 ^ k+n % 8 ^ k,0):=by
 intro k
 induction k with
 | zero=>intro m h1 h2;simp [octB,roF,Int.emod_one]
 | succ k ih =>
  intro m h1 h2
  have hp:(1:Int)≤8 ^ k:=Int.pow_pos (by decide)
  have hd:0≤octn n k % 8∧octn n k % 8≤7:=by omega
  have hu:((u8 (48+octn n k % 8)).toNat:Int)=48+octn n k % 8:=u8_toNat _ (by omega) (by omega)
  have h8:(8:Int) ^ (k+1)=8 * 8 ^ k:=by rw [Int.pow_succ,Int.mul_comm]
  have hm:m<1152921504606846976:=by
   have h3:(m+1) * 8 ^ (k+1)=(m+1) * 8 * 8 ^ k:=by rw [h8,Int.mul_assoc]
   have h4:(m+1) * 8 * 1≤(m+1) * 8 * 8 ^ k:=Int.mul_le_mul_of_nonneg_left hp (by omega)
   omega
  rw [octB,List.map_cons,roF_go (by rw [hu];omega) (by omega),hu]
  rw [show m * 8+(48+octn n k % 8 - 48)=m * 8+octn n k % 8 by omega]
  have hle:(m * 8+octn n k % 8+1) * 8 ^ k≤(m+1) * 8 ^ (k+1):=by
   rw [h8,← Int.mul_assoc]
   exact Int.mul_le_mul_of_nonneg_right (by omega) (by omega)
  rw [ih _ (by omega) (by omega)]
  have hmod:=octn_mod n k
  rw [hmod,h8,Int.add_mul,Int.mul_assoc,Int.add_assoc]
theorem rbF_beB (n:Int) (h1:-9223372036854775808≤n) (h2:n≤9223372036854775807):∀ k:Nat,rbF (shn n k) ((beB n k).map u8)=(n,0):=by
 intro k
 induction k with
 | zero=>rw [shn_zero];rfl
 | succ k ih =>
  have hr:=shn_le n h1 h2 k
  have hu:((u8 (shn n k % 256)).toNat:Int)=shn n k % 256:=u8_toNat _ (by omega) (by omega)
  rw [beB,List.map_cons,shn_succ,rbF_go (by omega),hu]
  rw [show shn n k / 256 * 256+shn n k % 256=shn n k by omega]
  exact ih
theorem shn_top (n:Int) (W:Nat) (hW:8≤W) (h1:-9223372036854775808≤n) (h2:n≤9223372036854775807) (hr:W=8→-36028797018963968≤n∧n≤36028797018963967):shn n (W - 1)=if n<0 then -1 else 0:=by
 rcases Nat.lt_or_ge (W - 1) 8 with h|h
 ·have:W=8:=by omega
  subst this
  have:=hr rfl
  simp only [shn_succ,shn_zero]
  split <;> omega
 ·exact shn_big n h1 h2 _ h
theorem back_bin (n:Int) (W:Nat) (hW:8≤W) (h1:-9223372036854775808≤n) (h2:n≤9223372036854775807) (hr:W=8→-36028797018963968≤n∧n≤36028797018963967):readF ((binNums n W).map u8)=(n,0):=by
 have ht:=shn_top n W hW h1 h2 hr
 have hm:((u8 (markB n)).toNat:Int)=markB n:=u8_toNat _ (by unfold markB;split <;> omega) (by unfold markB;split <;> omega)
 have hf:firstF (u8 (markB n))=shn n (W - 1):=by
  unfold firstF
  rw [hm,ht]
  unfold markB
  by_cases hn:n<0
  ·rw [if_pos hn,if_pos rfl,if_pos hn]
  ·rw [if_neg hn,if_neg (by omega),if_neg hn];rfl
 unfold binNums
 rw [List.map_cons,readF_bin _ _ (by have:128≤markB n:=by unfold markB;split <;> omega
                                     omega),hf]
 exact rbF_beB n h1 h2 _
theorem octU_mem (n:Int) (k:Nat):∀ c∈(octB n k).map u8,48≤c.toNat∧c.toNat≤55:=by
 intro c hc
 obtain ⟨x,hx,rfl⟩:=List.mem_map.1 hc
 have:=octB_range n k x hx
 have:=u8_toNat x (by omega) (by omega)
 omega
theorem dropWhile_rep {p:UInt8→Bool} (c:UInt8) (hc:p c=true) (q:Nat) (l:List UInt8) (hl:∀ x,l.head?=some x→p x=false):(List.replicate q c++l).dropWhile p=l:=by
 induction q with
 | zero =>
  cases l with
  | nil=>rfl
  | cons x r=>simp [hl x rfl]
 | succ q ih=>rw [List.replicate_succ,List.cons_append,List.dropWhile_cons_of_pos hc,ih]
theorem head_last (l:List UInt8) (P:UInt8→Bool) (h:∀ x∈l,P x=false):∀ x,l.reverse.head?=some x→P x=false:=by
 intro x hx
 refine h x ?_
 have:=List.mem_of_head? hx
 exact List.mem_reverse.1 this
theorem trim_digits (n:Int) (k p q:Nat) (c:UInt8) (hc:c=32∨c=0):trimR (trimL (List.replicate p 32++((octB n k).map u8++List.replicate q c)))=(octB n k).map u8∨k=0:=by
 rcases Nat.eq_zero_or_pos k with h|hk
 ·exact .inr h
 refine .inl ?_
 have hm:=octU_mem n k
 have hl:((octB n k).map u8).length=k:=by simp [octB_length]
 generalize (octB n k).map u8=l at hm hl
 have e1:trimL (List.replicate p 32++(l++List.replicate q c))=l++List.replicate q c:=by
  unfold trimL Lib.trimLeftB
  refine dropWhile_rep 32 rfl p _ ?_
  intro x hx
  cases l with
  | nil=>simp at hl;omega
  | cons y r =>
   simp at hx
   subst hx
   have:=hm y (by simp)
   rw [beq_eq_false_iff_ne]
   rintro rfl
   simp at this
 rw [e1]
 unfold trimR Lib.trimRightS
 rw [List.reverse_append,List.reverse_replicate]
 rw [dropWhile_rep c (by rcases hc with rfl|rfl <;> rfl) q]
 ·exact List.reverse_reverse l
 ·refine head_last l _ fun x hx=>?_
  have:=hm x hx
  have h1:x≠32:=by rintro rfl;simp at this
  have h2:x≠0:=by rintro rfl;simp at this
  simp [h1,h2]
theorem readF_digits (n:Int) (k p q:Nat) (c:UInt8) (hc:c=32∨c=0) (h1:0≤n) (h2:n<8 ^ k) (hk:1≤k) (hk2:k≤19) :
  readF (List.replicate p 32++((octB n k).map u8++List.replicate q c))=(n,0):=by
 have ht:=(trim_digits n k p q c hc).resolve_right (by omega)
 have hro:roF 0 ((octB n k).map u8)=(n,0):=by
  have h8:(8:Int) ^ k≤8 ^ 19:=by
   have:=Nat.pow_le_pow_right (n:=8) (by decide) hk2
   exact_mod_cast this
  have h9:(8:Int) ^ 19=144115188075855872:=by decide +kernel
  rw [roF_octB n k 0 (by omega) (by omega),Int.emod_eq_of_lt h1 h2,Int.zero_mul,Int.zero_add]
 generalize hL:List.replicate p 32++((octB n k).map u8++List.replicate q c)=L at ht ⊢
 cases L with
 | nil =>
  have:=congrArg List.length hL
  simp [octB_length] at this
  omega
 | cons x r =>
  have hx:x.toNat<128:=by
   have hmem:x∈List.replicate p 32++((octB n k).map u8++List.replicate q c):=by rw [hL];simp
   rcases List.mem_append.1 hmem with h|h
   ·rw [(List.mem_replicate.1 h).2];decide
   ·rcases List.mem_append.1 h with h|h
    ·have:=octU_mem n k x h;omega
    ·rw [(List.mem_replicate.1 h).2];rcases hc with rfl|rfl <;> decide
  rw [readF_oct _ _ (by omega),ht,hro]
theorem back_oct (n:Int) (W:Nat) (hW1:2≤W) (hW2:W≤20) (h1:0≤n) (h2:n<8 ^ (W - 1)):readF ((octNums n W).map u8)=(n,0):=by
 have:=readF_digits n (W - 1) 0 1 0 (.inr rfl) h1 h2 (by omega) (by omega)
 unfold octNums
 rw [List.map_append]
 exact this
end Go.Proofs.YtdjcjaidklgamaaGreatDoor
end
section
namespace Go.Proofs.YtdjcjaidklgamaaGreatDoor
def bAt (l:List UInt8) (k:Nat):Int:=((l.getD k 0).toNat:Int)
theorem bAt_range (l:List UInt8) (k:Nat):0≤bAt l k∧bAt l k≤255:=by
 unfold bAt;have:=(l.getD k 0).toNat_lt;omega
theorem bAt_get (s:ByteArray) (k:Nat) (h:k<s.size):(s[k].toNat:Int)=bAt s.data.toList k:=by
 have h':k<s.data.toList.length:=by simpa using h
 unfold bAt
 rw [List.getD_eq_getElem?_getD,List.getElem?_eq_getElem h'];rfl
def bv (sg:Bool) (c:Int):Int:=if sg=true∧128≤c then c - 256 else c
theorem bv_range (sg:Bool) (c:Int) (h1:0≤c) (h2:c≤255):-128≤bv sg c∧bv sg c≤255:=by
 unfold bv;split <;> omega
def sumC (sg:Bool) (l:List UInt8):Nat→Int
 | 0=>0
 | k+1=>sumC sg l k+if 148≤k∧k<156 then 32 else bv sg (bAt l k)
theorem sumC_range (sg:Bool) (l:List UInt8) (k:Nat):-128 * (k:Int)≤sumC sg l k∧sumC sg l k≤255 * (k:Int):=by
 induction k with
 | zero=>exact ⟨by simp [sumC],by simp [sumC]⟩
 | succ k ih =>
  have hb:=bAt_range l k
  have:=bv_range sg (bAt l k) hb.1 hb.2
  rw [sumC]
  split <;> constructor <;> omega
def sumH (sg:Bool) (s:ByteArray):Int:=sumC sg s.data.toList 512
theorem sumH_range (sg:Bool) (s:ByteArray):-65536≤sumH sg s∧sumH sg s≤130560:=by
 have:=sumC_range sg s.data.toList 512
 unfold sumH;omega
theorem sumC_in (sg:Bool) (l:List UInt8) (k:Nat) (h:148≤k∧k<156):sumC sg l (k+1)=sumC sg l k+32:=by rw [sumC,if_pos h]
theorem sumC_out (sg:Bool) (l:List UInt8) (k:Nat) (h:¬ (148≤k∧k<156)):sumC sg l (k+1)=sumC sg l k+bv sg (bAt l k):=by rw [sumC,if_neg h]
theorem bv_u (c:Int):bv false c=c:=by simp [bv]
theorem bv_low (sg:Bool) (c:Int) (h:c<128):bv sg c=c:=by unfold bv;rw [if_neg (by omega)]
theorem bv_high (c:Int) (h:128≤c):bv true c=c - 256:=by unfold bv;rw [if_pos ⟨rfl,h⟩]
theorem i8_high (c:Int) (h:128≤c) (h2:c≤255):IntKind.i8.wrap c=c - 256:=by
 simp only [IntKind.wrap,IntKind.bits,IntKind.signed];simp;split <;> omega
end Go.Proofs.YtdjcjaidklgamaaGreatDoor
end
section
namespace Go.Proofs.YtdjcjaidklgamaaGreatDoor
theorem trim_digitsT (n:Int) (k:Nat) (hk:1≤k) (T:List UInt8) (hT:∀ c∈T,c=32∨c=0):trimR (trimL ((octB n k).map u8++T))=(octB n k).map u8:=by
 have hm:=octU_mem n k
 have hl:((octB n k).map u8).length=k:=by simp [octB_length]
 generalize (octB n k).map u8=l at hm hl
 have e1:trimL (l++T)=l++T:=by
  unfold trimL Lib.trimLeftB
  cases l with
  | nil=>simp at hl;omega
  | cons y r =>
   rw [List.cons_append,List.dropWhile_cons_of_neg]
   have:=hm y (by simp)
   intro h
   have h2:y=32:=by simpa using h
   subst h2
   simp at this
 rw [e1]
 unfold trimR Lib.trimRightS
 rw [List.reverse_append]
 have hT2:∀ (R:List UInt8),(∀ c∈R,c=32∨c=0)→∀ (X:List UInt8) (p:UInt8→Bool),(∀ c,(c=32∨c=0)→p c=true)→(∀ x,X.head?=some x→p x=false)→(R++X).dropWhile p=X:=by
  intro R
  induction R with
  | nil =>
   intro _ X p _ hX
   cases X with
   | nil=>rfl
   | cons x r=>simp [hX x rfl]
  | cons c R ih =>
   intro hR X p hp hX
   rw [List.cons_append,List.dropWhile_cons_of_pos (hp c (hR c (by simp)))]
   exact ih (fun c hc=>hR c (by simp [hc])) X p hp hX
 rw [hT2 T.reverse (fun c hc=>hT c (List.mem_reverse.1 hc)) l.reverse]
 ·exact List.reverse_reverse l
 ·rintro c (rfl|rfl) <;> rfl
 ·refine head_last l _ fun x hx=>?_
  have:=hm x hx
  have h1:x≠32:=by rintro rfl;simp at this
  have h2:x≠0:=by rintro rfl;simp at this
  simp [h1,h2]
theorem readF_digitsT (n:Int) (k:Nat) (T:List UInt8) (hT:∀ c∈T,c=32∨c=0) (h1:0≤n) (h2:n<8 ^ k) (hk:1≤k) (hk2:k≤19) :
  readF ((octB n k).map u8++T)=(n,0):=by
 have ht:=trim_digitsT n k hk T hT
 have hro:roF 0 ((octB n k).map u8)=(n,0):=by
  have h8:(8:Int) ^ k≤8 ^ 19:=by
   have:=Nat.pow_le_pow_right (n:=8) (by decide) hk2
   exact_mod_cast this
  have h9:(8:Int) ^ 19=144115188075855872:=by decide +kernel
  rw [roF_octB n k 0 (by omega) (by omega),Int.emod_eq_of_lt h1 h2,Int.zero_mul,Int.zero_add]
 generalize hL:(octB n k).map u8++T=L at ht ⊢
 cases L with
 | nil =>
  have:=congrArg List.length hL
  simp [octB_length] at this
  omega
 | cons x r =>
  have hx:x.toNat<128:=by
   have hmem:x∈(octB n k).map u8++T:=by rw [hL];simp
   rcases List.mem_append.1 hmem with h|h
   ·have:=octU_mem n k x h;omega
   ·rcases hT x h with rfl|rfl <;> decide
  rw [readF_oct _ _ (by omega),ht,hro]
def fieldL (l:List UInt8):List UInt8:=(l.drop 148).take 8
def sealL (l:List UInt8):List UInt8:=l.take 148++(octNums (sumC false l 512) 7).map u8++[32]++l.drop 156
def rightL (l:List UInt8):Prop:=l.length=512∧(readF (fieldL l)).2=0∧((readF (fieldL l)).1=sumC false l 512∨(readF (fieldL l)).1=sumC true l 512)
theorem sealL_length (l:List UInt8) (h:l.length=512):(sealL l).length=512:=by
 simp [sealL,octNums_length,h]
theorem sealL_low (l:List UInt8) (h:l.length=512) (k:Nat) (hk:k<148):(sealL l)[k]?=l[k]?:=by
 unfold sealL
 rw [List.append_assoc,List.append_assoc,List.getElem?_append_left (by simp;omega),List.getElem?_take_of_lt hk]
theorem sealL_high (l:List UInt8) (h:l.length=512) (k:Nat) (hk:156≤k):(sealL l)[k]?=l[k]?:=by
 unfold sealL
 rw [List.getElem?_append_right (by simp [octNums_length];omega),List.getElem?_drop]
 congr 1
 simp [octNums_length];omega
theorem bAt_congr (l m:List UInt8) (k:Nat) (h:l[k]?=m[k]?):bAt l k=bAt m k:=by
 unfold bAt;rw [List.getD_eq_getElem?_getD,List.getD_eq_getElem?_getD,h]
theorem sumC_congr (sg:Bool) (l m:List UInt8) (n:Nat) (h:∀ k,k<n→¬ (148≤k∧k<156)→bAt l k=bAt m k):sumC sg l n=sumC sg m n:=by
 induction n with
 | zero=>rfl
 | succ n ih =>
  rw [sumC,sumC,ih fun k hk=>h k (by omega)]
  split
  ·rfl
  ·next hn=>rw [h n (by omega) hn]
theorem sumC_seal (sg:Bool) (l:List UInt8) (h:l.length=512):sumC sg (sealL l) 512=sumC sg l 512 :=
 sumC_congr sg _ _ 512 fun k _ hn=>bAt_congr _ _ _ (by
  rcases Nat.lt_or_ge k 148 with hk|hk
  ·exact sealL_low l h k hk
  ·exact sealL_high l h k (by omega))
theorem fieldL_seal (l:List UInt8) (h:l.length=512):fieldL (sealL l)=(octB (sumC false l 512) 6).map u8++[0,32]:=by
 have e:sealL l=l.take 148++(((octB (sumC false l 512) 6).map u8++[0,32])++l.drop 156):=by
  unfold sealL octNums
  simp [u8]
 unfold fieldL
 rw [e,List.drop_left' (by simp;omega),List.take_left' (by simp [octB_length])]
theorem sumC_low (l:List UInt8) (n:Nat):0≤sumC false l n:=by
 induction n with
 | zero=>simp [sumC]
 | succ n ih =>
  have hb:=bAt_range l n
  rw [sumC,bv_u]
  split <;> omega
theorem readF_seal (l:List UInt8) (h:l.length=512):readF (fieldL (sealL l))=(sumC false l 512,0):=by
 rw [fieldL_seal l h]
 have h1:=sumC_low l 512
 have h2:=sumC_range false l 512
 have h8:(8:Int) ^ 6=262144:=by decide +kernel
 exact readF_digitsT _ 6 [0,32] (by intro c hc;simp at hc;rcases hc with rfl|rfl <;> simp) h1 (by omega) (by omega) (by omega)
theorem rightL_seal (l:List UInt8) (h:l.length=512):rightL (sealL l):=by
 refine ⟨sealL_length l h,?_,.inl ?_⟩
 ·rw [readF_seal l h]
 ·rw [readF_seal l h,sumC_seal false l h]
end Go.Proofs.YtdjcjaidklgamaaGreatDoor
end
section
namespace Go.Proofs.YtdjcjaidklgamaaGreatDoor
open Go.RowKit
theorem octal_arg (n W:Int) (w:World) (h:W<2∨20<W) :
  Calls Tryz.prog 155 #[.int .i64 n,.int .i64 W] w fun e w'=>e=.returned (.tuple #[.string ByteArray.empty,.iface 68 (.int .i64 1)])∧w'=w:=by
 rcases h with h|h
 ·go_enter Tryz.func155,Tryz.ntmps155
  go_wp2
  go_ret2
  exact ⟨rfl,rfl⟩
 ·have h':¬ W<2:=by omega
  go_enter Tryz.func155,Tryz.ntmps155
  go_wp2
  go_ret2
  exact ⟨rfl,rfl⟩
theorem octal_range (n W:Int) (w:World) (h1:2≤W) (h2:W≤20) (h:n<0∨mostF W<n) :
  Calls Tryz.prog 155 #[.int .i64 n,.int .i64 W] w fun e w'=>e=.returned (.tuple #[.string ByteArray.empty,.iface 68 (.int .i64 2)])∧w'=w:=by
 rcases Int.lt_or_le n 0 with hn|hn
 ·clear h
  go_enter Tryz.func155,Tryz.ntmps155
  go_wp2
  go_ret2
  exact ⟨rfl,rfl⟩
 ·have hm:mostF W<n:=by omega
  clear h
  go_enter Tryz.func155,Tryz.ntmps155
  go_wp2_with (go_at_call 80;refine (most_any _ _).mono ?_;rintro e w' ⟨rfl,rfl⟩)
  go_ret2
  exact ⟨rfl,rfl⟩
theorem i64_and7 (n:Int):bits .and .i64 n 7=n % 8:=by
 have h7:(BitVec.ofInt 64 7).toNat=2 ^ 3 - 1:=by decide
 have key:(BitVec.ofInt 64 n &&& BitVec.ofInt 64 7).toNat=(n % ((2 ^ 64:Nat):Int)).toNat % 2 ^ 3:=by
  rw [BitVec.toNat_and,BitVec.toNat_ofInt,h7,Nat.and_two_pow_sub_one_eq_mod]
 show IntKind.i64.wrap ((BitVec.ofInt 64 n &&& BitVec.ofInt 64 7).toNat:Nat)=n % 8
 rw [key,IntKind.wrap_i64]
 omega
set_option maxRecDepth 100000 in
set_option maxHeartbeats 2000000 in
theorem octal_ok (n:Int) (W:Nat) (w:World) (hW1:2≤W) (hW2:W≤20) (hn1:0≤n) (hn2:n≤mostF W) :
  Calls Tryz.prog 155 #[.int .i64 n,.int .i64 W] w fun e w'=>e=.returned (.tuple #[.string (strOfNums (octNums n W)),.nilIface])∧Below w.heap.size w w':=by
 obtain ⟨i0,hi,hz0,hz1,hz2⟩:=info_parts Tryz.infoU8
 have d1:decide ((W:Int)<2)=false:=by simp;omega
 have d2:decide (20<(W:Int))=false:=by simp;omega
 have d3:decide (mostF W<n)=false:=by simp;omega
 have d4:decide (n<0)=false:=by simp;omega
 have hn3:n≤9223372036854775807:=by
  have:=pow8_le W ⟨by omega,by omega⟩
  unfold mostF at hn2;rw [if_pos ⟨by omega,by omega⟩] at hn2;omega
 have h7:=fun n=>i64_and7 n
 go_enter Tryz.func155,Tryz.ntmps155
 go_wp2_with (first
  |(go_at_call 80;refine (most_any _ _).mono ?_;rintro e w' ⟨rfl,hw⟩;replace hw:=hw.symm;subst hw)
  |(at_make;refine wpList_make_full _ rfl _ _ 67 rfl w.heap.size 5 i0 (.int .u8 0) 1 Tryz.underlying67 hi hz0 hz1 _ _ _ _ W rfl rfl rfl rfl (by rw [hz2];omega) (by unfold maxLen;omega) (Nat.le_refl _) ?_))
 intro w1 hown1 hgrow1
 rw [show (madeCells #[Value.int .u8 0] W).toList=(List.replicate W (0:Int)).map (Value.int .u8) from (toList_madeCells_one _ _).trans (by simp),octRow_start n W (by omega)] at hown1
 have hb1:Below w.heap.size w w1:=(Below.refl _ _).grown hgrow1 (Nat.le_refl _) (by intro k hk;cases hk)
 have Hown1:=Lib.hid hown1
 clear hown1 hgrow1
 go_wp2
 go_loopw [0,28] (fun v i wr=>∃ k:Nat,k≤W - 1∧i=.int .i64 k∧v=.int .i64 (octn n k)∧wr.ownsRow w.heap.size 5 1 (.slice (some ⟨w.heap.size,0,none⟩) W W) W ((octRow n W k).map (Value.int .u8))∧Below w.heap.size w wr) (fun _ i _=>W - (intOf i).toNat)
 case atStart=>exact ⟨0,by omega,rfl,by rw [octn_zero],Hown1.out,hb1⟩
 case round =>
  obtain ⟨k,hk,rfl,rfl,hown,hb⟩:=hrel
  clear Hown1 hb1
  obtain ⟨hs1,hs2⟩:=octn_le n hn1 hn3 k
  by_cases hlt:k<W - 1
  ·have hlt2:(k:Int)<(W:Int) - 1:=by omega
   have hbr:=octRow_length n W k hk (by omega)
   have hcell:∃ c,wr.cell? ⟨w.heap.size,W - 2 - k,none⟩=some c:=by
    rw [hown.cellAt (W - 2 - k) (by omega)]
    exact ⟨_,List.getElem?_eq_getElem (by simp;omega)⟩
   obtain ⟨c,hcell⟩:=hcell
   have hfr:=hown.frozenAt (W - 2 - k)
   have hst:=(hown.stored (W - 2 - k) (.int .u8 (48+octn n k % 8))).1
   rw [ints_set,octRow_step n W k hlt] at hst
   have Hst:=Lib.hid hst
   clear hst hown hbr
   go_wp2
   go_roundw
   case rel =>
    exact ⟨k+1,by omega,by go_num,by rw [octn_succ],Hst.out,hb.setCell (Nat.le_refl _) _⟩
   case measure=>simp [intOf];omega
  ·obtain rfl:k=W - 1:=by omega
   have hnl:¬ ((W - 1:Nat):Int)<(W:Int) - 1:=by omega
   rw [octRow_done] at hown
   have hlen:=octNums_length n W (by omega)
   have hconv:=run_convert_bytes_arg (P:=Tryz.prog) wr 67 5 Tryz.underlying67 Tryz.underlying5 w.heap.size 0 W W (octNums n W) hlen (fun i hi=>by
    rw [show 0+i=i by omega,hown.cellAt i (by omega),List.getElem?_map,List.getElem?_eq_getElem (by omega)]
    simp [List.getD,List.getElem?_eq_getElem (show i<(octNums n W).length by omega)]) 9 Tryz.underlying9
   clear hown hlen
   go_wp2
   go_ret2
   exact ⟨rfl,hb⟩
end Go.Proofs.YtdjcjaidklgamaaGreatDoor
end
section
namespace Go.Proofs.YtdjcjaidklgamaaGreatDoor
open Go.RowKit
theorem mostF_octn (n:Int) (W:Nat) (h1:2≤W) (h2:W≤20) (hn:0≤n):n≤mostF W↔octn n (W - 1)=0:=by
 rw [octn_pow n hn]
 unfold mostF
 rw [if_pos ⟨by omega,by omega⟩]
 unfold ipw
 rw [show ((W:Int) - 1).toNat=W - 1 by omega]
 omega
end Go.Proofs.YtdjcjaidklgamaaGreatDoor
end
section
namespace Go.Proofs.YtdjcjaidklgamaaGreatDoor
open Go.RowKit
end Go.Proofs.YtdjcjaidklgamaaGreatDoor
end
section
namespace Go.Proofs.YtdjcjaidklgamaaGreatDoor
open Go.RowKit
inductive Wr:Int→Int→Bool→Int→ByteArray→Prop
 | arg (n W:Int) (b:Bool):(W<2∨20<W)→Wr n W b 1 ByteArray.empty
 | oct (n:Int) (W:Nat) (b:Bool):2≤W→W≤20→0≤n→n≤mostF W→Wr n W b 0 (strOfNums (octNums n W))
 | no (n:Int) (W:Nat) (b:Bool):2≤W→W≤20→(n<0∨mostF W<n)→(b=false∨W<8)→Wr n W b 2 ByteArray.empty
 | range (n:Int):(n < -36028797018963968∨36028797018963967<n)→Wr n 8 true 2 ByteArray.empty
 | bin (n:Int) (W:Nat):8≤W→W≤20→(n<0∨mostF W<n)→(W=8→-36028797018963968≤n∧n≤36028797018963967)→Wr n W true 0 (strOfNums (binNums n W))
def errV (e:Int):Value:=if e=0 then .nilIface else .iface 68 (.int .i64 e)
def WrGo (e:Int) (s:ByteArray) (w:World) (x:Ending) (w':World):Prop:=x=.returned (.tuple #[.string s,errV e])∧Below w.heap.size w w'
theorem most8:mostF 8=2097151:=by unfold mostF ipw;decide +kernel
theorem Tryz.eqErr (a b:Int) (w:World):(binOp .eql 31 (.iface 68 (.int .i64 a)) (.iface 68 (.int .i64 b))).run Tryz.prog w=.ok (.bool (a==b)) w :=
 Lib.run_eql_iface_int w a b Tryz.underlying31 (by kernel_rfl) Tryz.underlying68
theorem Tryz.eqNilErr (v:Value) (w:World):(binOp .eql 31 .nilIface (.iface 68 v)).run Tryz.prog w=.ok (.bool false) w :=
 run_eql_iface_nil_left w 68 v Tryz.underlying31
set_option maxHeartbeats 1000000 in
theorem write_any (n W:Int) (b:Bool) (e:Int) (s:ByteArray) (h:Wr n W b e s) (hn1:-9223372036854775808≤n) (hn2:n≤9223372036854775807) (w:World) :
  Calls Tryz.prog 152 #[.int .i64 n,.int .i64 W,.bool b] w (WrGo e s w):=by
 have q1:=Tryz.eqErr
 have q2:=Tryz.eqNilErr
 cases h with
 | arg _ _ h =>
  have H:=Lib.hid h
  clear h
  go_enter Tryz.func152,Tryz.ntmps152
  go_wp2_with (go_at_call 155;refine (octal_arg _ _ _ H.out).mono ?_;rintro e w' ⟨rfl,rfl⟩)
  go_ret2
  exact ⟨rfl,Below.refl _ _⟩
 | oct V _ h1 h2 h3 h4 =>
  go_enter Tryz.func152,Tryz.ntmps152
  go_wp2_with (go_at_call 155;refine (octal_ok _ V _ h1 h2 h3 h4).mono ?_;rintro e w' ⟨rfl,hb⟩)
  go_ret2
  exact ⟨rfl,hb⟩
 | no V _ h1 h2 h3 h4 =>
  have H:=Lib.hid h3
  have hW1:(2:Int)≤(V:Int):=by omega
  have hW2:(V:Int)≤20:=by omega
  clear h3
  rcases h4 with rfl|h4
  ·go_enter Tryz.func152,Tryz.ntmps152
   go_wp2_with (go_at_call 155;refine (octal_range _ _ _ hW1 hW2 H.out).mono ?_;rintro e w' ⟨rfl,rfl⟩)
   go_ret2
   exact ⟨rfl,Below.refl _ _⟩
  ·have h5:¬ (8:Int)≤(V:Int):=by omega
   cases b
   all_goals
    go_enter Tryz.func152,Tryz.ntmps152
    go_wp2_with (go_at_call 155;refine (octal_range _ _ _ hW1 hW2 H.out).mono ?_;rintro e w' ⟨rfl,rfl⟩)
    go_ret2
    exact ⟨rfl,Below.refl _ _⟩
 | range h =>
  have H:=Lib.hid h
  have hm:n<0∨mostF 8<n:=by rw [most8];omega
  have Hm:=Lib.hid hm
  clear h hm
  go_enter Tryz.func152,Tryz.ntmps152
  go_wp2_with (first
   |(go_at_call 155;refine (octal_range _ _ _ (by omega) (by omega) Hm.out).mono ?_;rintro e w' ⟨rfl,rfl⟩)
   |(go_at_call 176;refine (binary_range _ _ H.out).mono ?_;rintro e w' ⟨rfl,rfl⟩))
  go_ret2
  exact ⟨rfl,Below.refl _ _⟩
 | bin V h1 h2 h3 h4 =>
  have H:=Lib.hid h3
  have H4:=Lib.hid h4
  have hW1:(2:Int)≤(V:Int):=by omega
  have hW2:(V:Int)≤20:=by omega
  have hW3:(8:Int)≤(V:Int):=by omega
  clear h3 h4
  go_enter Tryz.func152,Tryz.ntmps152
  go_wp2_with (first
   |(go_at_call 155;refine (octal_range _ _ _ hW1 hW2 H.out).mono ?_;rintro e w' ⟨rfl,rfl⟩)
   |(go_at_call 176;refine (binary_ok _ V _ h1 h2 hn1 hn2 H4.out).mono ?_;rintro e w' ⟨rfl,hb⟩))
  go_ret2
  exact ⟨rfl,hb⟩
theorem write_nil (n W:Int) (b:Bool) (s:ByteArray) (h:Wr n W b 0 s) (hn1:-9223372036854775808≤n) (hn2:n≤9223372036854775807) (w:World) :
  Calls Tryz.prog 152 #[.int .i64 n,.int .i64 W,.bool b] w fun x w'=>x=.returned (.tuple #[.string s,.nilIface])∧Below w.heap.size w w' :=
 (write_any n W b 0 s h hn1 hn2 w).mono fun _ _ ⟨a,c⟩=>⟨a,c⟩
theorem write_err (n W:Int) (b:Bool) (e:Int) (he:e≠0) (s:ByteArray) (h:Wr n W b e s) (hn1:-9223372036854775808≤n) (hn2:n≤9223372036854775807) (w:World) :
  Calls Tryz.prog 152 #[.int .i64 n,.int .i64 W,.bool b] w fun x w'=>x=.returned (.tuple #[.string s,.iface 68 (.int .i64 e)])∧Below w.heap.size w w' :=
 (write_any n W b e s h hn1 hn2 w).mono fun _ _ ⟨a,c⟩=>⟨by rw [a];unfold errV;rw [if_neg he],c⟩
end Go.Proofs.YtdjcjaidklgamaaGreatDoor
end
section
namespace Go.Proofs.YtdjcjaidklgamaaGreatDoor
open Go.RowKit
def NumErr (p:Int × Int) (e:Ending):Prop:=e=.returned (.tuple #[.int .i64 p.1,errV p.2])
theorem readOctal_any (s:ByteArray) (w:World) (hs:s.size≤9223372036854775807) :
  Calls Tryz.prog 159 #[.string s] w fun e w'=>NumErr (roF 0 s.data.toList) e∧w'=w:=by
 go_enter Tryz.func159,Tryz.ntmps159
 go_wp2
 go_loop [4,8] (fun v i=>∃ (k:Nat) (n:Int),k≤s.size∧i=.int .i64 k∧v=.int .i64 n∧0≤n∧n≤9223372036854775807∧roF 0 s.data.toList=roF n (s.data.toList.drop k)) (fun _ i=>s.size - (intOf i).toNat)
 case atStart=>exact ⟨0,0,by omega,rfl,rfl,by omega,by omega,rfl⟩
 case round =>
  obtain ⟨k,n,hk,rfl,rfl,hn1,hn2,hr⟩:=hrel
  have Hr:=Lib.hid hr
  clear hr
  by_cases hlt:k<s.size
  ·have hd:=drop_get s k hlt
   have Hd:=Lib.hid hd
   clear hd
   by_cases h1:(s[k].toNat:Int)<48
   ·go_wp2
    go_ret2
    exact ⟨by unfold NumErr;rw [Hr.out,Hd.out,roF_bad (.inl h1)];rfl,rfl⟩
   ·by_cases h2:55<(s[k].toNat:Int)
    ·go_wp2
     go_ret2
     exact ⟨by unfold NumErr;rw [Hr.out,Hd.out,roF_bad (.inr h2)];rfl,rfl⟩
    ·have h3:decide (55<(s[k].toNat:Int))=false:=by simpa using h2
     by_cases h4:1152921504606846976≤n
     ·go_wp2
      go_ret2
      exact ⟨by unfold NumErr;rw [Hr.out,Hd.out,roF_big (by omega) h4];rfl,rfl⟩
     ·have ho:=or_8 n ((s[k].toNat:Int) - 48) hn1 (by omega) (by omega) (by omega)
      have h5:n * 8+((s[k].toNat:Int) - 48)≤9223372036854775807:=by omega
      have h6:0≤n * 8+((s[k].toNat:Int) - 48):=by omega
      go_wp2
      go_round
      case rel=>exact ⟨k+1,_,by omega,by go_num,rfl,h6,h5,by rw [Hr.out,Hd.out,roF_go (by omega) h4]⟩
      case measure=>simp [intOf];omega
  ·obtain rfl:k=s.size:=by omega
   go_wp2
   go_ret2
   exact ⟨by unfold NumErr;rw [Hr.out,drop_end];rfl,rfl⟩
theorem firstF_range (c:UInt8) (h:128≤(c.toNat:Int)):-1≤firstF c∧firstF c≤126:=by
 have:=c.toNat_lt
 unfold firstF;split <;> omega
def rbS (s:ByteArray):Int × Int:=rbF (firstF (s.data.toList.headD 0)) (s.data.toList.drop 1)
set_option maxHeartbeats 1000000 in
theorem readBinary_any (s:ByteArray) (w:World) (h0:0<s.size) (hs:s.size≤9223372036854775807) (hc:128≤(s[0].toNat:Int)) :
  Calls Tryz.prog 158 #[.string s] w fun e w'=>NumErr (rbS s) e∧w'=w:=by
 have hr0:=firstF_range s[0] hc
 obtain ⟨hr1,hr2⟩:=hr0
 have hS:rbS s=rbF (firstF s[0]) (s.data.toList.drop 1):=by
  unfold rbS
  have:=drop_get s 0 h0
  rw [List.drop_zero] at this
  rw [show s.data.toList.headD 0=s[0] by rw [this];rfl]
 have HS:=Lib.hid hS
 clear hS
 have hu:(s[0].toNat:Int)≤255:=by have:=s[0].toNat_lt;omega
 have hcase:((s[0].toNat:Int)==255)=true∧firstF s[0]=-1∨((s[0].toNat:Int)==255)=false∧firstF s[0]=(s[0].toNat:Int) - 128:=by
  unfold firstF
  by_cases h:(s[0].toNat:Int)=255
  ·exact .inl ⟨by rw [beq_iff_eq];exact h,by rw [if_pos h]⟩
  ·exact .inr ⟨by rw [beq_eq_false_iff_ne];exact h,by rw [if_neg h]⟩
 rcases hcase with ⟨q1,q2⟩|⟨q1,q2⟩
 all_goals
  have Q2:=Lib.hid q2
  clear q2
  go_enter Tryz.func158,Tryz.ntmps158
  go_wp2
  go_loop [4,16] (fun v i=>∃ (k:Nat) (n:Int),k≤s.size - 1∧i=.int .i64 k∧v=.int .i64 n∧-9223372036854775808≤n∧n≤9223372036854775807∧rbS s=rbF n (s.data.toList.drop (k+1))) (fun _ i=>s.size - (intOf i).toNat)
  case atStart=>exact ⟨0,firstF s[0],by omega,rfl,by rw [Q2.out],by omega,by omega,HS.out⟩
  case round =>
   obtain ⟨k,n,hk,rfl,rfl,hn1,hn2,hr⟩:=hrel
   have Hr:=Lib.hid hr
   clear hr
   by_cases hlt:k<s.size - 1
   ·have hlt3:k+1<s.size:=by omega
    have hlt2:(k:Int)<(s.size:Int) - 1:=by omega
    have hd:=drop_get s (k+1) hlt3
    have Hd:=Lib.hid hd
    clear hd
    by_cases h1:n < -36028797018963968
    ·go_wp2
     go_ret2
     exact ⟨by unfold NumErr;rw [Hr.out,Hd.out,rbF_big (.inl h1)];rfl,rfl⟩
    ·by_cases h2:36028797018963967<n
     ·go_wp2
      go_ret2
      exact ⟨by unfold NumErr;rw [Hr.out,Hd.out,rbF_big (.inr h2)];rfl,rfl⟩
     ·have h3:decide (36028797018963967<n)=false:=by simpa using h2
      have hu2:(s[k+1].toNat:Int)≤255:=by have:=s[k+1].toNat_lt;omega
      have ho:=or_256 n (s[k+1].toNat:Int) (by omega) (by omega) (by omega) (by omega)
      have h5:n * 256+(s[k+1].toNat:Int)≤9223372036854775807:=by omega
      have h6:-9223372036854775808≤n * 256+(s[k+1].toNat:Int):=by omega
      go_wp2
      go_round
      case rel=>exact ⟨k+1,_,by omega,by go_num,rfl,h6,h5,by rw [Hr.out,Hd.out,rbF_go (by omega)]⟩
      case measure=>simp [intOf];omega
   ·obtain rfl:k=s.size - 1:=by omega
    have hnl:¬ ((s.size - 1:Nat):Int)<(s.size:Int) - 1:=by omega
    go_wp2
    go_ret2
    exact ⟨by unfold NumErr;rw [Hr.out,show s.size - 1+1=s.size by omega,drop_end];rfl,rfl⟩
theorem Tryz.infoSet:(Tryz.prog.info? 90).map (fun i=>(i.zero,i.size))=some (some (.agg (Array.replicate 256 (.bool false))),256):=by kernel_rfl
theorem ascii_of:∀ (j:Nat) b,(⟨#[32,0]⟩:ByteArray).data.toList[j]?=some b→b.toNat<128:=by
 intro j b h
 match j with
 | 0=>simp at h;subst h;decide
 | 1=>simp at h;subst h;decide
 | j+2=>simp at h
theorem trimLeft_any (s:ByteArray) (w:World) :
  Calls Tryz.prog 160 #[.string s,.string ⟨#[32]⟩] w fun e w'=>e=.returned (.string ⟨(trimL s.data.toList).toArray⟩)∧w'=w :=
 Any.strings_TrimLeft_one Tryz.lays161 s 32 (by decide) w
theorem trimRight_any (s:ByteArray) (w:World) (hs:s.size≤9223372036854775807) :
  Calls Tryz.prog 24 #[.string s,.string ⟨#[32,0]⟩] w fun e w'=>e=.returned (.string ⟨(trimR s.data.toList).toArray⟩)∧Below w.heap.size w w' :=
 Any.strings_TrimRight_laid Tryz.lays162 Tryz.infoSet s ⟨#[32,0]⟩ w hs (by decide) ascii_of
theorem trimL_len (l:List UInt8):(trimL l).length≤l.length:=by
 unfold trimL Lib.trimLeftB;exact (List.dropWhile_sublist _).length_le
theorem trimR_len (l:List UInt8):(trimR l).length≤l.length:=by
 unfold trimR Lib.trimRightS
 rw [List.length_reverse]
 exact Nat.le_trans (List.dropWhile_sublist _).length_le (by simp)
def readS (s:ByteArray):Int × Int:=readF s.data.toList
set_option maxRecDepth 100000 in
set_option maxHeartbeats 1000000 in
theorem read_any (s:ByteArray) (w:World) (hs:s.size≤9223372036854775807) :
  Calls Tryz.prog 129 #[.string s] w fun e w'=>NumErr (readS s) e∧Below w.heap.size w w':=by
 by_cases h0:s.size=0
 ·have hl:s.data.toList=[]:=by
   apply List.eq_nil_of_length_eq_zero;simpa using h0
  have hl2:s.toList=[]:=by rw [ByteArray.toList_eq];exact hl
  have Hl:=Lib.hid hl
  clear hl h0
  go_enter Tryz.func129,Tryz.ntmps129
  go_wp2
  go_ret2
  exact ⟨by unfold NumErr readS;rw [Hl.out];rfl,Below.refl _ _⟩
 ·have h1:0<s.size:=by omega
  have hd:s.data.toList=s[0] :: s.data.toList.drop 1:=drop_get s 0 h1
  have hl2:s.toList.isEmpty=false:=by rw [ByteArray.toList_eq,hd];rfl
  have hl3:(s.toList==[])=false:=by rw [ByteArray.toList_eq,hd];rfl
  have Hd:=Lib.hid hd
  clear hd h0
  have hz1:=trimL_len s.data.toList
  have hz2:=trimR_len (trimL s.data.toList)
  have hz3:s.data.toList.length=s.size:=by simp
  have hz4:(⟨(trimL s.data.toList).toArray⟩:ByteArray).size≤9223372036854775807:=by show (trimL s.data.toList).toArray.size≤_;rw [List.size_toArray];omega
  have hz5:(⟨(trimR (trimL s.data.toList)).toArray⟩:ByteArray).size≤9223372036854775807:=by show (trimR (trimL s.data.toList)).toArray.size≤_;rw [List.size_toArray];omega
  have Hz4:=Lib.hid hz4
  have Hz5:=Lib.hid hz5
  clear hz1 hz2 hz3 hz4 hz5
  by_cases hc:128≤(s[0].toNat:Int)
  ·have hS:readS s=rbS s:=by
    unfold readS rbS
    have h:=Hd.out
    rw [show s.data.toList.headD 0=s[0] by rw [h];rfl]
    rw [show readF s.data.toList=readF (s[0] :: s.data.toList.drop 1) by rw [← h]]
    rw [readF_bin _ _ (by omega)]
   have HS:=Lib.hid hS
   clear hS
   go_enter Tryz.func129,Tryz.ntmps129
   go_wp2_with (go_at_call 158;refine (readBinary_any _ _ h1 hs hc).mono ?_;rintro e w' ⟨he,rfl⟩;unfold NumErr at he;subst he)
   go_ret2
   exact ⟨by unfold NumErr;rw [HS.out];rfl,Below.refl _ _⟩
  ·have hS:readS s=roF 0 (trimR (trimL s.data.toList)):=by
    unfold readS
    have h:=Hd.out
    rw [show readF s.data.toList=readF (s[0] :: s.data.toList.drop 1) by rw [← h]]
    rw [readF_oct _ _ (by omega),← h]
   have HS:=Lib.hid hS
   clear hS
   go_enter Tryz.func129,Tryz.ntmps129
   go_wp2_with (first
    |(go_at_call 160;refine (trimLeft_any _ _).mono ?_;rintro e w' ⟨rfl,rfl⟩)
    |(go_at_call 24;refine (trimRight_any _ _ Hz4.out).mono ?_;rintro e w1 ⟨rfl,hb⟩)
    |(go_at_call 159;refine (readOctal_any _ _ Hz5.out).mono ?_;rintro e w' ⟨he,rfl⟩;unfold NumErr at he;subst he))
   go_ret2
   exact ⟨by unfold NumErr;rw [HS.out];rfl,hb⟩
theorem roF_err:∀ (l:List UInt8) (n:Int),(roF n l).2≠0→(roF n l).1=0
 | [],n,h=>absurd rfl h
 | c :: l,n,h=>by
  unfold roF at h ⊢
  split
  ·rfl
  ·split
   ·rfl
   ·rename_i h1 h2
    rw [if_neg h1,if_neg h2] at h
    exact roF_err l _ h
theorem rbF_err:∀ (l:List UInt8) (n:Int),(rbF n l).2≠0→(rbF n l).1=0
 | [],n,h=>absurd rfl h
 | c :: l,n,h=>by
  unfold rbF at h ⊢
  split
  ·rfl
  ·rename_i h1
   rw [if_neg h1] at h
   exact rbF_err l _ h
theorem readF_err (l:List UInt8) (h:(readF l).2≠0):(readF l).1=0:=by
 unfold readF at h ⊢
 split
 ·rfl
 ·rename_i c r
  simp only at h
  split
  ·rename_i hc;rw [if_pos hc] at h;exact rbF_err _ _ h
  ·rename_i hc;rw [if_neg hc] at h;exact roF_err _ _ h
theorem read_ok (s:ByteArray) (n:Int) (h:readS s=(n,0)) (w:World) (hs:s.size≤9223372036854775807) :
  Calls Tryz.prog 129 #[.string s] w fun e w'=>e=.returned (.tuple #[.int .i64 n,.nilIface])∧Below w.heap.size w w' :=
 (read_any s w hs).mono fun _ _ ⟨a,b⟩=>⟨by unfold NumErr at a;rw [a,h];rfl,b⟩
theorem read_err (s:ByteArray) (e:Int) (he:e≠0) (h:readS s=(0,e)) (w:World) (hs:s.size≤9223372036854775807) :
  Calls Tryz.prog 129 #[.string s] w fun x w'=>x=.returned (.tuple #[.int .i64 0,.iface 68 (.int .i64 e)])∧Below w.heap.size w w' :=
 (read_any s w hs).mono fun _ _ ⟨a,b⟩=>⟨by unfold NumErr at a;rw [a,h];unfold errV;rw [if_neg he],b⟩
theorem readS_any (s:ByteArray):(∃ n,readS s=(n,0))∨∃ e,e≠0∧readS s=(0,e):=by
 by_cases h:(readS s).2=0
 ·exact .inl ⟨(readS s).1,by rw [← h]⟩
 ·exact .inr ⟨(readS s).2,h,by rw [← readF_err s.data.toList h];rfl⟩
end Go.Proofs.YtdjcjaidklgamaaGreatDoor
end
section
namespace Go.Proofs.YtdjcjaidklgamaaGreatDoor
open Go.RowKit
theorem below_drewN {B:Nat} {a w:World} (h:Below B a w) (n:Nat):Below B a (w.drewN n):=⟨h.os,h.tape,h.output,h.size,h.block⟩
end Go.Proofs.YtdjcjaidklgamaaGreatDoor
end
section
namespace Go.Proofs.YtdjcjaidklgamaaGreatDoor
open Go.RowKit
theorem c_eq (c:UInt8) (n:Nat) (hn:n<256):c=UInt8.ofNat n↔(c.toNat:Int)=n:=by
 constructor
 ·rintro rfl
  rw [UInt8.toNat_ofNat'];omega
 ·intro h
  apply UInt8.toNat_inj.1
  rw [UInt8.toNat_ofNat'];omega
end Go.Proofs.YtdjcjaidklgamaaGreatDoor
end
section
namespace Go.Proofs.YtdjcjaidklgamaaGreatDoor
open Go.RowKit
end Go.Proofs.YtdjcjaidklgamaaGreatDoor
end
section
namespace Go.Proofs.YtdjcjaidklgamaaGreatDoor
open Go.RowKit
set_option maxRecDepth 100000 in
set_option maxHeartbeats 1000000 in
theorem sum_ok (s:ByteArray) (sg:Bool) (w:World) (h:s.size=512) :
  Calls Tryz.prog 154 #[.string s,.bool sg] w fun e w'=>e=.returned (.tuple #[.int .i64 (sumH sg s),.nilIface])∧w'=w:=by
 have q1:((s.size:Int)==512)=true:=by rw [beq_iff_eq];omega
 have q2:((s.size:Int) != 512)=false:=by rw [bne_eq_false_iff_eq];omega
 have H:=Lib.hid h
 have hs1:s.size≤512:=by omega
 clear h
 go_enter Tryz.func154,Tryz.ntmps154
 go_wp2
 go_loop [6,14] (fun v i=>∃ k:Nat,k≤512∧i=.int .i64 (k:Int)∧v=.int .i64 (sumC sg s.data.toList k)) (fun _ i=>512 - (intOf i).toNat)
 case atStart=>exact ⟨0,by omega,rfl,rfl⟩
 case round =>
  obtain ⟨k,hk,rfl,rfl⟩:=hrel
  obtain ⟨hr1,hr2⟩:=sumC_range sg s.data.toList k
  by_cases hlt:k<512
  ·have hlt2:k<s.size:=by have:=H.out;omega
   have hlt3:(k:Int)<(s.size:Int):=by omega
   have hba:=bAt_get s k hlt2
   have Hba:=Lib.hid hba
   have hu:(s[k].toNat:Int)≤255:=by have:=s[k].toNat_lt;omega
   clear hba
   have hu0:0≤(s[k].toNat:Int):=by omega
   by_cases c1:148≤k∧k<156
   ·obtain ⟨c2,c3⟩:=c1
    go_wp2
    go_round
    case rel=>exact ⟨k+1,by omega,by go_num,by rw [sumC_in sg _ k ⟨c2,c3⟩]⟩
    case measure=>simp [intOf];omega
   ·have hside:k<148∨156≤k:=by omega
    have c9:¬ (148≤k∧k<156):=c1
    have C9:=Lib.hid c9
    clear c1 c9
    cases sg
    ·rcases hside with c2|c2
     all_goals
      go_wp2
      go_round
      case rel=>exact ⟨k+1,by omega,by go_num,by rw [sumC_out false _ k C9.out,bv_u,← Hba.out]⟩
      case measure=>simp [intOf];omega
    ·by_cases c4:(s[k].toNat:Int)<128
     ·rcases hside with c2|c2
      all_goals
       go_wp2
       go_round
       case rel=>exact ⟨k+1,by omega,by go_num,by rw [sumC_out true _ k C9.out,bv_low true _ (by rw [← Hba.out];exact c4),← Hba.out]⟩
       case measure=>simp [intOf];omega
     ·have e8:=i8_high (s[k].toNat:Int) (by omega) hu
      rcases hside with c2|c2
      all_goals
       go_wp2
       go_round
       case rel=>exact ⟨k+1,by omega,by go_num,by rw [sumC_out true _ k C9.out,bv_high _ (by rw [← Hba.out];omega),← Hba.out]⟩
       case measure=>simp [intOf];omega
  ·obtain rfl:k=512:=by omega
   have hnl:¬ ((512:Nat):Int)<(s.size:Int):=by omega
   go_wp2
   go_ret2
   exact ⟨rfl,rfl⟩
theorem below_bytesWorld (w:World) (e:TypeId) (s:ByteArray):Below w.heap.size w (Lib.bytesWorld w e s) :=
 ⟨rfl,rfl,rfl,by rw [Lib.bytesWorld_size];omega,fun k hk=>Lib.bytesWorld_at_old w e s k hk⟩
end Go.Proofs.YtdjcjaidklgamaaGreatDoor
end
section
namespace Go.Proofs.YtdjcjaidklgamaaGreatDoor
open Go.RowKit
def sealB (s:ByteArray):ByteArray:=⟨(s.data.toList.take 148++((octNums (sumH false s) 7).map fun n:Int=>UInt8.ofNat n.toNat)++[32]++s.data.toList.drop 156).toArray⟩
set_option maxRecDepth 100000
theorem self_mk (s:ByteArray):s=⟨s.data.toList.toArray⟩:=by cases s;simp
theorem seal_to (s:ByteArray) (h:s.size=512) (w:World):(Instr.slice 9 (.string s) none (some (.int .i64 148)) none).run Tryz.prog w=.ok (.string ⟨(s.data.toList.take 148).toArray⟩) w:=by
 rw [run_slice_string_to_if w 9 _ .i64 _ Tryz.underlying9,if_pos ⟨by omega,by omega⟩]
 have:s.extract 0 (148:Int).toNat=⟨(s.data.toList.take 148).toArray⟩:=by
  rw [self_mk (s.extract 0 (148:Int).toNat),Lib.extract_data]
  rfl
 rw [this]
theorem seal_from (s:ByteArray) (h:s.size=512) (w:World):(Instr.slice 9 (.string s) (some (.int .i64 156)) none none).run Tryz.prog w=.ok (.string ⟨(s.data.toList.drop 156).toArray⟩) w:=by
 rw [run_slice_string_from_if w 9 _ .i64 _ Tryz.underlying9,if_pos ⟨by omega,by omega⟩]
 have:s.extract (156:Int).toNat s.size=⟨(s.data.toList.drop 156).toArray⟩:=by
  rw [self_mk (s.extract (156:Int).toNat s.size),Lib.extract_to_end]
  rfl
 rw [this]
theorem cat_lists (x y:List UInt8) (h:x.length+y.length≤1000000) (w:World):(Op.stringOp .add ⟨x.toArray⟩ ⟨y.toArray⟩).run Tryz.prog w=.ok (.string ⟨(x++y).toArray⟩) w:=by
 rw [run_string_add_sum _ _ _ (by show x.toArray.size+y.toArray.size≤_;simp;omega),ByteArray.mk_append_mk]
theorem sumC_nonneg (l:List UInt8) (k:Nat):0≤sumC false l k:=by
 induction k with
 | zero=>simp [sumC]
 | succ k ih =>
  have hb:=bAt_range l k
  rw [sumC,bv_u]
  split <;> omega
theorem most7:mostF 7=262143:=by unfold mostF ipw;decide +kernel
theorem sumH_oct (s:ByteArray):0≤sumH false s∧sumH false s≤mostF 7:=by
 rw [most7]
 have h1:=sumC_nonneg s.data.toList 512
 have h2:=sumH_range false s
 unfold sumH at *;omega
theorem seal_pieces (s:ByteArray) (h:s.size=512):∃ T X Y D:ByteArray,
  (∀ w,(Instr.slice 9 (.string s) none (some (.int .i64 148)) none).run Tryz.prog w=.ok (.string T) w) ∧
  (∀ w,(Op.stringOp .add T (strOfNums (octNums (sumH false s) 7))).run Tryz.prog w=.ok (.string X) w) ∧
  (∀ w,(Op.stringOp .add X ⟨#[32]⟩).run Tryz.prog w=.ok (.string Y) w) ∧
  (∀ w,(Instr.slice 9 (.string s) (some (.int .i64 156)) none none).run Tryz.prog w=.ok (.string D) w) ∧
  (∀ w,(Op.stringOp .add Y D).run Tryz.prog w=.ok (.string (sealB s)) w):=by
 have hl:s.data.toList.length=512:=by simpa using h
 refine ⟨_,_,_,_,seal_to s h,fun w=>cat_lists _ _ ?_ w,fun w=>cat_lists _ [32] ?_ w,seal_from s h,fun w=>cat_lists _ _ ?_ w⟩
 ·simp [octNums_length];omega
 ·simp [octNums_length];omega
 ·simp [octNums_length];omega
set_option maxHeartbeats 1000000 in
theorem seal_ok (s:ByteArray) (w:World) (h:s.size=512) :
  Calls Tryz.prog 116 #[.string s] w fun e w'=>e=.returned (.tuple #[.string (sealB s),.nilIface])∧Below w.heap.size w w':=by
 obtain ⟨T,X,Y,D,z1,z2,z3,z4,z5⟩:=seal_pieces s h
 have ho:=sumH_oct s
 have H:=Lib.hid h
 have Ho:=Lib.hid ho
 clear h ho
 go_enter Tryz.func116,Tryz.ntmps116
 go_wp2_with (first
  |(go_at_call 154;refine (sum_ok _ _ _ H.out).mono ?_;rintro x w2 ⟨rfl,hw⟩;replace hw:=hw.symm;subst hw)
  |(go_at_call 155;refine (octal_ok _ 7 _ (by omega) (by omega) Ho.out.1 Ho.out.2).mono ?_;rintro x w2 ⟨rfl,hb⟩))
 go_quiet (fail)
 clear z1 z2 z3 z4 z5
 go_wp2
 go_ret2
 exact ⟨rfl,below_drewN hb _⟩
end Go.Proofs.YtdjcjaidklgamaaGreatDoor
end
section
namespace Go.Proofs.YtdjcjaidklgamaaGreatDoor
open Go.RowKit
def fieldS (s:ByteArray):ByteArray:=s.extract 148 156
theorem fieldS_size (s:ByteArray) (h:s.size=512):(fieldS s).size=8:=by
 have:(fieldS s).data.toList.length=8:=by
  unfold fieldS;rw [Lib.extract_data,List.length_take,List.length_drop]
  have:s.data.toList.length=512:=by simpa using h
  omega
 simpa using this
theorem field_run (s:ByteArray) (h:s.size=512) (w:World):(Instr.slice 9 (.string s) (some (.int .i64 148)) (some (.int .i64 156)) none).run Tryz.prog w=.ok (.string (fieldS s)) w:=by
 rw [run_slice_string w 9 s .i64 .i64 148 156 Tryz.underlying9 (by omega) (by omega) (by omega)]
 rfl
def rightP (s:ByteArray):Prop:=s.size=512∧(readS (fieldS s)).2=0∧((readS (fieldS s)).1=sumH false s∨(readS (fieldS s)).1=sumH true s)
set_option maxRecDepth 100000 in
set_option maxHeartbeats 1000000 in
theorem right_yes (s:ByteArray) (w:World) (h:rightP s) :
  Calls Tryz.prog 124 #[.string s] w fun e w'=>e=.returned (.bool true)∧Below w.heap.size w w':=by
 obtain ⟨h1,h2,h3⟩:=h
 have q1:((s.size:Int)==512)=true:=by rw [beq_iff_eq];omega
 have q2:((s.size:Int) != 512)=false:=by rw [bne_eq_false_iff_eq];omega
 have z:=field_run s h1
 have hz:=fieldS_size s h1
 have hm:(fieldS s).size≤9223372036854775807:=by omega
 have hread:readS (fieldS s)=((readS (fieldS s)).1,0):=by rw [← h2]
 generalize (readS (fieldS s)).1=n at hread h3
 have H:=Lib.hid h1
 have Hr:=Lib.hid hread
 have Hm:=Lib.hid hm
 clear h1 h2 hz hread hm
 have h4:(sumH false s==n)=true∨(sumH false s==n)=false∧(sumH true s==n)=true:=by
  by_cases e:sumH false s=n
  ·exact .inl (by rw [beq_iff_eq];exact e)
  ·exact .inr ⟨by rw [beq_eq_false_iff_ne];exact e,by rw [beq_iff_eq];rcases h3 with h3|h3 <;> omega⟩
 clear h3
 rcases h4 with b1|⟨b1,b2⟩
 ·go_enter Tryz.func124,Tryz.ntmps124
  go_wp2_with (go_at_call 129;refine (read_ok _ _ Hr.out _ Hm.out).mono ?_;rintro x w1 ⟨rfl,hb1⟩)
  refine wp_loop_rounds 1 ?_
  rw [rounds_succ]
  go_wp2_with (go_at_call 154;refine (sum_ok _ _ _ H.out).mono ?_;rintro x w2 ⟨rfl,hw⟩;replace hw:=hw.symm;subst hw)
  go_ret
  exact ⟨rfl,hb1.alloc hb1.size _⟩
 ·go_enter Tryz.func124,Tryz.ntmps124
  go_wp2_with (go_at_call 129;refine (read_ok _ _ Hr.out _ Hm.out).mono ?_;rintro x w1 ⟨rfl,hb1⟩)
  refine wp_loop_rounds 2 ?_
  rw [rounds_succ]
  go_wp2_with (go_at_call 154;refine (sum_ok _ _ _ H.out).mono ?_;rintro x w2 ⟨rfl,hw⟩;replace hw:=hw.symm;subst hw)
  rw [rounds_succ]
  go_wp2_with (go_at_call 154;refine (sum_ok _ _ _ H.out).mono ?_;rintro x w2 ⟨rfl,hw⟩;replace hw:=hw.symm;subst hw)
  go_ret
  exact ⟨rfl,hb1.alloc hb1.size _⟩
set_option maxRecDepth 100000 in
set_option maxHeartbeats 1000000 in
theorem right_no (s:ByteArray) (w:World) (_hs:s.size≤9223372036854775807) (h:¬ rightP s) :
  Calls Tryz.prog 124 #[.string s] w fun e w'=>e=.returned (.bool false)∧Below w.heap.size w w':=by
 by_cases h1:s.size=512
 ·have q1:((s.size:Int)==512)=true:=by rw [beq_iff_eq];omega
  have q2:((s.size:Int) != 512)=false:=by rw [bne_eq_false_iff_eq];omega
  have z:=field_run s h1
  have hz:=fieldS_size s h1
  have hm:(fieldS s).size≤9223372036854775807:=by omega
  have H:=Lib.hid h1
  have Hm:=Lib.hid hm
  rcases readS_any (fieldS s) with ⟨n,hread⟩|⟨e,he,hread⟩
  ·have h5:sumH false s≠n∧sumH true s≠n:=by
    constructor
    ·intro e;exact h ⟨h1,by rw [hread],.inl (by rw [hread];exact e.symm)⟩
    ·intro e;exact h ⟨h1,by rw [hread],.inr (by rw [hread];exact e.symm)⟩
   have b1:(sumH false s==n)=false:=by rw [beq_eq_false_iff_ne];exact h5.1
   have b2:(sumH true s==n)=false:=by rw [beq_eq_false_iff_ne];exact h5.2
   have Hr:=Lib.hid hread
   clear h1 h5 hz hread hm h
   go_enter Tryz.func124,Tryz.ntmps124
   go_wp2_with (go_at_call 129;refine (read_ok _ _ Hr.out _ Hm.out).mono ?_;rintro x w1 ⟨rfl,hb1⟩)
   refine wp_loop_rounds 3 ?_
   rw [rounds_succ]
   go_wp2_with (go_at_call 154;refine (sum_ok _ _ _ H.out).mono ?_;rintro x w2 ⟨rfl,hw⟩;replace hw:=hw.symm;subst hw)
   rw [rounds_succ]
   go_wp2_with (go_at_call 154;refine (sum_ok _ _ _ H.out).mono ?_;rintro x w2 ⟨rfl,hw⟩;replace hw:=hw.symm;subst hw)
   rw [rounds_succ]
   go_wp2
   go_ret
   exact ⟨rfl,hb1.alloc hb1.size _⟩
  ·have Hr:=Lib.hid hread
   have He:=Lib.hid he
   clear h1 hz hread hm h he
   go_enter Tryz.func124,Tryz.ntmps124
   go_wp2_with (go_at_call 129;refine (read_err _ _ He.out Hr.out _ Hm.out).mono ?_;rintro x w1 ⟨rfl,hb1⟩)
   go_ret
   exact ⟨rfl,hb1⟩
 ·have q1:((s.size:Int)==512)=false:=by rw [beq_eq_false_iff_ne];omega
  have q2:((s.size:Int) != 512)=true:=by rw [bne_iff_ne];omega
  clear h1 h
  go_enter Tryz.func124,Tryz.ntmps124
  go_wp2
  go_ret
  exact ⟨rfl,Below.refl _ _⟩
end Go.Proofs.YtdjcjaidklgamaaGreatDoor
end
section
namespace Go.Proofs.YtdjcjaidklgamaaGreatDoor
open Go.RowKit
end Go.Proofs.YtdjcjaidklgamaaGreatDoor
end
section
namespace Go.Proofs.YtdjcjaidklgamaaGreatDoor
open Go.RowKit
set_option linter.unusedVariables false
set_option linter.unusedSimpArgs false
theorem mostF_lt (n:Int) (W:Nat) (h1:2≤W) (h2:W≤20) (hn:0≤n):n≤mostF W↔n<8 ^ (W - 1):=by
 rw [mostF_octn n W h1 h2 hn,octn_pow n hn]
end Go.Proofs.YtdjcjaidklgamaaGreatDoor
end
section
namespace Go.Proofs.YtdjcjaidklgamaaGreatDoor
open Go.RowKit
end Go.Proofs.YtdjcjaidklgamaaGreatDoor
end
section
namespace Go.Proofs.YtdjcjaidklgamaaGreatDoor
open Go.RowKit Go.Shelf
def bldRen:Go.Shelf.Ren:=⟨fun|167=>120|n=>Tryz.lays105_ren.f n,Tryz.lays105_ren.t,Tryz.lays105_ren.g⟩
theorem bld167:Go.Proofs.Lays.n167 Tryz.prog bldRen:={ Tryz.lays105 with f167:=Tryz.func120.trans (congrArg some (by kernel_rfl)) }
theorem bld166:Go.Proofs.Lays.n166 Tryz.prog Tryz.lays105_ren:={ Tryz.lays105 with }
theorem bldX:Builder.Extra Tryz.prog bldRen:={
 sizeBuilder:=by kernel_rfl
 liesBuilder:=by kernel_rfl
 t5:=Tryz.underlying5
 a5:=Tryz.isAgg5
 z5:=Tryz.sizeOf5
 v5:=Tryz.zeroValue5
 infoByte:=by kernel_rfl
 cellsByte:=by kernel_rfl
 sizeByte:=by kernel_rfl
 neB5:=by decide }
theorem bld_WriteString (B b:Nat) (bs:List Value) (s:ByteArray) (w:World) (h:Lib.IsBuilder 99 5 B b bs w) (hlen:bs.length+s.size≤140737488355328) (hBw:B≤w.heap.size) :
  Calls Tryz.prog 58 #[.pointer (some ⟨b,0,none⟩),.string s] w fun e w'=>e=.returned (.tuple #[.int .i64 s.size,.nilIface])∧(Lib.BuilderAt 99 5 B b (.pointer (some ⟨b,0,none⟩)) (bs++Lib.strCells s) w'∧Below B w w') :=
 Any.Builder_WriteString bld166 Tryz.Builder_Extra_105 B b bs s w h hlen hBw
theorem bld_WriteByte (B b:Nat) (bs:List Value) (c:Int) (w:World) (h:Lib.IsBuilder 99 5 B b bs w) (hlen:bs.length+1≤140737488355328) (hBw:B≤w.heap.size) :
  Calls Tryz.prog 120 #[.pointer (some ⟨b,0,none⟩),.int .u8 c] w fun e w'=>e=.returned .nilIface∧(Lib.BuilderAt 99 5 B b (.pointer (some ⟨b,0,none⟩)) (bs++[.int .u8 c]) w'∧Below B w w') :=
 Any.Builder_WriteByte bld167 bldX B b bs c w h hlen hBw
theorem bld_Grow (B b n:Nat) (w:World) (hB:B≤b) (hbk:w.heap[b]?=some (.cells #[.pointer none,.slice none 0 0] 99 (0,0))) (hBw:B≤w.heap.size) (hn:n≤281474976710656) :
  Calls Tryz.prog 102 #[.pointer (some ⟨b,0,none⟩),.int .i64 n] w fun e w'=>e=.returned (.tuple #[])∧(Lib.BuilderAt 99 5 B b (.pointer (some ⟨b,0,none⟩)) [] w'∧Below B w w') :=
 Tryz.Builder_Grow_fresh B b n w hB hbk hBw hn
theorem bld_String (B b:Nat) (l:List UInt8) (w:World) (h:Lib.IsBuilder 99 5 B b (Lib.byteCells l) w) (hBw:B≤w.heap.size) :
  Calls Tryz.prog 61 #[.pointer (some ⟨b,0,none⟩)] w fun e w'=>e=.returned (.string (mkS l))∧Below B w w' :=
 Tryz.Builder_String_any B b l w h hBw
end Go.Proofs.YtdjcjaidklgamaaGreatDoor
end
section
namespace Go.Proofs.YtdjcjaidklgamaaGreatDoor
open Go.RowKit
set_option linter.unusedVariables false
end Go.Proofs.YtdjcjaidklgamaaGreatDoor
end
section
namespace Go.Proofs.YtdjcjaidklgamaaGreatDoor
open Go.RowKit
set_option linter.unusedVariables false
end Go.Proofs.YtdjcjaidklgamaaGreatDoor
end
section
namespace Go.Proofs.YtdjcjaidklgamaaGreatDoor
open Go.RowKit
set_option linter.unusedVariables false
set_option linter.unusedSimpArgs false
def fillL (l:List UInt8):List UInt8:=l++List.replicate (padF l.length).toNat 0
theorem padF_range (n:Int):0≤padF n∧padF n≤511:=by unfold padF;split <;> omega
theorem bytes_zero (l:List UInt8) (k:Nat):Lib.byteCells (l++List.replicate k 0)++[Value.int .u8 0]=Lib.byteCells (l++List.replicate (k+1) 0):=by
 unfold Lib.byteCells
 rw [List.replicate_succ',← List.append_assoc,List.map_append (l₂:=[0])]
 rfl
set_option maxRecDepth 100000 in
set_option maxHeartbeats 2000000 in
theorem fill_any (l:List UInt8) (w:World) (hl:l.length≤100000) :
  Calls Tryz.prog 78 #[.string (mkS l)] w fun e w'=>e=.returned (.string (mkS (fillL l)))∧Below w.heap.size w w':=by
 obtain ⟨hp1,hp2⟩:=padF_range (l.length:Int)
 have hsz:=mkS_size l
 obtain ⟨P,hP⟩:=Int.eq_ofNat_of_zero_le hp1
 have hP2:P≤511:=by omega
 have hfill:fillL l=l++List.replicate P 0:=by unfold fillL;rw [hP];rfl
 have Hf:=Lib.hid hfill
 have hbk:(w.alloc (.cells #[.pointer none,.slice none 0 0] 99)).heap[w.heap.size]?=some (.cells #[.pointer none,.slice none 0 0] 99 (0,0)):=by
  show (w.heap.push _)[w.heap.size]?=_
  rw [Array.getElem?_push_size]
 have Hbk:=Lib.hid hbk
 have hba:Below w.heap.size w (w.alloc (.cells #[.pointer none,.slice none 0 0] 99)):=(Below.refl _ _).alloc (Nat.le_refl _) _
 clear hbk hfill
 go_enter Tryz.func78,Tryz.ntmps78
 go_wp2_with (go_at_call 119;refine (pad_any _ _ (by omega)).mono ?_;rintro x w2 ⟨rfl,hw⟩;replace hw:=hw.symm;subst hw)
 rw [show ((l.length:Int)+(P:Int))=((l.length+P:Nat):Int) by omega]
 refine (bld_Grow w.heap.size w.heap.size (l.length+P) _ (Nat.le_refl _) Hbk.out (by have:=hba.size;exact this) (by omega)).mono ?_;rintro x w1 ⟨rfl,hg1,hb1⟩
 have hb1':=hba.trans hb1
 clear hba hb1
 go_wp2_with fail
 refine (bld_WriteString w.heap.size w.heap.size [] (mkS l) _ (.inr hg1) (by rw [mkS_size];simp only [List.length_nil];omega) hb1'.size).mono ?_;rintro x w2 ⟨rfl,hg2,hb2⟩
 have hb2':=hb1'.trans hb2
 have hc2:[]++Lib.strCells (mkS l)=Lib.byteCells (l++List.replicate 0 0):=by
  unfold Lib.strCells Lib.byteCells;rw [mkS_list];simp
 rw [hc2] at hg2
 have Hg2:=Lib.hid hg2
 clear hg1 hg2 hb1' hb2 hc2
 go_wp2_with fail
 go_loopw [16] (fun i wr=>∃ k:Nat,k≤P∧i=.int .i64 (k:Int)∧Lib.BuilderAt 99 5 w.heap.size w.heap.size (.pointer (some ⟨w.heap.size,0,none⟩)) (Lib.byteCells (l++List.replicate k 0)) wr∧Below w.heap.size w wr) (fun i _=>P - (intOf i).toNat)
 case atStart=>exact ⟨0,by omega,rfl,Hg2.out,hb2'⟩
 case round =>
  obtain ⟨k,hk,rfl,hg,hb⟩:=hrel
  clear Hg2 hb2'
  have Hg:=Lib.hid hg
  clear hg
  by_cases hlt:k<P
  ·have hlt2:(k:Int)<(P:Int):=by omega
   go_wp2_with (go_at_call 120;refine (bld_WriteByte w.heap.size w.heap.size _ 0 _ (.inr Hg.out) ?_ hb.size).mono ?_;(rw [Lib.byteCells_length];simp;omega);rintro x w3 ⟨rfl,hg3,hb3⟩)
   rw [bytes_zero] at hg3
   go_roundw
   case rel=>exact ⟨k+1,by omega,by go_num,hg3,hb.trans hb3⟩
   case measure=>simp [intOf];omega
  ·obtain rfl:k=P:=by omega
   go_wp2_with (go_at_call 61;refine (bld_String w.heap.size w.heap.size _ _ (.inr Hg.out) hb.size).mono ?_;rintro x w3 ⟨rfl,hb3⟩)
   go_ret
   exact ⟨by rw [Hf.out];rfl,hb.trans hb3⟩
end Go.Proofs.YtdjcjaidklgamaaGreatDoor
end
section
namespace Go.Proofs.YtdjcjaidklgamaaGreatDoor
open Go.RowKit
set_option linter.unusedVariables false
set_option linter.unusedSimpArgs false
def allZ (l:List UInt8):Prop:=∀ c∈l,c=0
set_option maxRecDepth 100000 in
set_option maxHeartbeats 1000000 in
theorem zero_any (l:List UInt8) (b:Bool) (hb:b=true↔allZ l) (w:World) (h:l.length=512) :
  Calls Tryz.prog 45 #[.string (mkS l)] w fun e w'=>e=.returned (.bool b)∧w'=w:=by
 have hsz:=mkS_size l
 have q1:((l.length:Int)==512)=true:=by rw [beq_iff_eq];omega
 have q2:((l.length:Int) != 512)=false:=by rw [bne_eq_false_iff_eq];omega
 have hl:l.length≤512:=by omega
 have Hb:=Lib.hid hb
 clear h hb
 go_enter Tryz.func45,Tryz.ntmps45
 go_wp2
 go_loop [9] (fun i=>∃ k:Nat,k≤l.length∧i=.int .i64 (k:Int)∧(∀ j c,j<k→l[j]?=some c→c=0)) (fun i=>l.length - (intOf i).toNat)
 case atStart=>exact ⟨0,by omega,rfl,fun j c h=>by omega⟩
 case round =>
  obtain ⟨k,hk,rfl,hz⟩:=hrel
  have Hz:=Lib.hid hz
  clear hz
  by_cases hlt:k<l.length
  ·generalize hcc:l[k]=c
   have hc?:l[k]?=some c:=by rw [List.getElem?_eq_getElem hlt,hcc]
   have z1:=mkS_index l (k:Int) c (by omega) (by rw [Int.toNat_natCast];exact hc?)
   have Hc:=Lib.hid hc?
   clear hc? hcc
   by_cases h0:(c.toNat:Int)=0
   ·have n1:((c.toNat:Int)==0)=true:=by rw [beq_iff_eq];exact h0
    have n2:((c.toNat:Int) != 0)=false:=by rw [bne_eq_false_iff_eq];exact h0
    have N:=Lib.hid h0
    clear h0
    go_wp2
    go_round
    case rel =>
     refine ⟨k+1,by omega,by go_num,fun j d hj hd=>?_⟩
     rcases Nat.lt_or_ge j k with h|h
     ·exact Hz.out j d h hd
     ·obtain rfl:j=k:=by omega
      rw [Hc.out] at hd
      obtain rfl:=Option.some.inj hd
      exact (c_eq c 0 (by omega)).2 N.out
    case measure=>simp [intOf];omega
   ·have n1:((c.toNat:Int)==0)=false:=by rw [beq_eq_false_iff_ne];exact h0
    have n2:((c.toNat:Int) != 0)=true:=by rw [bne_iff_ne];exact h0
    have hbf:b=false:=by
     cases b with
     | false=>rfl
     | true =>
      have:=Hb.out.1 rfl c (List.mem_of_getElem? Hc.out)
      exact absurd ((c_eq c 0 (by omega)).1 this) h0
    have N:=Lib.hid hbf
    clear hbf h0
    go_wp2
    go_ret
    exact ⟨by rw [N.out];rfl,rfl⟩
  ·obtain rfl:k=l.length:=by omega
   have hbt:b=true:=Hb.out.2 (fun c hc=>by
    obtain ⟨j,hj⟩:=List.getElem?_of_mem hc
    exact Hz.out j c (List.getElem?_eq_some_iff.1 hj).1 hj)
   have N:=Lib.hid hbt
   clear hbt
   go_wp2
   go_ret
   exact ⟨by rw [N.out];rfl,rfl⟩
end Go.Proofs.YtdjcjaidklgamaaGreatDoor
end
