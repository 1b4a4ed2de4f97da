import Derived.Test.YtdjcjaidklgamaaGreatDoorQPa
import Derived.Test.YtdjcjaidklgamaaGreatDoorQShelf
import Derived.Shelf.Strings.Builder1
import Derived.Shelf.Strings.BuilderF
set_option linter.unusedSimpArgs false
set_option linter.unusedVariables false
section
namespace Go.Proofs.YtdjcjaidklgamaaGreatDoor.Px
set_option maxRecDepth 100000
open Go.RowKit Go.Extern.Stop Go.Stop Go.Extern
theorem Tryz.typeOfAt (v:Value) (w:World):(ReflectliteType.typeOf #[.iface 85 v]).run Tryz.prog w=.ok (.iface 204 (.agg #[.pointer (some ⟨9,85,none⟩)])) w:=by kernel_rfl
theorem Tryz.assignableAt (w : World) : (ReflectliteType.relation "AssignableTo" ReflectliteType.assignableTo #[.agg #[.pointer (some ⟨9, 85, none⟩)], .iface 204 (.agg #[.pointer (some ⟨9, 68, none⟩)])]).run Tryz.prog w = .ok (.bool false) w := by kernel_rfl
theorem Tryz.noAsAt (v:Value) (xT:TypeId) (w:World):(Instr.typeAssert (.iface 85 v) xT 209 true).run Tryz.prog w=.ok (.tuple #[.nilIface,.bool false]) w :=
 run_typeAssert_lacksB Tryz.underlying209 (by kernel_rfl) (by kernel_rfl) v xT w
theorem Tryz.unwrapAt (p:Addr) (w:World):(Instr.typeAssert (.iface 85 (.pointer (some p))) 31 212 true).run Tryz.prog w=.ok (.tuple #[.iface 85 (.pointer (some p)),.bool true]) w:=by kernel_rfl
theorem Tryz.methodUnwrap (p : Value) (w : World) : (Go.method 436 85 p "Unwrap").run Tryz.prog w = .ok (260, p) w := by kernel_rfl
set_option maxHeartbeats 4000000 in
theorem as_at (n:Int) (pb:Nat) (t:Addr) (old:Value) (w:World) (hg:w.cell? ⟨0,0,none⟩=some (.iface 204 (.agg #[.pointer (some ⟨9,31,none⟩)]))) (ht0:w.cell? t=some old) (hf0:w.frozen? t=false) (hq0:w.cell? ⟨pb,0,none⟩=some (.int .i64 n)) :
  Calls Tryz.prog 68 #[.iface 85 (.pointer (some ⟨pb,0,none⟩)),.iface 113 (.pointer (some t))] w fun ev w'=>ev=.returned (.bool true)∧w'=((((w.alloc (.cells #[.pointer (some t)] 113)).alloc (.cells #[.pointer (some ⟨9,113,none⟩),.pointer (some ⟨w.heap.size,0,none⟩),.int .u64 150] 155)).alloc (.cells #[.pointer (some ⟨9,113,none⟩),.pointer (some ⟨w.heap.size,0,none⟩),.int .u64 150] 155)).alloc (.cells #[.int .i64 n] 68)).setCell t (.int .i64 n):=by
 have h6:=@run_callFunc_extern Tryz.prog 109 _ (fun args=>ReflectliteValue.unpack (args.getD 0 (.tuple #[]))) Tryz.func109 (by kernel_rfl) (by kernel_rfl) (by kernel_rfl) (by kernel_rfl)
 have h7 := @run_callFunc_extern Tryz.prog 110 _ (ReflectliteValue.methodAny (ReflectliteValue.valueError "reflectlite.Value.Type" 0) (fun t _ _ _ => ReflectliteType.toType t)) Tryz.func110 (by kernel_rfl) (by kernel_rfl) (by kernel_rfl) (by kernel_rfl)
 have h8 := @run_callFunc_extern Tryz.prog 111 _ (ReflectliteValue.method (ReflectliteValue.valueError "reflectlite.Value.IsNil" 0) ReflectliteValue.isNil) Tryz.func111 (by kernel_rfl) (by kernel_rfl) (by kernel_rfl) (by kernel_rfl)
 have h27:=@run_callFunc_extern Tryz.prog 255 _ (ReflectliteType.abiMethod fun t=>do pure (.int .u8 (← Rtype.kind t))) Tryz.func255 (by kernel_rfl) (by kernel_rfl) (by kernel_rfl) (by kernel_rfl)
 have h37:=@run_callFunc_extern Tryz.prog 268 _ (ReflectliteType.method ReflectliteType.elem) Tryz.func268 (by kernel_rfl) (by kernel_rfl) (by kernel_rfl) (by kernel_rfl)
 have h38 := @run_callFunc_extern Tryz.prog 269 _ (ReflectliteType.relation "Implements" ReflectliteType.implements_) Tryz.func269 (by kernel_rfl) (by kernel_rfl) (by kernel_rfl) (by kernel_rfl)
 have h10:=@run_callFunc_extern Tryz.prog 149 _ ReflectliteType.typeOf Tryz.func149 (by kernel_rfl) (by kernel_rfl) (by kernel_rfl) (by kernel_rfl)
 have h35 := @run_callFunc_extern Tryz.prog 266 _ (ReflectliteType.relation "AssignableTo" ReflectliteType.assignableTo) Tryz.func266 (by kernel_rfl) (by kernel_rfl) (by kernel_rfl) (by kernel_rfl)
 have h11 := @run_callFunc_extern Tryz.prog 150 _ (ReflectliteValue.method (ReflectliteValue.valueError "reflectlite.Value.Elem" 0) ReflectliteValue.elem) Tryz.func150 (by kernel_rfl) (by kernel_rfl) (by kernel_rfl) (by kernel_rfl)
 have h12:=@run_callFunc_extern Tryz.prog 151 _ ReflectliteValue.set Tryz.func151 (by kernel_rfl) (by kernel_rfl) (by kernel_rfl) (by kernel_rfl)
 have tO:=Tryz.typeOfE
 have mA:=Tryz.methodAssignableTo
 have a25:=Tryz.assignableE
 have v25:=Tryz.valueOfE
 have f6:=Tryz.valueOfP
 have f7:=Tryz.typeP
 have mK:=Tryz.methodKind
 have mE:=Tryz.methodElem
 have mI:=Tryz.methodImplements
 have k27:=Tryz.kindP
 have k25:=Tryz.kindE
 have e27:=Tryz.elemP
 have i25:=Tryz.implementsE
 have n8:=Tryz.isNilP ⟨w.heap.size,0,none⟩ t ((w.alloc (.cells #[.pointer (some t)] 113)).alloc (.cells #[.pointer (some ⟨9,113,none⟩),.pointer (some ⟨w.heap.size,0,none⟩),.int .u64 150] 155)) (by simp)
 have hlt:0<w.heap.size:=by
  rcases Nat.lt_or_ge 0 w.heap.size with h|h
  ·exact h
  ·simp [World.cell?,Array.getElem?_eq_none h] at hg
 have hg2:((w.alloc (.cells #[.pointer (some t)] 113)).alloc (.cells #[.pointer (some ⟨9,113,none⟩),.pointer (some ⟨w.heap.size,0,none⟩),.int .u64 150] 155)).cell? ⟨0,0,none⟩=some (.iface 204 (.agg #[.pointer (some ⟨9,31,none⟩)])):=by
  rw [World.cell?_alloc_lt _ _ ⟨0,0,none⟩ (by first|(simp;done)|(simp;omega)),World.cell?_alloc_lt _ _ ⟨0,0,none⟩ hlt];exact hg
 have htl:t.block<w.heap.size:=by
  rcases Nat.lt_or_ge t.block w.heap.size with h|h
  ·exact h
  ·simp [World.cell?,Array.getElem?_eq_none h] at ht0
 have el:=Tryz.elemVP ⟨w.heap.size,0,none⟩ t (((w.alloc (.cells #[.pointer (some t)] 113)).alloc (.cells #[.pointer (some ⟨9,113,none⟩),.pointer (some ⟨w.heap.size,0,none⟩),.int .u64 150] 155)).alloc (.cells #[.pointer (some ⟨9,113,none⟩),.pointer (some ⟨w.heap.size,0,none⟩),.int .u64 150] 155)) (by rw [World.cell?_alloc_lt _ _ ⟨w.heap.size,0,none⟩ (by simp;omega)];simp)
 have st:=Tryz.setE t ⟨w.heap.size+1+1+1,0,none⟩ n old ((((w.alloc (.cells #[.pointer (some t)] 113)).alloc (.cells #[.pointer (some ⟨9,113,none⟩),.pointer (some ⟨w.heap.size,0,none⟩),.int .u64 150] 155)).alloc (.cells #[.pointer (some ⟨9,113,none⟩),.pointer (some ⟨w.heap.size,0,none⟩),.int .u64 150] 155)).alloc (.cells #[.int .i64 n] 68))
  (by rw [World.cell?_alloc_at _ _ _ _ (by simp)];rfl)
  (by rw [World.cell?_alloc_lt _ _ t (by simp;omega),World.cell?_alloc_lt _ _ t (by simp;omega),World.cell?_alloc_lt _ _ t (by simp;omega),World.cell?_alloc_lt _ _ t htl];exact ht0)
  (by rw [World.frozen?_alloc_old _ _ t (by simp;omega),World.frozen?_alloc_old _ _ t (by simp;omega),World.frozen?_alloc_old _ _ t (by simp;omega),World.frozen?_alloc_old _ _ t (Nat.ne_of_lt htl)];exact hf0)
 have tA:=Tryz.typeOfAt
 have aA:=Tryz.assignableAt
 have nA:=Tryz.noAsAt
 have uA:=Tryz.unwrapAt ⟨pb,0,none⟩
 have mU:=Tryz.methodUnwrap
 have hql:pb<w.heap.size:=by
  rcases Nat.lt_or_ge pb w.heap.size with h|h
  ·exact h
  ·simp [World.cell?,Array.getElem?_eq_none h] at hq0
 have hq3:(((w.alloc (.cells #[.pointer (some t)] 113)).alloc (.cells #[.pointer (some ⟨9,113,none⟩),.pointer (some ⟨w.heap.size,0,none⟩),.int .u64 150] 155)).alloc (.cells #[.pointer (some ⟨9,113,none⟩),.pointer (some ⟨w.heap.size,0,none⟩),.int .u64 150] 155)).cell? ⟨pb,0,none⟩=some (.int .i64 n):=by
  rw [World.cell?_alloc_lt _ _ ⟨pb,0,none⟩ (by simp;omega),World.cell?_alloc_lt _ _ ⟨pb,0,none⟩ (by simp;omega),World.cell?_alloc_lt _ _ ⟨pb,0,none⟩ hql];exact hq0
 go_enter Tryz.func68,Tryz.ntmps68
 go_wp2
 refine wp_loop_rounds 2 ?_
 rw [rounds_succ]
 go_wp2
 rw [rounds_succ]
 go_wp2
 go_ret
 exact ⟨rfl,rfl⟩
end Go.Proofs.YtdjcjaidklgamaaGreatDoor.Px
end
section
namespace Go.Proofs.YtdjcjaidklgamaaGreatDoor.Px
open Go.RowKit Go.Extern.Stop Go.Stop Go.Extern Go.Joins
set_option maxHeartbeats 1000000 in
theorem tell_at (n:Int) (pb:Nat) (w:World) (hg:ErrLaid w) (hq0:w.cell? ⟨pb,0,none⟩=some (.int .i64 n)) :
  Calls Tryz.prog 37 #[.iface 85 (.pointer (some ⟨pb,0,none⟩))] w fun e w'=>e=.returned (.int .i64 n)∧Below w.heap.size w w':=by
 have hgA:=hg.alloc (.cells #[.int .i64 0] 68)
 have hpos:=hg.pos
 have HG:=Lib.hid hg
 unfold ErrLaid at hgA
 clear hg
 have hql:pb<w.heap.size:=by
  rcases Nat.lt_or_ge pb w.heap.size with h|h
  ·exact h
  ·simp [World.cell?,Array.getElem?_eq_none h] at hq0
 have hqA:(w.alloc (.cells #[.int .i64 0] 68)).cell? ⟨pb,0,none⟩=some (.int .i64 n):=by
  rw [World.cell?_alloc_lt _ _ ⟨pb,0,none⟩ hql];exact hq0
 have htA:(w.alloc (.cells #[.int .i64 0] 68)).cell? ⟨w.heap.size,0,none⟩=some (.int .i64 0):=by simp
 have hfA:(w.alloc (.cells #[.int .i64 0] 68)).frozen? ⟨w.heap.size,0,none⟩=false:=by simp
 clear hql hq0
 go_enter Tryz.func37,Tryz.ntmps37
 go_wp2_with (go_at_call 68;refine (as_at _ _ _ (.int .i64 0) _ hgA htA hfA hqA).mono ?_;rintro e w' ⟨rfl,rfl⟩)
 go_ret
 exact ⟨rfl,by go_grown⟩
end Go.Proofs.YtdjcjaidklgamaaGreatDoor.Px
end
section
namespace Go.Proofs.YtdjcjaidklgamaaGreatDoor.Px
open Go.RowKit Go.Shelf
def bldRen:Go.Shelf.Ren:=⟨fun|166=>58|240=>100|276=>141|n=>n,fun|0=>0|3=>3|4=>4|9=>9|20=>20|37=>67|70=>97|72=>99|75=>31|164=>152|5=>5|76=>100|80=>104|n=>n,fun n=>n⟩
theorem bld166:Go.Proofs.Lays.n166 Tryz.prog bldRen:={
 mixed:=by kernel_rfl
 f166:=Tryz.func58.trans (congrArg some (by kernel_rfl))
 f240:=Tryz.func100.trans (congrArg some (by kernel_rfl))
 f276:=Tryz.func141.trans (congrArg some (by kernel_rfl))
 t0:=Tryz.underlying0
 a0:=Tryz.isAgg0
 z0:=Tryz.sizeOf0
 v0:=Tryz.zeroValue0
 t3:=Tryz.underlying3
 a3:=Tryz.isAgg3
 z3:=Tryz.sizeOf3
 v3:=Tryz.zeroValue3
 t4:=Tryz.underlying4
 a4:=Tryz.isAgg4
 z4:=Tryz.sizeOf4
 v4:=Tryz.zeroValue4
 t9:=Tryz.underlying9
 a9:=Tryz.isAgg9
 z9:=Tryz.sizeOf9
 v9:=Tryz.zeroValue9
 t20:=Tryz.underlying20
 a20:=Tryz.isAgg20
 z20:=Tryz.sizeOf20
 v20:=Tryz.zeroValue20
 t37:=Tryz.underlying67
 a37:=Tryz.isAgg67
 z37:=Tryz.sizeOf67
 v37:=Tryz.zeroValue67
 t70:=Tryz.underlying97
 a70:=Tryz.isAgg97
 z70:=Tryz.sizeOf97
 v70:=Tryz.zeroValue97
 t72:=Tryz.underlying99
 a72:=Tryz.isAgg99
 z72:=Tryz.sizeOf99
 v72:=Tryz.zeroValue99
 t75:=Tryz.underlying31
 a75:=Tryz.isAgg31
 z75:=Tryz.sizeOf31
 v75:=Tryz.zeroValue31
 t164:=Tryz.underlying152
 a164:=Tryz.isAgg152
 z164:=Tryz.sizeOf152
 v164:=Tryz.zeroValue152 }
theorem bldX:Builder.Extra Tryz.prog bldRen:={
 sizeBuilder:=by kernel_rfl
 liesBuilder:=by kernel_rfl
 t5:=Tryz.underlying5
 a5:=Tryz.isAgg5
 z5:=Tryz.sizeOf5
 v5:=Tryz.zeroValue5
 infoByte:=by kernel_rfl
 cellsByte:=by kernel_rfl
 sizeByte:=by kernel_rfl
 neB5:=by decide }
theorem bld_WriteString (B b:Nat) (bs:List Value) (s:ByteArray) (w:World) (h:Lib.IsBuilder 99 5 B b bs w) (hlen:bs.length+s.size≤140737488355328) (hBw:B≤w.heap.size) :
  Calls Tryz.prog 58 #[.pointer (some ⟨b,0,none⟩),.string s] w fun e w'=>e=.returned (.tuple #[.int .i64 s.size,.nilIface])∧(Lib.BuilderAt 99 5 B b (.pointer (some ⟨b,0,none⟩)) (bs++Lib.strCells s) w'∧Below B w w') :=
 Any.Builder_WriteString bld166 bldX B b bs s w h hlen hBw
end Go.Proofs.YtdjcjaidklgamaaGreatDoor.Px
end
section
namespace Go.Proofs.YtdjcjaidklgamaaGreatDoor.Px
open Go.RowKit Go.Joins
def recsL (l:List (List UInt8 × List UInt8)):List UInt8:=l.flatMap fun p=>recL p.1 p.2
def GoodTo (l:List (List UInt8 × List UInt8)) (i:Nat):Prop:=∀ (j:Nat) p,j<i→l[j]?=some p→rightP p.1 p.2=true
theorem recsL_take (l:List (List UInt8 × List UInt8)) (i:Nat) (p:List UInt8 × List UInt8) (h:l[i]?=some p):recsL (l.take (i+1))=recsL (l.take i)++recL p.1 p.2:=by
 unfold recsL
 rw [List.take_add_one,h,List.flatMap_append]
 simp
theorem recsL_bound:∀ (l:List (List UInt8 × List UInt8)),(∀ p∈l,rightP p.1 p.2=true)→(recsL l).length≤206 * l.length
 | [],_=>by simp [recsL]
 | p :: l,h=>by
  have ih:=recsL_bound l fun q hq=>h q (List.mem_cons_of_mem _ hq)
  have h1:=(rightP_true p.1 p.2 (h p (List.mem_cons_self ..))).2.2
  have h2:=recL_length p.1 p.2 h1
  have h3:=lenOf_bound (p.1.length+p.2.length+3)
  unfold recsL at ih ⊢
  rw [List.flatMap_cons,List.length_append,List.length_cons]
  omega
theorem recsL_take_bound (l:List (List UInt8 × List UInt8)) (i:Nat) (h:GoodTo l i) (hi:i≤20):(recsL (l.take i)).length≤206 * 20:=by
 have:=recsL_bound (l.take i) fun p hp=>by
  obtain ⟨j,hj⟩:=List.mem_iff_getElem?.1 hp
  rw [List.getElem?_take] at hj
  split at hj
  ·next hji=>exact h j p hji hj
  ·cases hj
 have h2:(l.take i).length≤i:=by simp;omega
 omega
theorem below_store {w W:World} (h:Below w.heap.size w W) (b o:Nat) (hb:w.heap.size≤b) (v:Value):Below w.heap.size w (W.setCell ⟨b,o,none⟩ v):=h.setCell (p:=⟨b,o,none⟩) hb v
end Go.Proofs.YtdjcjaidklgamaaGreatDoor.Px
end
section
namespace Go.Proofs.YtdjcjaidklgamaaGreatDoor.Px
open Go.RowKit Go.Joins
theorem own_below {w w':World} {B e size n:Nat} {v:Value} {xs:List Value} (h:w.ownsRow B e size v n xs) (hb:Below w.heap.size w w'):w'.ownsRow B e size v n xs:=by
 obtain ⟨h1,h2⟩:=h
 refine ⟨h1,?_⟩
 rcases h2 with h2|⟨g,cap,cur,e1,e2,e3,e4,e5,e6,e7⟩
 ·exact Or.inl h2
 ·exact Or.inr ⟨g,cap,cur,e1,e2,(hb.block _ (Array.getElem?_eq_some_iff.1 e3).1).trans e3,e4,e5,e6,e7⟩
theorem builder_below {T e B b:Nat} {bs:List Value} {w w':World} (h:Lib.IsBuilder T e B b bs w) (hb:Below w.heap.size w w'):Lib.IsBuilder T e B b bs w':=by
 rcases h with ⟨h1,v,h2,h3,h4⟩|⟨h1,v,h2,h3,h4⟩
 ·exact Or.inl ⟨h1,v,(hb.block _ (Array.getElem?_eq_some_iff.1 h2).1).trans h2,own_below h3 hb,h4⟩
 ·exact Or.inr ⟨h1,v,(hb.block _ (Array.getElem?_eq_some_iff.1 h2).1).trans h2,own_below h3 hb,h4⟩
def WriteIs (l:List (List UInt8 × List UInt8)) (m:Nat) (e:Ending) (w':World):Prop :=
 (m=l.length∧e=.returned (.tuple #[.string (mkS (recsL l)),.nilIface])) ∨
 (m<l.length∧∃ pb,e=.returned (.tuple #[.string (mkS []),.iface 85 (.pointer (some ⟨pb,0,none⟩))])∧w'.cell? ⟨pb,0,none⟩=some (.int .i64 1)∧w'.cell? ⟨pb,1,none⟩=some (.int .i64 m))
set_option maxHeartbeats 2000000 in
set_option maxRecDepth 100000 in
theorem write_row (b off:Nat) (cap:Nat) (l:List (List UInt8 × List UInt8)) (h20:l.length≤20) (hz:∀ p∈l,p.1.length≤100000∧p.2.length≤100000) (m:Nat) (hm:m≤l.length) (hG:GoodTo l m) (hB:∀ p,l[m]?=some p→rightP p.1 p.2=false)
  (w:World) (hp:PowLaid w) (hlt:b<w.heap.size) (hR:RowAt w b off l) :
  Calls Tryz.prog 99 #[.slice (some ⟨b,off,none⟩) l.length cap] w fun e w'=>WriteIs l m e w'∧Below w.heap.size w w':=by
 have hF:=Lib.fresh_isBuilder 99 5 w
 have hb0:=below_alloc1 w (.cells #[.pointer none,.slice none 0 0] 99)
 have HR:=Lib.hid (show ∀ w',Below w.heap.size w w'→RowAt w' b off l from fun w' hb=>RowAt.below hlt hR hb)
 have HP:=Lib.hid (show ∀ w1,Below w.heap.size w w1→PowLaid w1 from fun w1 h1=>hp.below h1)
 have HZ:=Lib.hid hz
 have HG:=Lib.hid hG
 have HB:=Lib.hid hB
 have hF0:=Lib.hid (And.intro hb0 (show Lib.IsBuilder 99 5 w.heap.size w.heap.size (Lib.byteCells (recsL (l.take 0))) (w.alloc (.cells #[.pointer none,.slice none 0 0] 99)) from hF))
 have HW:=Lib.hid (show ∀ (i:Nat) (q:List UInt8 × List UInt8) W,i<m→l[i]?=some q→Lib.IsBuilder 99 5 w.heap.size w.heap.size (Lib.byteCells (recsL (l.take i))) W→w.heap.size≤W.heap.size →
   Calls Tryz.prog 58 #[.pointer (some ⟨w.heap.size,0,none⟩),.string (mkS (recL q.1 q.2))] W fun e w'=>(∃ v,e=.returned v)∧Lib.IsBuilder 99 5 w.heap.size w.heap.size (Lib.byteCells (recsL (l.take (i+1)))) w'∧Below w.heap.size W w' from fun i q W hi hq hW hs=>by
  have hg:=hG i q hi hq
  have h1:=recL_length q.1 q.2 (rightP_true q.1 q.2 hg).2.2
  have h2:=lenOf_bound (q.1.length+q.2.length+3)
  have h3:=(rightP_true q.1 q.2 hg).2.2
  have h4:=recsL_take_bound l i (fun j p hj=>hG j p (by omega)) (by omega)
  refine (bld_WriteString w.heap.size w.heap.size _ (mkS (recL q.1 q.2)) W hW (by rw [Lib.byteCells_length,mkS_size];omega) hs).mono fun e w' ⟨h5,h6,h7⟩=>⟨⟨_,h5⟩,Or.inr ?_,h7⟩
  rw [recsL_take l i q hq]
  have hc:Lib.byteCells (recsL (l.take i))++Lib.strCells (mkS (recL q.1 q.2))=Lib.byteCells (recsL (l.take i)++recL q.1 q.2):=by
   unfold Lib.strCells Lib.byteCells;rw [mkS_list,List.map_append]
  rw [hc] at h6
  exact h6)
 have HS:=Lib.hid (show ∀ W,Lib.IsBuilder 99 5 w.heap.size w.heap.size (Lib.byteCells (recsL l)) W→w.heap.size≤W.heap.size→Calls Tryz.prog 61 #[.pointer (some ⟨w.heap.size,0,none⟩)] W fun e w'=>e=.returned (.string (mkS (recsL l)))∧Below w.heap.size W w' from fun W h1 h2=>bld_String w.heap.size w.heap.size (recsL l) W h1 h2)
 clear hR hp hz hG hB hlt hb0 hF
 go_enter Tryz.func99,Tryz.ntmps99
 go_wp2
 go_loopg [15] m (fun g s15 wr=>∃ i:Nat,i≤m∧m - i≤g∧s15=.int .i64 i∧Aside (Below w.heap.size w wr∧Lib.IsBuilder 99 5 w.heap.size w.heap.size (Lib.byteCells (recsL (l.take i))) wr))
 case atStart=>exact ⟨0,by omega,by omega,rfl,hF0.out⟩
 case round =>
  obtain ⟨i,hi,hg,rfl,A⟩:=hrel
  by_cases hil:i<l.length
  ·obtain ⟨q,hq⟩:∃ p,l[i]?=some p:=⟨_,List.getElem?_eq_getElem hil⟩
   obtain ⟨c1,c2⟩:=HR.out wr A.out.1 i q hq
   obtain ⟨hz1,hz2⟩:=HZ.out q (List.mem_of_getElem? hq)
   have HQ:=Lib.hid hq
   clear hq
   have hb1:=(A.out.1.alloc A.out.1.size (.cells #[.string (mkS q.1),.string (mkS q.2)] 43))
   have hf1:=builder_below A.out.2 (below_alloc1 wr (.cells #[.string (mkS q.1),.string (mkS q.2)] 43))
   have A1:=Lib.hid (And.intro hb1 hf1)
   clear hb1 hf1
   by_cases him:i=m
   ·subst him
    have R:=Lib.hid (fun w=>record_bad q.1 q.2 hz1 hz2 (HB.out q HQ.out) w)
    go_wp2_with (go_at_call 140;refine (R.out _).mono ?_;rintro e w2 ⟨rfl,h2⟩)
    go_ret2
    have h3:=A1.out.1.trans (h2.mono A1.out.1.size)
    exact ⟨Or.inr ⟨hil,w2.heap.size,rfl,by simp,by simp⟩,h3.alloc h3.size _⟩
   ·have R:=Lib.hid (fun w hp=>record_ok q.1 q.2 (HG.out i q (by omega) HQ.out) w hp)
    have HW2:=Lib.hid (fun W=>HW.out i q W (by omega) HQ.out)
    generalize recL q.1 q.2=T1 at *
    go_wp2_with (first
     |(go_at_call 140;refine (R.out _ (HP.out _ A1.out.1)).mono ?_;rintro e w2 ⟨rfl,h2⟩)
     |(go_at_call 58;refine (HW2.out _ (builder_below A1.out.2 h2) (A1.out.1.trans (h2.mono A1.out.1.size)).size).mono ?_;rintro e w3 ⟨⟨v,rfl⟩,h3,h4⟩))
    go_roundg (m - (i+1))
    case measure=>omega
    case rel=>exact ⟨i+1,by omega,by omega,by first|rfl|simp,(show Aside _ from ⟨(A1.out.1.trans (h2.mono A1.out.1.size)).trans h4,h3⟩)⟩
  ·obtain rfl:i=l.length:=by omega
   obtain rfl:m=l.length:=by omega
   rw [List.take_length] at A
   go_wp2_with (go_at_call 61;refine (HS.out _ A.out.2 A.out.1.size).mono ?_;rintro e w2 ⟨rfl,h2⟩)
   go_ret2
   exact ⟨Or.inl ⟨rfl,rfl⟩,A.out.1.trans h2⟩
end Go.Proofs.YtdjcjaidklgamaaGreatDoor.Px
end
