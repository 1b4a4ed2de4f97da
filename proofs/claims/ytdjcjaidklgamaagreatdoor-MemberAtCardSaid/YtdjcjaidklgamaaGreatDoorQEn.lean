import Derived.Test.YtdjcjaidklgamaaGreatDoorQHb
import Derived.Test.YtdjcjaidklgamaaGreatDoorQHo
import Derived.Test.YtdjcjaidklgamaaGreatDoorQSa
import Derived.Test.YtdjcjaidklgamaaGreatDoorQOo
import Derived.Test.YtdjcjaidklgamaaGreatDoorQShelf
import Derived.Deep.Fields
import Derived.SizedLaws
import Derived.WideShapes
import Derived.ChangeSame
import Derived.Laws.StructEq
import Derived.Carry
import Derived.Lib.QuietBelow
import Derived.BigQuiet
set_option linter.unusedSimpArgs false
set_option linter.unusedVariables false
section
namespace Go.Proofs.YtdjcjaidklgamaaGreatDoor
open Go.RowKit Go.Joins
set_option linter.unusedVariables false
end Go.Proofs.YtdjcjaidklgamaaGreatDoor
end
section
namespace Go.Proofs.YtdjcjaidklgamaaGreatDoor
open Go.RowKit Go.Joins Go.ChangeShapes Go.WideShapes Go.Deep
set_option linter.unusedVariables false
structure EntL where
 name:List UInt8
 kind:UInt8
 mode:Int
 uid:Int
 gid:Int
 size:Int
 sec:Int
 nano:Int
 link:List UInt8
 user:List UInt8
 group:List UInt8
 major:Int
 minor:Int
 data:List UInt8
 map:List Pc
 deriving DecidableEq
def intsE (e:EntL):Prop:=i64 e.mode∧i64 e.uid∧i64 e.gid∧i64 e.size∧i64 e.sec∧i64 e.nano∧i64 e.major∧i64 e.minor
def textsE (e:EntL):Prop:=e.name.length≤reachBytes∧e.link.length≤reachBytes∧e.user.length≤reachBytes∧e.group.length≤reachBytes∧e.data.length≤reachBytes
abbrev entV (e:EntL) (v:Value):Value:=.agg #[.string (mkS e.name),.int .u8 (e.kind.toNat:Int),.int .i64 e.mode,.int .i64 e.uid,.int .i64 e.gid,.int .i64 e.size,.int .i64 e.sec,.int .i64 e.nano,.string (mkS e.link),.string (mkS e.user),.string (mkS e.group),.int .i64 e.major,.int .i64 e.minor,.string (mkS e.data),v]
abbrev entD {H:Type} (e:EntL) (d:DataW H):DataW H:=.agg [.lit (.string e.name),.lit (.int .u8 (e.kind.toNat:Int)),.lit (.int .i64 e.mode),.lit (.int .i64 e.uid),.lit (.int .i64 e.gid),.lit (.int .i64 e.size),.agg [.lit (.int .i64 e.sec),.lit (.int .i64 e.nano)],.lit (.string e.link),.lit (.string e.user),.lit (.string e.group),.lit (.int .i64 e.major),.lit (.int .i64 e.minor),.lit (.string e.data),d]
theorem list15 {α:Type} {l:List α} (h:l.length=15):∃ c0 c1 c2 c3 c4 c5 c6 c7 c8 c9 c10 c11 c12 c13 c14,l=[c0,c1,c2,c3,c4,c5,c6,c7,c8,c9,c10,c11,c12,c13,c14]:=by
 match l,h with
 | [c0,c1,c2,c3,c4,c5,c6,c7,c8,c9,c10,c11,c12,c13,c14],_=>exact ⟨c0,c1,c2,c3,c4,c5,c6,c7,c8,c9,c10,c11,c12,c13,c14,rfl⟩
theorem array15 {α:Type} {l:Array α} (h:l.size=15):∃ c0 c1 c2 c3 c4 c5 c6 c7 c8 c9 c10 c11 c12 c13 c14,l=#[c0,c1,c2,c3,c4,c5,c6,c7,c8,c9,c10,c11,c12,c13,c14]:=by
 obtain ⟨l⟩:=l
 obtain ⟨c0,c1,c2,c3,c4,c5,c6,c7,c8,c9,c10,c11,c12,c13,c14,rfl⟩:=list15 (show l.length=15 from h)
 exact ⟨c0,c1,c2,c3,c4,c5,c6,c7,c8,c9,c10,c11,c12,c13,c14,rfl⟩
theorem list14 {α:Type} {l:List α} (h:l.length=14):∃ c0 c1 c2 c3 c4 c5 c6 c7 c8 c9 c10 c11 c12 c13,l=[c0,c1,c2,c3,c4,c5,c6,c7,c8,c9,c10,c11,c12,c13]:=by
 match l,h with
 | [c0,c1,c2,c3,c4,c5,c6,c7,c8,c9,c10,c11,c12,c13],_=>exact ⟨c0,c1,c2,c3,c4,c5,c6,c7,c8,c9,c10,c11,c12,c13,rfl⟩
theorem array14 {α:Type} {l:Array α} (h:l.size=14):∃ c0 c1 c2 c3 c4 c5 c6 c7 c8 c9 c10 c11 c12 c13,l=#[c0,c1,c2,c3,c4,c5,c6,c7,c8,c9,c10,c11,c12,c13]:=by
 obtain ⟨l⟩:=l
 obtain ⟨c0,c1,c2,c3,c4,c5,c6,c7,c8,c9,c10,c11,c12,c13,rfl⟩:=list14 (show l.length=14 from h)
 exact ⟨c0,c1,c2,c3,c4,c5,c6,c7,c8,c9,c10,c11,c12,c13,rfl⟩
section
variable {H:Type} {enc:TypeId × Value→H} {P:Program} {w:World}
theorem open_ent {r:Reach} {b0:Nat} {t te tt:TypeId} {fs:Array Field} {g0 g1 p0 p1:Field} {v:Value} {d:DataW H} {ps:List MemPlace} (hs:P.underlying t=some (.struct fs)) (hC:P.cellsOf t=15) (hT:P.underlying tt=some (.struct #[g0,g1]))
  (hoff:fs.toList.map (fun f=>(f.offset,P.cellsOf f.type))=[(0,1),(1,1),(2,1),(3,1),(4,1),(5,1),(6,2),(8,1),(9,1),(10,1),(11,1),(12,1),(13,1),(14,1)])
  (hty:fs.toList.map (fun f=>P.underlying f.type)=[some .string,some (.int .u8),some (.int .i64),some (.int .i64),some (.int .i64),some (.int .i64),some (.struct #[g0,g1]),some .string,some .string,some .string,some (.int .i64),some (.int .i64),some .string,some (.slice te)])
  (hg:(g0.offset,g1.offset,P.cellsOf g0.type,P.cellsOf g1.type)=(0,1,1,1)) (hg0:P.underlying g0.type=some (.int .i64)) (hg1:P.underlying g1.type=some (.int .i64))
  (he:P.underlying te=some (.struct #[p0,p1])) (hp:(P.cellsOf te,p0.offset,p1.offset,P.cellsOf p0.type,P.cellsOf p1.type)=(2,0,1,1,1)) (hp0:P.underlying p0.type=some (.int .i64)) (hp1:P.underlying p1.type=some (.int .i64))
  (hv:Value.okWide P w r b0 t v) (h:DataW.Trod enc P w 0 (fun _=>true) true t v d ps) :
  ∃ (q:EntL) (ad:Option Addr) (cap:Nat) (D:DataW H),v=entV q (.slice ad q.map.length cap)∧d=entD q D∧intsE q∧q.map.length≤maxLen∧PiecesAt w ad q.map∧Fits q.map∧q.map.length≤cap∧cap≤maxLen∧(ad=none→cap=0):=by
 obtain ⟨cs,rfl,hsz⟩:=okWide_struct hs hv
 obtain ⟨fuel,hf⟩:=h
 obtain ⟨xs,n,_,hx,_,hlen,hfld⟩:=DataW.trod_struct hs hf
 have hfl:fs.size=14:=by have:=congrArg List.length hty;simpa using this
 obtain ⟨f0,f1,f2,f3,f4,f5,f6,f7,f8,f9,f10,f11,f12,f13,rfl⟩:=array14 hfl
 obtain ⟨c0,c1,c2,c3,c4,c5,c6,c7,c8,c9,c10,c11,c12,c13,c14,rfl⟩:=array15 (hsz.trans hC)
 obtain ⟨y0,y1,y2,y3,y4,y5,y6,y7,y8,y9,y10,y11,y12,y13,rfl⟩:=list14 (hlen.trans hfl)
 simp only [List.map_cons,List.map_nil,List.cons.injEq,and_true] at hty
 simp only [List.map_cons,List.map_nil,List.cons.injEq,and_true,Prod.mk.injEq] at hoff
 obtain ⟨e0,e1,e2,e3,e4,e5,e6,e7,e8,e9,e10,e11,e12,e13⟩:=hty
 obtain ⟨⟨o0,k0⟩,⟨o1,k1⟩,⟨o2,k2⟩,⟨o3,k3⟩,⟨o4,k4⟩,⟨o5,k5⟩,⟨o6,k6⟩,⟨o7,k7⟩,⟨o8,k8⟩,⟨o9,k9⟩,⟨o10,k10⟩,⟨o11,k11⟩,⟨o12,k12⟩,⟨o13,k13⟩⟩:=hoff
 simp only [Prod.mk.injEq] at hg hp
 obtain ⟨q0,q1,q2,q3⟩:=hg
 obtain ⟨r0,r1,r2,r3,r4⟩:=hp
 have t0:DataW.trod enc P w 0 (fun _=>true) true n f0.type [c0]=some y0:=by have:=hfld 0 f0 rfl;rw [o0,k0] at this;exact this
 have t1:DataW.trod enc P w 0 (fun _=>true) true n f1.type [c1]=some y1:=by have:=hfld 1 f1 rfl;rw [o1,k1] at this;exact this
 have t2:DataW.trod enc P w 0 (fun _=>true) true n f2.type [c2]=some y2:=by have:=hfld 2 f2 rfl;rw [o2,k2] at this;exact this
 have t3:DataW.trod enc P w 0 (fun _=>true) true n f3.type [c3]=some y3:=by have:=hfld 3 f3 rfl;rw [o3,k3] at this;exact this
 have t4:DataW.trod enc P w 0 (fun _=>true) true n f4.type [c4]=some y4:=by have:=hfld 4 f4 rfl;rw [o4,k4] at this;exact this
 have t5:DataW.trod enc P w 0 (fun _=>true) true n f5.type [c5]=some y5:=by have:=hfld 5 f5 rfl;rw [o5,k5] at this;exact this
 have t6:DataW.trod enc P w 0 (fun _=>true) true n f6.type [c6,c7]=some y6:=by have:=hfld 6 f6 rfl;rw [o6,k6] at this;exact this
 have t7:DataW.trod enc P w 0 (fun _=>true) true n f7.type [c8]=some y7:=by have:=hfld 7 f7 rfl;rw [o7,k7] at this;exact this
 have t8:DataW.trod enc P w 0 (fun _=>true) true n f8.type [c9]=some y8:=by have:=hfld 8 f8 rfl;rw [o8,k8] at this;exact this
 have t9:DataW.trod enc P w 0 (fun _=>true) true n f9.type [c10]=some y9:=by have:=hfld 9 f9 rfl;rw [o9,k9] at this;exact this
 have t10:DataW.trod enc P w 0 (fun _=>true) true n f10.type [c11]=some y10:=by have:=hfld 10 f10 rfl;rw [o10,k10] at this;exact this
 have t11:DataW.trod enc P w 0 (fun _=>true) true n f11.type [c12]=some y11:=by have:=hfld 11 f11 rfl;rw [o11,k11] at this;exact this
 have t12:DataW.trod enc P w 0 (fun _=>true) true n f12.type [c13]=some y12:=by have:=hfld 12 f12 rfl;rw [o12,k12] at this;exact this
 have t13:DataW.trod enc P w 0 (fun _=>true) true n f13.type [c14]=some y13:=by have:=hfld 13 f13 rfl;rw [o13,k13] at this;exact this
 obtain ⟨s0,h0,rfl,m0⟩:=DataW.trod_string e0 t0
 obtain ⟨s1,h1,rfl,m1⟩:=DataW.trod_int e1 t1
 obtain ⟨s2,h2,rfl,m2⟩:=DataW.trod_int e2 t2
 obtain ⟨s3,h3,rfl,m3⟩:=DataW.trod_int e3 t3
 obtain ⟨s4,h4,rfl,m4⟩:=DataW.trod_int e4 t4
 obtain ⟨s5,h5,rfl,m5⟩:=DataW.trod_int e5 t5
 obtain ⟨z0,z1,m,rfl,_,u0,u1⟩:=trod_struct2 e6 t6
 rw [q0,q2] at u0
 rw [q1,q3] at u1
 obtain ⟨s6,h6,rfl,m6⟩:=DataW.trod_int hg0 (show DataW.trod enc P w 0 (fun _=>true) true m g0.type [c6]=some z0 from u0)
 obtain ⟨s7,h7,rfl,m7⟩:=DataW.trod_int hg1 (show DataW.trod enc P w 0 (fun _=>true) true m g1.type [c7]=some z1 from u1)
 obtain ⟨s8,h8,rfl,m8⟩:=DataW.trod_string e7 t7
 obtain ⟨s9,h9,rfl,m9⟩:=DataW.trod_string e8 t8
 obtain ⟨s10,h10,rfl,m10⟩:=DataW.trod_string e9 t9
 obtain ⟨s11,h11,rfl,m11⟩:=DataW.trod_int e10 t10
 obtain ⟨s12,h12,rfl,m12⟩:=DataW.trod_int e11 t11
 obtain ⟨s13,h13,rfl,m13⟩:=DataW.trod_string e12 t12
 simp only [List.cons.injEq,and_true] at h0 h1 h2 h3 h4 h5 h6 h7 h8 h9 h10 h11 h12 h13
 subst h0 h1 h2 h3 h4 h5 h6 h7 h8 h9 h10 h11 h12 h13
 obtain ⟨s1,rfl⟩:=u8_of m1
 obtain ⟨dv,dp⟩:=y13
 simp only [List.map_cons,List.map_nil,Prod.mk.injEq] at hx
 obtain ⟨rfl,_⟩:=hx
 rcases Go.Deep.open_slice_pairs e13 he r0 r1 r2 r3 r4 t13 with ⟨h14,h00⟩|⟨a',len,cap,m',nn,V0,V1,D0,D1,P0,P1,h14,_,x3,x4,x5,x6,x7⟩
 ·simp only [List.cons.injEq,and_true] at h14
  subst h14
  refine ⟨⟨s0.data.toList,s1,s2,s3,s4,s5,s6,s7,s8.data.toList,s9.data.toList,s10.data.toList,s11,s12,s13.data.toList,[]⟩,none,0,dv,?_,rfl,⟨i64_of m2,i64_of m3,i64_of m4,i64_of m5,i64_of m6,i64_of m7,i64_of m11,i64_of m12⟩,by unfold maxLen;simp,fun i p hi=>by simp at hi,fun p hp=>by simp at hp,by simp,by unfold maxLen;omega,fun _=>rfl⟩
  simp only [entV,mkS_self]
  rfl
 ·simp only [List.cons.injEq,and_true] at h14
  subst h14
  have hm:len≤m':=by rw [x5];split <;> omega
  have each:∀ i,i<len→∃ q:Int × Int,V0 i=.int .i64 q.1∧V1 i=.int .i64 q.2∧(Lit.int .i64 q.1).wf=true∧(Lit.int .i64 q.2).wf=true:=fun i hi=>by
   obtain ⟨_,_,g0,g1⟩:=x7 i (by omega)
   obtain ⟨s0,x1,x2,x3⟩:=DataW.trod_int hp0 g0
   obtain ⟨s1,y1,y2,y3⟩:=DataW.trod_int hp1 g1
   exact ⟨(s0,s1),by simpa using x1,by simpa using y1,x3,y3⟩
  obtain ⟨q,hq⟩:=Go.Deep.choose_lt each
  have hl:((List.range len).map fun i=>((q i).1,(q i).2)).length=len:=by simp
  refine ⟨⟨s0.data.toList,s1,s2,s3,s4,s5,s6,s7,s8.data.toList,s9.data.toList,s10.data.toList,s11,s12,s13.data.toList,(List.range len).map fun i=>((q i).1,(q i).2)⟩,some a',cap,dv,?_,rfl,⟨i64_of m2,i64_of m3,i64_of m4,i64_of m5,i64_of m6,i64_of m7,i64_of m11,i64_of m12⟩,by simp;omega,fun i p hi=>?_,fun p hp=>?_,by simp;omega,x4,fun h=>by cases h⟩
  ·simp only [entV,mkS_self,hl]
  ·obtain ⟨hi1,hi2⟩:=List.getElem?_eq_some_iff.1 hi
   have hi1':i<len:=by rw [← hl];exact hi1
   have hi2':((q i).1,(q i).2)=p:=by simpa using hi2
   subst hi2'
   obtain ⟨g0,g1,_,_⟩:=x7 i (by omega)
   obtain ⟨q1,q2,_⟩:=hq i hi1'
   have g00:=(x7 0 (by omega)).1
   rw [Nat.zero_mul,show a'.add 0=a' from by unfold Addr.add;rw [if_pos rfl]] at g00
   have hsp:=spot_of_cell g00
   rw [q1] at g0
   rw [q2] at g1
   obtain ⟨b,off,sp⟩:=a'
   subst hsp
   rw [Go.WideShapes.add_plain] at g0 g1
   exact ⟨b,off,rfl,World.block_lt_of_cell? _ _ g0,g0,g1⟩
  ·obtain ⟨i,hi,rfl⟩:=List.mem_map.1 hp
   rw [List.mem_range] at hi
   obtain ⟨_,_,k1,k2⟩:=hq i hi
   exact ⟨bounds_i64 k1,bounds_i64 k2⟩
theorem sized_ent {ts:List TypeId} {ds:List (DataW H)} (h:(DataW.weightsEach P ts ds).all (·≤reachBytes)=true) {j:Nat} {t:TypeId} {fs:Array Field} {q:EntL} {D:DataW H} (ht:ts[j]?=some t) (hd:ds[j]?=some (entD q D)) (hu:P.underlying t=some (.struct fs)) (hfl:fs.size=14):textsE q:=by
 obtain ⟨f0,f1,f2,f3,f4,f5,f6,f7,f8,f9,f10,f11,f12,f13,rfl⟩:=array14 hfl
 have h0:=List.all_eq_true.1 h _ (DataW.weights_mem_each ht hd q.name.length (by simp [DataW.weights,DataW.weightsEach,hu]))
 have h1:=List.all_eq_true.1 h _ (DataW.weights_mem_each ht hd q.link.length (by simp [DataW.weights,DataW.weightsEach,hu]))
 have h2:=List.all_eq_true.1 h _ (DataW.weights_mem_each ht hd q.user.length (by simp [DataW.weights,DataW.weightsEach,hu]))
 have h3:=List.all_eq_true.1 h _ (DataW.weights_mem_each ht hd q.group.length (by simp [DataW.weights,DataW.weightsEach,hu]))
 have h4:=List.all_eq_true.1 h _ (DataW.weights_mem_each ht hd q.data.length (by simp [DataW.weights,DataW.weightsEach,hu]))
 exact ⟨by simpa using h0,by simpa using h1,by simpa using h2,by simpa using h3,by simpa using h4⟩
end
end Go.Proofs.YtdjcjaidklgamaaGreatDoor
end
section
namespace Go.Proofs.YtdjcjaidklgamaaGreatDoor
open Go.RowKit Go.Joins
set_option linter.unusedVariables false
set_option linter.unusedSimpArgs false
abbrev entC (e:EntL) (v:Value):Array Value:=#[.string (mkS e.name),.int .u8 (e.kind.toNat:Int),.int .i64 e.mode,.int .i64 e.uid,.int .i64 e.gid,.int .i64 e.size,.int .i64 e.sec,.int .i64 e.nano,.string (mkS e.link),.string (mkS e.user),.string (mkS e.group),.int .i64 e.major,.int .i64 e.minor,.string (mkS e.data),v]
def EntAt (w:World) (b:Nat) (e:EntL) (v:Value):Prop:=w.cell? ⟨b,0,none⟩=some (.string (mkS e.name))∧w.cell? ⟨b,1,none⟩=some (.int .u8 (e.kind.toNat:Int))∧w.cell? ⟨b,2,none⟩=some (.int .i64 e.mode)∧w.cell? ⟨b,3,none⟩=some (.int .i64 e.uid)∧w.cell? ⟨b,4,none⟩=some (.int .i64 e.gid)∧w.cell? ⟨b,5,none⟩=some (.int .i64 e.size)∧w.cell? ⟨b,6,none⟩=some (.int .i64 e.sec)∧w.cell? ⟨b,7,none⟩=some (.int .i64 e.nano)∧w.cell? ⟨b,8,none⟩=some (.string (mkS e.link))∧w.cell? ⟨b,9,none⟩=some (.string (mkS e.user))∧w.cell? ⟨b,10,none⟩=some (.string (mkS e.group))∧w.cell? ⟨b,11,none⟩=some (.int .i64 e.major)∧w.cell? ⟨b,12,none⟩=some (.int .i64 e.minor)∧w.cell? ⟨b,13,none⟩=some (.string (mkS e.data))∧w.cell? ⟨b,14,none⟩=some v
theorem EntAt.lt {w:World} {b:Nat} {e:EntL} {v:Value} (h:EntAt w b e v):b<w.heap.size:=block_lt_of_cell h.1
theorem EntAt.below {w w':World} {b B:Nat} {e:EntL} {v:Value} (h:EntAt w b e v) (hb:Below B w w') (hB:b<B):EntAt w' b e v:=by
 unfold EntAt at h ⊢
 simp only [hb.cell (p:=⟨b,_,none⟩) hB]
 exact h
theorem EntAt.of_row {w:World} {b:Nat} {e:EntL} {v:Value} {t:TypeId} {fr:Nat × Nat} (h:w.heap[b]?=some (.cells (entC e v) t fr)):EntAt w b e v:=by
 unfold EntAt
 refine ⟨?_,?_,?_,?_,?_,?_,?_,?_,?_,?_,?_,?_,?_,?_,?_⟩ <;> (simp only [World.cell?,h];rfl)
theorem EntAt.new (w:World) (e:EntL) (v:Value) (t:TypeId):EntAt (w.alloc (.cells (entC e v) t)) w.heap.size e v:=EntAt.of_row (heap_alloc_new w _)
theorem EntAt.regrown {w:World} {b:Nat} {e:EntL} {v:Value} (h:EntAt w b e v) (d:Nat) (os:Array Obj):EntAt (Sort.grow (redrawn w d) os) b e v:=h.below (below_regrown w d os) h.lt
end Go.Proofs.YtdjcjaidklgamaaGreatDoor
end
section
namespace Go.Proofs.YtdjcjaidklgamaaGreatDoor
set_option linter.unusedVariables false
def isLinkB (k:UInt8):Bool:=k==49 || k==50
def isDevB (k:UInt8):Bool:=k==51 || k==52
def fitsI (n most:Int):Bool:=decide (0≤n)&&decide (n≤most)
def sparseE (e:EntL):Bool:=decide (0<e.map.length) || !decide ((e.data.length:Int)=e.size)
def endsS (l:List UInt8):Bool:=decide (l.getLast?=some 47)
def devMost (k:UInt8):Int:=if isDevB k then 2097151 else 0
def rightT (e:EntL):Bool:=!decide (e.name=[])&&(!endsS e.name&&((!decide (e.link=[])==isLinkB e.kind)&&(txtOk e.name 120&&(txtOk e.link 120&&(txtOk e.user 32&&txtOk e.group 32)))))
def rightN (e:EntL):Bool:=fitsI e.mode 4095&&(fitsI e.uid 1099511627775&&(fitsI e.gid 1099511627775&&(St.rightB e.sec e.nano&&(fitsI e.major (devMost e.kind)&&fitsI e.minor (devMost e.kind)))))
def rightD (e:EntL):Bool :=
 if e.kind=48 then fitsI e.size 4000&&(!sparseE e || (mapRight e.map e.size&&decide ((e.data.length:Int)=sizeF 0 e.map)))
 else if 49≤e.kind∧e.kind≤54 then decide (e.size=0)&&!sparseE e else false
def rightE (e:EntL):Bool:=rightT e&&(rightN e&&rightD e)
end Go.Proofs.YtdjcjaidklgamaaGreatDoor
end
section
namespace Go.Proofs.YtdjcjaidklgamaaGreatDoor
open Go.RowKit Go.Joins
set_option linter.unusedVariables false
set_option linter.unusedSimpArgs false
theorem u8_at (c:UInt8) (n:Nat) (hn:n<256):((c.toNat:Int)==(n:Int))=(c==UInt8.ofNat n):=by
 by_cases h:c=UInt8.ofNat n
 ·rw [h]
  have:(UInt8.ofNat n).toNat=n:=by rw [UInt8.toNat_ofNat'];omega
  rw [this];simp
 ·rw [show (c==UInt8.ofNat n)=false by simpa using h,beq_eq_false_iff_ne]
  intro e
  exact h (UInt8.toNat_inj.1 (by rw [UInt8.toNat_ofNat'];omega))
theorem isLink_any (c:UInt8) (w:World):Calls Tryz.prog 90 #[.int .u8 (c.toNat:Int)] w fun e w'=>e=.returned (.bool (isLinkB c))∧w'=w:=by
 have e1:((c.toNat:Int)==49)=(c==49):=u8_at c 49 (by omega)
 have e2:((c.toNat:Int)==50)=(c==50):=u8_at c 50 (by omega)
 unfold isLinkB
 generalize (c==49)=x at *
 generalize (c==50)=y at *
 cases x <;> cases y
 all_goals
  go_enter Tryz.func90,Tryz.ntmps90
  go_wp2
  go_ret
  exact ⟨rfl,rfl⟩
theorem isDev_any (c:UInt8) (w:World):Calls Tryz.prog 92 #[.int .u8 (c.toNat:Int)] w fun e w'=>e=.returned (.bool (isDevB c))∧w'=w:=by
 have e1:((c.toNat:Int)==51)=(c==51):=u8_at c 51 (by omega)
 have e2:((c.toNat:Int)==52)=(c==52):=u8_at c 52 (by omega)
 unfold isDevB
 generalize (c==51)=x at *
 generalize (c==52)=y at *
 cases x <;> cases y
 all_goals
  go_enter Tryz.func92,Tryz.ntmps92
  go_wp2
  go_ret
  exact ⟨rfl,rfl⟩
theorem fitsT_any (s:List UInt8) (n:Nat) (hs:s.length≤9223372036854775807) (w:World) :
  Calls Tryz.prog 88 #[.string (mkS s),.int .i64 (n:Int)] w fun e w'=>e=.returned (.bool (txtOk s n))∧w'=w:=by
 have s1:=mkS_size s
 have C:=Lib.hid (contains_zero s)
 unfold txtOk
 generalize s.any (·==0)=z at *
 by_cases hl:(s.length:Int)≤(n:Int)
 ·rw [decide_eq_true (by omega:s.length≤n)]
  cases z
  all_goals
   go_enter Tryz.func88,Tryz.ntmps88
   go_wp2_with (go_at_call 89;(with_reducible refine (C.out _).mono ?_);rintro e w' ⟨rfl,hw⟩;replace hw:=hw.symm;subst hw)
   go_ret
   exact ⟨rfl,rfl⟩
 ·rw [decide_eq_false (by omega:¬ s.length≤n)]
  go_enter Tryz.func88,Tryz.ntmps88
  go_wp2_with fail
  go_ret
  exact ⟨rfl,rfl⟩
theorem fitsI_any (n m:Int) (w:World) :
  Calls Tryz.prog 91 #[.int .i64 n,.int .i64 m] w fun e w'=>e=.returned (.bool (fitsI n m))∧w'=w:=by
 unfold fitsI
 by_cases h1:(0:Int)≤n <;> by_cases h2:n≤m
 all_goals
  go_enter Tryz.func91,Tryz.ntmps91
  go_wp2
  go_ret
  exact ⟨by simp [h1,h2],rfl⟩
theorem sparse_n {n:Nat} {a b:Int}:(decide (0<n) || !decide (a=b))=if (0:Int)<(n:Int) then true else (a != b):=by
 by_cases h0:(0:Int)<(n:Int)
 ·rw [if_pos h0,decide_eq_true (by omega:0<n)];rfl
 ·rw [if_neg h0,decide_eq_false (by omega:¬ 0<n)]
  by_cases h:a=b <;> simp [h]
set_option maxHeartbeats 1000000 in
theorem sparse_any (e:EntL) (ad:Option Addr) (cap:Nat) (hd:e.data.length≤9223372036854775807) (w:World) :
  Calls Tryz.prog 74 #[entV e (.slice ad e.map.length cap)] w fun r w'=>r=.returned (.bool (sparseE e))∧Below w.heap.size w w':=by
 have s1:=mkS_size e.data
 unfold sparseE entV
 rw [sparse_n]
 generalize e.map.length=n
 by_cases h0:(0:Int)<(n:Int)
 ·rw [if_pos h0]
  go_enter Tryz.func74,Tryz.ntmps74
  go_wp2
  go_ret
  exact ⟨rfl,below_alloc1 _ _⟩
 ·rw [if_neg h0]
  go_enter Tryz.func74,Tryz.ntmps74
  go_wp2
  go_ret
  exact ⟨rfl,below_alloc1 _ _⟩
theorem emp_dec (l:List UInt8):(mkS l).toList.isEmpty=decide (l=[]):=by
 rw [ByteArray.toList_eq,mkS_list]
 cases l <;> simp
theorem endsS_suffix (l:List UInt8):Lib.hasSuffix l [47]=endsS l:=by
 unfold Lib.hasSuffix endsS
 rcases List.eq_nil_or_concat l with rfl|⟨m,c,rfl⟩
 ·rfl
 ·rw [List.concat_eq_append,List.getLast?_append]
  simp [List.isSuffixOf,List.isPrefixOf]
  by_cases h:c=47
  ·subst h;rfl
  ·rw [decide_eq_false h];simpa using fun h'=>h h'.symm
theorem suffix47 (l:List UInt8) (w:World) (hl:l.length≤9223372036854775807) :
  Calls Tryz.prog 25 #[.string (mkS l),.string ⟨#[47]⟩] w fun e w'=>e=.returned (.bool (endsS l))∧w'=w:=by
 have h:=Tryz.strings_HasSuffix (mkS l) ⟨#[47]⟩ w (by rw [mkS_size];omega)
 have h2:=endsS_suffix l
 rw [mkS_list] at h
 rw [← h2]
 exact h
theorem regrown_eq {P:Program} {f:FuncId} {args:Array Value} {w:World} {v:Value} (h:Calls P f args w fun e w'=>e=.returned v∧w'=w):Calls P f args w fun e w'=>e=.returned v∧Below w.heap.size w w' :=
 h.mono fun e w' ⟨he,hw⟩=>⟨he,by rw [hw];exact Below.refl _ _⟩
set_option maxRecDepth 100000 in
set_option maxHeartbeats 8000000 in
theorem rightTexts_any (e:EntL) (v:Value) (hz:e.name.length≤9223372036854775807∧e.link.length≤9223372036854775807∧e.user.length≤9223372036854775807∧e.group.length≤9223372036854775807) (w:World) :
  Calls Tryz.prog 48 #[entV e v] w fun r w'=>r=.returned (.bool (rightT e))∧Below w.heap.size w w':=by
 obtain ⟨z0,z1,z2,z3⟩:=hz
 have hE:=EntAt.new w e v 26
 have hB:=Lib.hid (below_alloc1 w (.cells (entC e v) 26))
 have u:=fun d os=>hE.regrown d os
 unfold EntAt at u
 have u0:=fun d os=>(u d os).1
 have u1:=fun d os=>(u d os).2.1
 have u8:=fun d os=>(u d os).2.2.2.2.2.2.2.2.1
 have u9:=fun d os=>(u d os).2.2.2.2.2.2.2.2.2.1
 have u10:=fun d os=>(u d os).2.2.2.2.2.2.2.2.2.2.1
 clear u hE
 have CS:=Lib.hid (fun w=>suffix47 e.name w z0)
 have CL:=Lib.hid (isLink_any e.kind)
 have C1:=Lib.hid (fitsT_any e.name 120 z0)
 have C2:=Lib.hid (fitsT_any e.link 120 z1)
 have C3:=Lib.hid (fitsT_any e.user 32 z2)
 have C4:=Lib.hid (fitsT_any e.group 32 z3)
 clear z0 z1 z2 z3
 have e0:=emp_dec e.name
 have e1:=emp_dec e.link
 unfold rightT
 generalize decide (e.name=[])=b0 at *
 generalize decide (e.link=[])=b2 at *
 generalize endsS e.name=b1 at *
 generalize isLinkB e.kind=b3 at *
 generalize txtOk e.name 120=b4 at *
 generalize txtOk e.link 120=b5 at *
 generalize txtOk e.user 32=b6 at *
 generalize txtOk e.group 32=b7 at *
 unfold entV
 unfold entC at u0 u1 u8 u9 u10 hB
 go_enter Tryz.func48,Tryz.ntmps48
 go_wp2_with fail
 generalize (w.alloc (.cells _ 26))=w1 at *
 cases b0 with
 | true =>
  refine wp_region_quiet_below (by kernel_rfl) (by kernel_rfl) ?_
  repeat (go_big_quiet_step (first|(go_at_call 25;with_reducible exact Calls.regrown_of (regrown_eq (CS.out _)))|(go_at_call 90;with_reducible exact Calls.regrown_of (regrown_eq (CL.out _)))|(go_at_call 88;with_reducible exact Calls.regrown_of (regrown_eq (C1.out _)))|(go_at_call 88;with_reducible exact Calls.regrown_of (regrown_eq (C2.out _)))|(go_at_call 88;with_reducible exact Calls.regrown_of (regrown_eq (C3.out _)))|(go_at_call 88;with_reducible exact Calls.regrown_of (regrown_eq (C4.out _)))))
  refine wpQuiet_nil ?_
  intro _ hw'
  obtain ⟨⟨dq,osq⟩,hw''⟩:=hw'
  subst hw''
  have hq:=Lib.hid (hB.out.trans ((below_regrown _ dq osq).mono hB.out.size))
  dsimp only at *
  generalize Sort.grow (redrawn _ dq) osq=w2 at *
  go_wp2
  go_ret
  exact ⟨rfl,hq.out⟩
 | false =>
  cases b1 with
  | true =>
   refine wp_region_quiet_below (by kernel_rfl) (by kernel_rfl) ?_
   repeat (go_big_quiet_step (first|(go_at_call 25;with_reducible exact Calls.regrown_of (regrown_eq (CS.out _)))|(go_at_call 90;with_reducible exact Calls.regrown_of (regrown_eq (CL.out _)))|(go_at_call 88;with_reducible exact Calls.regrown_of (regrown_eq (C1.out _)))|(go_at_call 88;with_reducible exact Calls.regrown_of (regrown_eq (C2.out _)))|(go_at_call 88;with_reducible exact Calls.regrown_of (regrown_eq (C3.out _)))|(go_at_call 88;with_reducible exact Calls.regrown_of (regrown_eq (C4.out _)))))
   refine wpQuiet_nil ?_
   intro _ hw'
   obtain ⟨⟨dq,osq⟩,hw''⟩:=hw'
   subst hw''
   have hq:=Lib.hid (hB.out.trans ((below_regrown _ dq osq).mono hB.out.size))
   dsimp only at *
   generalize Sort.grow (redrawn _ dq) osq=w2 at *
   go_wp2
   go_ret
   exact ⟨rfl,hq.out⟩
  | false =>
   rcases (show (b2=b3)∨(b2=!b3) by cases b2 <;> cases b3 <;> simp) with h23|h23
   ·cases b3
    all_goals
     subst h23
     refine wp_region_quiet_below (by kernel_rfl) (by kernel_rfl) ?_
     repeat (go_big_quiet_step (first|(go_at_call 25;with_reducible exact Calls.regrown_of (regrown_eq (CS.out _)))|(go_at_call 90;with_reducible exact Calls.regrown_of (regrown_eq (CL.out _)))|(go_at_call 88;with_reducible exact Calls.regrown_of (regrown_eq (C1.out _)))|(go_at_call 88;with_reducible exact Calls.regrown_of (regrown_eq (C2.out _)))|(go_at_call 88;with_reducible exact Calls.regrown_of (regrown_eq (C3.out _)))|(go_at_call 88;with_reducible exact Calls.regrown_of (regrown_eq (C4.out _)))))
     refine wpQuiet_nil ?_
     intro _ hw'
     obtain ⟨⟨dq,osq⟩,hw''⟩:=hw'
     subst hw''
     have hq:=Lib.hid (hB.out.trans ((below_regrown _ dq osq).mono hB.out.size))
     dsimp only at *
     generalize Sort.grow (redrawn _ dq) osq=w2 at *
     go_wp2
     go_ret
     exact ⟨rfl,hq.out⟩
   ·cases b4 with
    | false =>
     cases b3
     all_goals
      subst h23
      refine wp_region_quiet_below (by kernel_rfl) (by kernel_rfl) ?_
      repeat (go_big_quiet_step (first|(go_at_call 25;with_reducible exact Calls.regrown_of (regrown_eq (CS.out _)))|(go_at_call 90;with_reducible exact Calls.regrown_of (regrown_eq (CL.out _)))|(go_at_call 88;with_reducible exact Calls.regrown_of (regrown_eq (C1.out _)))|(go_at_call 88;with_reducible exact Calls.regrown_of (regrown_eq (C2.out _)))|(go_at_call 88;with_reducible exact Calls.regrown_of (regrown_eq (C3.out _)))|(go_at_call 88;with_reducible exact Calls.regrown_of (regrown_eq (C4.out _)))))
      refine wpQuiet_nil ?_
      intro _ hw'
      obtain ⟨⟨dq,osq⟩,hw''⟩:=hw'
      subst hw''
      have hq:=Lib.hid (hB.out.trans ((below_regrown _ dq osq).mono hB.out.size))
      dsimp only at *
      generalize Sort.grow (redrawn _ dq) osq=w2 at *
      go_wp2
      go_ret
      exact ⟨rfl,hq.out⟩
    | true =>
     cases b5 with
     | false =>
      cases b3
      all_goals
       subst h23
       refine wp_region_quiet_below (by kernel_rfl) (by kernel_rfl) ?_
       repeat (go_big_quiet_step (first|(go_at_call 25;with_reducible exact Calls.regrown_of (regrown_eq (CS.out _)))|(go_at_call 90;with_reducible exact Calls.regrown_of (regrown_eq (CL.out _)))|(go_at_call 88;with_reducible exact Calls.regrown_of (regrown_eq (C1.out _)))|(go_at_call 88;with_reducible exact Calls.regrown_of (regrown_eq (C2.out _)))|(go_at_call 88;with_reducible exact Calls.regrown_of (regrown_eq (C3.out _)))|(go_at_call 88;with_reducible exact Calls.regrown_of (regrown_eq (C4.out _)))))
       refine wpQuiet_nil ?_
       intro _ hw'
       obtain ⟨⟨dq,osq⟩,hw''⟩:=hw'
       subst hw''
       have hq:=Lib.hid (hB.out.trans ((below_regrown _ dq osq).mono hB.out.size))
       dsimp only at *
       generalize Sort.grow (redrawn _ dq) osq=w2 at *
       go_wp2
       go_ret
       exact ⟨rfl,hq.out⟩
     | true =>
      cases b6 with
      | false =>
       cases b3
       all_goals
        subst h23
        refine wp_region_quiet_below (by kernel_rfl) (by kernel_rfl) ?_
        repeat (go_big_quiet_step (first|(go_at_call 25;with_reducible exact Calls.regrown_of (regrown_eq (CS.out _)))|(go_at_call 90;with_reducible exact Calls.regrown_of (regrown_eq (CL.out _)))|(go_at_call 88;with_reducible exact Calls.regrown_of (regrown_eq (C1.out _)))|(go_at_call 88;with_reducible exact Calls.regrown_of (regrown_eq (C2.out _)))|(go_at_call 88;with_reducible exact Calls.regrown_of (regrown_eq (C3.out _)))|(go_at_call 88;with_reducible exact Calls.regrown_of (regrown_eq (C4.out _)))))
        refine wpQuiet_nil ?_
        intro _ hw'
        obtain ⟨⟨dq,osq⟩,hw''⟩:=hw'
        subst hw''
        have hq:=Lib.hid (hB.out.trans ((below_regrown _ dq osq).mono hB.out.size))
        dsimp only at *
        generalize Sort.grow (redrawn _ dq) osq=w2 at *
        go_wp2
        go_ret
        exact ⟨rfl,hq.out⟩
      | true =>
       cases b3
       all_goals
        subst h23
        refine wp_region_quiet_below (by kernel_rfl) (by kernel_rfl) ?_
        repeat (go_big_quiet_step (first|(go_at_call 25;with_reducible exact Calls.regrown_of (regrown_eq (CS.out _)))|(go_at_call 90;with_reducible exact Calls.regrown_of (regrown_eq (CL.out _)))|(go_at_call 88;with_reducible exact Calls.regrown_of (regrown_eq (C1.out _)))|(go_at_call 88;with_reducible exact Calls.regrown_of (regrown_eq (C2.out _)))|(go_at_call 88;with_reducible exact Calls.regrown_of (regrown_eq (C3.out _)))|(go_at_call 88;with_reducible exact Calls.regrown_of (regrown_eq (C4.out _)))))
        refine wpQuiet_nil ?_
        intro _ hw'
        obtain ⟨⟨dq,osq⟩,hw''⟩:=hw'
        subst hw''
        have hq:=Lib.hid (hB.out.trans ((below_regrown _ dq osq).mono hB.out.size))
        dsimp only at *
        generalize Sort.grow (redrawn _ dq) osq=w2 at *
        go_wp2
        go_ret
        exact ⟨by cases b7 <;> rfl,hq.out⟩
set_option maxRecDepth 100000 in
set_option maxHeartbeats 8000000 in
theorem rightNumbers_any (e:EntL) (v:Value) (w:World) :
  Calls Tryz.prog 49 #[entV e v] w fun r w'=>r=.returned (.bool (rightN e))∧Below w.heap.size w w':=by
 have hE:=Lib.hid (EntAt.new w e v 26)
 have hB:=Lib.hid (below_alloc1 w (.cells (entC e v) 26))
 have CD:=Lib.hid (isDev_any e.kind)
 have C1:=Lib.hid (fitsI_any e.mode 4095)
 have C2:=Lib.hid (fitsI_any e.uid 1099511627775)
 have C3:=Lib.hid (fitsI_any e.gid 1099511627775)
 have CT:=Lib.hid (St.right_any e.sec e.nano)
 unfold rightN devMost
 unfold entC at hB hE
 cases hd:isDevB e.kind
 all_goals
  rw [hd] at CD
  first|rw [if_pos rfl]|rw [if_neg (by simp)]
  clear hd
 ·have C5:=Lib.hid (fitsI_any e.major 0)
  have C6:=Lib.hid (fitsI_any e.minor 0)
  generalize fitsI e.mode 4095=b1 at *
  generalize fitsI e.uid 1099511627775=b2 at *
  generalize fitsI e.gid 1099511627775=b3 at *
  generalize St.rightB e.sec e.nano=b4 at *
  generalize fitsI e.major _=b5 at *
  generalize fitsI e.minor _=b6 at *
  unfold entV
  go_enter Tryz.func49,Tryz.ntmps49
  go_wp2_with fail
  generalize (w.alloc (.cells _ 26))=w1 at *
  obtain ⟨c0,c1,c2,c3,c4,c5,c6,c7,c8,c9,c10,c11,c12,c13,c14⟩:=id hE.out
  cases b1
  case' true=>cases b2
  case' true.true=>cases b3
  case' true.true.true=>cases b4
  case' true.true.true.true=>cases b5
  all_goals
   go_wp2_with (first
    |(go_at_call 92;(with_reducible refine (CD.out _).mono ?_);rintro r w' ⟨rfl,hw⟩;replace hw:=hw.symm;subst hw)
    |(go_at_call 91;(with_reducible refine (C1.out _).mono ?_);rintro r w' ⟨rfl,hw⟩;replace hw:=hw.symm;subst hw)
    |(go_at_call 91;(with_reducible refine (C2.out _).mono ?_);rintro r w' ⟨rfl,hw⟩;replace hw:=hw.symm;subst hw)
    |(go_at_call 91;(with_reducible refine (C3.out _).mono ?_);rintro r w' ⟨rfl,hw⟩;replace hw:=hw.symm;subst hw)
    |(go_at_call 93;(with_reducible refine (CT.out _).mono ?_);rintro r w2 ⟨rfl,h2⟩;have hE2:=Lib.hid (hE.out.below h2 hE.out.lt);clear c0 c1 c2 c3 c4 c5 c6 c7 c8 c9 c10 c11 c12 c13 c14;obtain ⟨c0,c1,c2,c3,c4,c5,c6,c7,c8,c9,c10,c11,c12,c13,c14⟩:=id hE2.out)
    |(go_at_call 91;(with_reducible refine (C5.out _).mono ?_);rintro r w' ⟨rfl,hw⟩;replace hw:=hw.symm;subst hw)
    |(go_at_call 91;(with_reducible refine (C6.out _).mono ?_);rintro r w' ⟨rfl,hw⟩;replace hw:=hw.symm;subst hw)
    | fail)
   go_ret
   exact ⟨by first|rfl|(cases b6 <;> rfl),by first|exact hB.out.trans (h2.mono hB.out.size)|exact hB.out⟩
 ·have C5:=Lib.hid (fitsI_any e.major 2097151)
  have C6:=Lib.hid (fitsI_any e.minor 2097151)
  generalize fitsI e.mode 4095=b1 at *
  generalize fitsI e.uid 1099511627775=b2 at *
  generalize fitsI e.gid 1099511627775=b3 at *
  generalize St.rightB e.sec e.nano=b4 at *
  generalize fitsI e.major _=b5 at *
  generalize fitsI e.minor _=b6 at *
  unfold entV
  go_enter Tryz.func49,Tryz.ntmps49
  go_wp2_with fail
  generalize (w.alloc (.cells _ 26))=w1 at *
  obtain ⟨c0,c1,c2,c3,c4,c5,c6,c7,c8,c9,c10,c11,c12,c13,c14⟩:=id hE.out
  cases b1
  case' true=>cases b2
  case' true.true=>cases b3
  case' true.true.true=>cases b4
  case' true.true.true.true=>cases b5
  all_goals
   go_wp2_with (first
    |(go_at_call 92;(with_reducible refine (CD.out _).mono ?_);rintro r w' ⟨rfl,hw⟩;replace hw:=hw.symm;subst hw)
    |(go_at_call 91;(with_reducible refine (C1.out _).mono ?_);rintro r w' ⟨rfl,hw⟩;replace hw:=hw.symm;subst hw)
    |(go_at_call 91;(with_reducible refine (C2.out _).mono ?_);rintro r w' ⟨rfl,hw⟩;replace hw:=hw.symm;subst hw)
    |(go_at_call 91;(with_reducible refine (C3.out _).mono ?_);rintro r w' ⟨rfl,hw⟩;replace hw:=hw.symm;subst hw)
    |(go_at_call 93;(with_reducible refine (CT.out _).mono ?_);rintro r w2 ⟨rfl,h2⟩;have hE2:=Lib.hid (hE.out.below h2 hE.out.lt);clear c0 c1 c2 c3 c4 c5 c6 c7 c8 c9 c10 c11 c12 c13 c14;obtain ⟨c0,c1,c2,c3,c4,c5,c6,c7,c8,c9,c10,c11,c12,c13,c14⟩:=id hE2.out)
    |(go_at_call 91;(with_reducible refine (C5.out _).mono ?_);rintro r w' ⟨rfl,hw⟩;replace hw:=hw.symm;subst hw)
    |(go_at_call 91;(with_reducible refine (C6.out _).mono ?_);rintro r w' ⟨rfl,hw⟩;replace hw:=hw.symm;subst hw)
    | fail)
   go_ret
   exact ⟨by first|rfl|(cases b6 <;> rfl),by first|exact hB.out.trans (h2.mono hB.out.size)|exact hB.out⟩
end Go.Proofs.YtdjcjaidklgamaaGreatDoor
end
