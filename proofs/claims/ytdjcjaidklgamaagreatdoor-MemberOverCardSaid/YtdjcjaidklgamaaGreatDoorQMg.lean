import Derived.Test.YtdjcjaidklgamaaGreatDoorQMf
import Derived.Test.YtdjcjaidklgamaaGreatDoorQPe
import Derived.Test.YtdjcjaidklgamaaGreatDoorQPc
import Derived.Test.YtdjcjaidklgamaaGreatDoorQSb
import Derived.Test.YtdjcjaidklgamaaGreatDoorQHr
set_option linter.unusedSimpArgs false
set_option linter.unusedVariables false
section
namespace Go.Proofs.YtdjcjaidklgamaaGreatDoor
set_option linter.unusedVariables false
abbrev PrL:=List UInt8 × List UInt8
def onceL:List (List UInt8)→List (List UInt8)
 | []=>[]
 | a :: l=>if a∈onceL l then onceL l else a :: onceL l
theorem onceL_mem (x:List UInt8):∀ l,x∈onceL l↔x∈l
 | []=>Iff.rfl
 | a :: l=>by
  unfold onceL
  split
  ·next h =>
   rw [onceL_mem x l,List.mem_cons]
   exact ⟨.inr,fun h2=>h2.elim (fun e=>e ▸ (onceL_mem a l).1 h) id⟩
  ·rw [List.mem_cons,List.mem_cons,onceL_mem x l]
theorem onceL_nodup:∀ l,(onceL l).Nodup
 | []=>List.nodup_nil
 | a :: l=>by
  unfold onceL
  split
  ·exact onceL_nodup l
  ·next h=>exact List.nodup_cons.2 ⟨h,onceL_nodup l⟩
theorem merged_exists (L:List PrL):∃ M,Px.MergedOf M L:=by
 have hn:=onceL_nodup (L.map (·.1))
 have hs:=Px.sorted_rising _ hn
 refine ⟨_,Px.merged_all ((onceL (L.map (·.1))).mergeSort (fun x y=>decide (x≤y))) L hs fun k=>?_⟩
 rw [List.mem_mergeSort,onceL_mem,List.mem_map]
 constructor
 ·rintro ⟨p,hp,rfl⟩
  cases hl:Px.lastOf L p.1 with
  | some q=>exact ⟨q,rfl⟩
  | none =>
   unfold Px.lastOf at hl
   rw [List.find?_eq_none] at hl
   exact absurd (by simp) (hl p (List.mem_reverse.2 hp))
 ·rintro ⟨p,hp⟩
  obtain ⟨h1,h2⟩:=Px.lastOf_mem hp
  exact ⟨p,h1,h2⟩
noncomputable def mergeF (L:List PrL):List PrL:=Classical.choose (merged_exists L)
theorem mergeF_is (L:List PrL):Px.MergedOf (mergeF L) L:=Classical.choose_spec (merged_exists L)
theorem mergeF_eq {M L:List PrL} (h:Px.MergedOf M L):mergeF L=M:=(mergeF_is L).unique h fun k v _=>Iff.rfl
noncomputable def readM (s:List UInt8):List PrL:=Classical.choose (Px.read_is s.length s (Nat.le_refl _))
noncomputable def readB (s:List UInt8):Bool:=Classical.choose (Classical.choose_spec (Px.read_is s.length s (Nat.le_refl _)))
theorem readM_is (s:List UInt8):Px.ReadIs s (readM s) (readB s):=Classical.choose_spec (Classical.choose_spec (Px.read_is s.length s (Nat.le_refl _)))
noncomputable def recsR (s:List UInt8):Int × List PrL :=
 if 20<(readM s).length then (4,[]) else if readB s then (3,[]) else (0,readM s)
def takeF (s:List UInt8) (at_:Nat) (n most:Int):Int × List UInt8 × Nat :=
 if most<n then (4,[],at_) else if n<0∨(s.length:Int) - at_<n+padF n then (3,[],at_) else (0,sub s at_ n.toNat,at_+(n+padF n).toNat)
def smallB (l:List UInt8):Bool:=St.isDig l&&decide (l.length≤15)
def smallF (l:List UInt8):Int × Int:=if smallB l then (0,St.valD l) else (3,0)
def addF (t:List UInt8):Nat→Nat→List Pc→Int × List Pc
 | 0,_,l=>(0,l)
 | k+1,i,l =>
  if (readF (sub t (24 * i) 12)).2≠0∨(readF (sub t (24 * i+12) 12)).2≠0 then (2,l) else
  if (readF (sub t (24 * i+12) 12)).1=0 then (0,l) else
  if 20≤l.length then (4,l) else addF t k (i+1) (l++[((readF (sub t (24 * i) 12)).1,(readF (sub t (24 * i+12) 12)).1)])
def moreR (s:List UInt8) (at_:Nat) (l:List Pc) (more:Bool):Int × List Pc × Nat :=
 if more=false then (0,l,at_) else
 if s.length<at_+512 then (3,[],at_) else
 if (addF (sub s at_ 512) 21 0 l).1≠0 then ((addF (sub s at_ 512) 21 0 l).1,[],at_) else
 moreR s (at_+512) (addF (sub s at_ 512) 21 0 l).2 (decide ((sub s at_ 512)[504]?≠some 0))
termination_by s.length - at_
decreasing_by omega
def holesR (s h:List UInt8) (at_:Nat):Int × List Pc × Int × Nat :=
 if (addF (h.drop 386) 4 0 []).1≠0 then ((addF (h.drop 386) 4 0 []).1,[],0,at_) else
 if (readF (sub h 483 12)).2≠0 then (2,[],0,at_) else
 ((moreR s at_ (addF (h.drop 386) 4 0 []).2 (decide (h[482]?≠some 0))).1,(moreR s at_ (addF (h.drop 386) 4 0 []).2 (decide (h[482]?≠some 0))).2.1,(readF (sub h 483 12)).1,(moreR s at_ (addF (h.drop 386) 4 0 []).2 (decide (h[482]?≠some 0))).2.2)
def lineR (r:List UInt8):Int × Int × List UInt8 :=
 if r.contains 10 then ((smallF (r.takeWhile (· != 10))).1,(smallF (r.takeWhile (· != 10))).2,(r.dropWhile (· != 10)).drop 1) else (3,0,r)
def linesR:Nat→List UInt8→List Pc→Int × List Pc × List UInt8
 | 0,r,l=>(0,l,r)
 | k+1,r,l =>
  if (lineR r).1≠0 then ((lineR r).1,[],r) else
  if (lineR (lineR r).2.2).1≠0 then ((lineR (lineR r).2.2).1,[],r) else
  linesR k (lineR (lineR r).2.2).2.2 (l++[((lineR r).2.1,(lineR (lineR r).2.2).2.1)])
def behindR (d r:List UInt8) (l:List Pc):Int × List Pc × List UInt8 :=
 if (r.length:Int)<padF ((d.length:Int) - r.length) then (3,[],[]) else (0,l,r.drop (padF ((d.length:Int) - r.length)).toNat)
def newMapR (d:List UInt8):Int × List Pc × List UInt8 :=
 if (lineR d).1≠0 then ((lineR d).1,[],[]) else
 if 20<(lineR d).2.1 then (4,[],[]) else
 if (linesR (lineR d).2.1.toNat (lineR d).2.2 []).1≠0 then ((linesR (lineR d).2.1.toNat (lineR d).2.2 []).1,[],[]) else
 behindR d (linesR (lineR d).2.1.toNat (lineR d).2.2 []).2.2 (linesR (lineR d).2.1.toNat (lineR d).2.2 []).2.1
structure RSt where
 at_:Nat
 G:List PrL
 O:List PrL
 nm:Option (List UInt8)
 lk:Option (List UInt8)
def entryR (r:RawL) (st:RSt):EntL:=⟨st.nm.getD (fullL r),r.kind,r.mode,r.uid,r.gid,r.size,r.time,0,st.lk.getD r.link,r.user,r.group,r.major,r.minor,[],[]⟩
def applyF (e:EntL) (p:PrL):EntL × Int :=
 if p.1=pathK then ({ e with name:=p.2 },0) else
 if p.1=linkK then ({ e with link:=p.2 },0) else
 if p.1=unameK then ({ e with user:=p.2 },0) else
 if p.1=gnameK then ({ e with group:=p.2 },0) else
 if p.1=mtimeK then ({ e with sec:=(St.parseF p.2).2.1,nano:=(St.parseF p.2).2.2 },(St.parseF p.2).1) else
 if p.1=uidK then ({ e with uid:=(smallF p.2).2 },(smallF p.2).1) else
 if p.1=gidK then ({ e with gid:=(smallF p.2).2 },(smallF p.2).1) else (e,0)
def applyAll:EntL→List PrL→EntL × Int
 | e,[]=>(e,0)
 | e,p :: l=>if (applyF e p).2≠0 then ((applyF e p).1,(applyF e p).2) else applyAll (applyF e p).1 l
def settleF (e:EntL):EntL :=
 let k:UInt8:=if e.kind=48∧endsS e.name=true then 53 else e.kind
 { e with kind:=k,name:=if k=53 then Lib.trimRightB e.name 47 else e.name,size:=if k=48 then e.size else 0,data:=if k=48 then e.data else [],map:=if k=48 then e.map else [],
          link:=if isLinkB k then e.link else [],major:=if isDevB k then e.major else 0,minor:=if isDevB k then e.minor else 0 }
noncomputable def linedR (e:EntL) (M:List PrL) (d:List UInt8):Int × EntL :=
 if Px.getL M majorK≠[49]∨e.kind≠48 then (0,{ e with data:=d }) else
 if (smallF (Px.getL M realK)).1≠0 then ((smallF (Px.getL M realK)).1,e) else
 ((newMapR d).1,{ e with size:=(smallF (Px.getL M realK)).2,map:=(newMapR d).2.1,data:=(newMapR d).2.2 })
noncomputable def dataR (s:List UInt8) (at_:Nat) (e:EntL) (n:Int) (M:List PrL):Int × EntL × Nat :=
 if (takeF s at_ n 14240).1≠0 then ((takeF s at_ n 14240).1,e,at_) else
 ((linedR e M (takeF s at_ n 14240).2.1).1,(linedR e M (takeF s at_ n 14240).2.1).2,(takeF s at_ n 14240).2.2)
noncomputable def kindR (s:List UInt8) (at_:Nat) (e:EntL) (n:Int) (h:List UInt8) (M:List PrL):Int × EntL × Nat :=
 if e.kind=83 then
  if (holesR s h at_).1≠0 then ((holesR s h at_).1,e,at_) else dataR s (holesR s h at_).2.2.2 { e with kind:=48,map:=(holesR s h at_).2.1,size:=(holesR s h at_).2.2.1 } n M
 else dataR s at_ (if e.kind=55 then { e with kind:=48 } else e) n M
inductive Nxt
 | err (k:Int)
 | ahead (st:RSt)
 | found (e:EntL) (at_:Nat)
noncomputable def memberR (s:List UInt8) (st:RSt) (r:RawL) (h:List UInt8):Nxt :=
 let M:=mergeF (st.G++st.O)
 let x:=applyAll (entryR r st) M
 if x.2≠0 then .err x.2 else
 let y:=kindR s st.at_ x.1 r.size h M
 if y.1≠0 then .err y.1 else
 if rightE (settleF y.2.1) then .found (settleF y.2.1) y.2.2 else .err 1
noncomputable def aheadR (s:List UInt8) (st:RSt) (r:RawL):Nxt :=
 let x:=takeF s st.at_ r.size 4000
 if x.1≠0 then .err x.1 else
 if r.kind=76 then .ahead { st with at_:=x.2.2,nm:=some (cutZ x.2.1) } else
 if r.kind=75 then .ahead { st with at_:=x.2.2,lk:=some (cutZ x.2.1) } else
 if (recsR x.2.1).1≠0 then .err (recsR x.2.1).1 else
 if r.kind=120 then .ahead { st with at_:=x.2.2,O:=(recsR x.2.1).2 } else .ahead { st with at_:=x.2.2,G:=mergeF (st.G++(recsR x.2.1).2) }
def aheadB (k:UInt8):Bool:=k==76 || (k==75 || (k==120 || k==103))
instance (l:List UInt8):Decidable (rightL l):=by unfold rightL;infer_instance
instance (l:List UInt8):Decidable (numsRead l):=by unfold numsRead;infer_instance
def headF (l:List UInt8):Int × RawL:=if l.length≠512 then (3,rawZ 0) else if ¬ rightL l then (15,rawZ 0) else if ¬ numsRead l then (2,rawZ 0) else (0,rawAt l)
noncomputable def nextR (s:List UInt8) (st:RSt):Nxt :=
 if s.length<st.at_+512 then .err 3 else
 let h:=sub s st.at_ 512
 if h.all (·==0) then .err 3 else
 if (headF h).1≠0 then .err (headF h).1 else
 if aheadB (headF h).2.kind then aheadR s { st with at_:=st.at_+512 } (headF h).2 else memberR s { st with at_:=st.at_+512 } (headF h).2 h
inductive Res
 | bare (k:Int)
 | err (k:Int) (place:Nat)
 | ok (e:EntL) (at_:Nat) (G:List PrL)
inductive Reads (s:List UInt8):RSt→Res→Prop
 | err {st k}:nextR s st=.err k→Reads s st (.err k st.at_)
 | ok {st e a}:nextR s st=.found e a→Reads s st (.ok e a st.G)
 | step {st st' r}:nextR s st=.ahead st'→Reads s st' r→Reads s st r
theorem Reads.unique {s:List UInt8} {st:RSt} {r r':Res} (h:Reads s st r) (h':Reads s st r'):r=r':=by
 induction h with
 | err e =>
  cases h' with
  | err e'=>rw [e] at e';cases e';rfl
  | ok e'=>rw [e] at e';cases e'
  | step e' _=>rw [e] at e';cases e'
 | ok e =>
  cases h' with
  | err e'=>rw [e] at e';cases e'
  | ok e'=>rw [e] at e';cases e';rfl
  | step e' _=>rw [e] at e';cases e'
 | step e _ ih =>
  cases h' with
  | err e'=>rw [e] at e';cases e'
  | ok e'=>rw [e] at e';cases e'
  | step e' k=>rw [e] at e';cases e';exact ih k
inductive EReads (s:List UInt8) (a:Int) (G:List PrL):Res→Prop
 | range:¬ (0≤a∧a≤s.length)→EReads s a G (.bare 2)
 | none:0≤a∧a≤s.length→a=s.length∨(a+512≤s.length∧(sub s a.toNat 512).all (·==0)=true)→EReads s a G (.bare 8)
 | go {r}:0≤a∧a≤s.length→¬ (a=s.length∨(a+512≤s.length∧(sub s a.toNat 512).all (·==0)=true))→Reads s ⟨a.toNat,G,[],none,none⟩ r→EReads s a G r
theorem EReads.unique {s:List UInt8} {a:Int} {G:List PrL} {r r':Res} (h:EReads s a G r) (h':EReads s a G r'):r=r':=by
 cases h with
 | range x =>
  cases h' with
  | range _=>rfl
  | none y _=>exact absurd y x
  | go y _ _=>exact absurd y x
 | none x y =>
  cases h' with
  | range z=>exact absurd x z
  | none _ _=>rfl
  | go _ z _=>exact absurd y z
 | go x y z =>
  cases h' with
  | range u=>exact absurd x u
  | none _ u=>exact absurd u y
  | go _ _ u=>exact z.unique u
end Go.Proofs.YtdjcjaidklgamaaGreatDoor
end
