import Derived.Test.YtdjcjaidklgamaaGreatDoorQEn
import Derived.Test.YtdjcjaidklgamaaGreatDoorQPb
import Derived.Test.YtdjcjaidklgamaaGreatDoorQSa
import Derived.Test.YtdjcjaidklgamaaGreatDoorQHb
set_option linter.unusedSimpArgs false
set_option linter.unusedVariables false
section
namespace Go.Proofs.YtdjcjaidklgamaaGreatDoor
set_option linter.unusedVariables false
instance (l:List UInt8) (i:Nat):Decidable (halfAt l i):=by unfold halfAt;infer_instance
def halfF (l:List UInt8):List UInt8 × List UInt8 × Bool :=
 if l.length≤100 then ([],l,true) else match (List.range 156).find? (fun i=>decide (halfAt l i)) with
 | some i=>(l.take i,l.drop (i+1),true)
 | none=>([],[],false)
theorem halfF_is (l:List UInt8):HalfIs l (halfF l).1 (halfF l).2.1 (halfF l).2.2:=by
 unfold halfF
 split
 ·next h=>exact .inl ⟨h,rfl,rfl,rfl⟩
 ·next h =>
  right
  refine ⟨by omega,?_⟩
  cases hf:(List.range 156).find? (fun i=>decide (halfAt l i)) with
  | some i =>
   left
   have h1:=List.find?_some hf
   refine ⟨i,of_decide_eq_true h1,fun j hj hh=>?_,rfl,rfl,rfl⟩
   have h2:=(List.find?_range_eq_some.1 hf).2.2 j hj
   rw [decide_eq_true hh] at h2
   exact absurd h2 (by simp)
  | none =>
   right
   refine ⟨fun i hh=>?_,rfl,rfl,rfl⟩
   have h2:=List.find?_eq_none.1 hf i (List.mem_range.2 (by have:=hh.2.1;omega))
   exact h2 (decide_eq_true hh)
theorem HalfIs.eq {l a b:List UInt8} {k:Bool} (h:HalfIs l a b k):halfF l=(a,b,k):=by
 obtain ⟨h1,h2,h3⟩:=(halfF_is l).unique h
 rw [← h1,← h2,← h3]
def namedF (d:Nat) (r:RawL) (n:List UInt8):RawL × Bool :=
 if d=2∨d=4 then ({ r with front:=(halfF n).1,name:=(halfF n).2.1 },(halfF n).2.2) else ({ r with front:=[],name:=n },decide (n.length≤100))
theorem NamedIs.eq {d:Nat} {r q:RawL} {n:List UInt8} {k:Bool} (h:NamedIs (d:Int) r n q k):namedF d r n=(q,k):=by
 cases h with
 | parted a b _ hd hI =>
  unfold namedF
  rw [if_pos (by omega),hI.eq]
 | whole hd =>
  unfold namedF
  rw [if_neg (by omega)]
instance (d:Nat) (r:RawL):Decidable (goodL d r):=by unfold goodL bearsL;infer_instance
def wholeF (d:Nat) (r:RawL) (n link data:List UInt8):List UInt8 × Int :=
 if (namedF d r n).2=true∧goodL d { (namedF d r n).1 with link:=link } then (writeL d { (namedF d r n).1 with link:=link }++fillL data,0) else ([],2)
def storedE (e:EntL):List UInt8:=if e.kind=53 then e.name++[47] else e.name
def rawE (e:EntL):RawL:=⟨[],[],e.user,e.group,[],e.kind,e.mode,e.uid,e.gid,e.data.length,e.sec,e.major,e.minor⟩
def oldF (d:Nat) (e:EntL):List UInt8 × Int :=
 if sparseE e=true∨e.nano≠0 then ([],2) else if d=1∧(e.kind=51∨e.kind=52∨e.kind=54) then ([],2)
 else wholeF d (if d=1∧e.kind=53 then { rawE e with kind:=48 } else rawE e) (storedE e) e.link e.data
def longName:List UInt8:=[46,47,46,47,64,76,111,110,103,76,105,110,107]
def rawLong (k:UInt8) (n:Int):RawL:=⟨longName,[],[],[],[],k,0,0,0,n,0,0,0⟩
def longF (k:UInt8) (t:List UInt8):List UInt8:=if 100<t.length then writeL 3 (rawLong k (t.length+1))++fillL (t++[0]) else []
def octL (n:Int):List UInt8:=(octNums n 12).map u8
def pcsL (l:List Pc):List UInt8:=l.flatMap fun p=>octL p.1++octL p.2
def listF (l:List Pc) (most:Nat):List UInt8:=pcsL (l.take most)++(List.replicate ((most - min most l.length) * 24) 0++[if most<l.length then 1 else 0])
def moreF (l:List Pc):List UInt8:=if l=[] then [] else fillL (listF l 21)
def holesF (s:List UInt8) (e:EntL):List UInt8:=sealL (s.take 386++(listF e.map 4++(octL e.size++sub s 495 17)))++(moreF (e.map.drop 4)++s.drop 512)
def gnuRaw (e:EntL):RawL:=if sparseE e then { rawE e with kind:=83 } else rawE e
def gnuX (e:EntL):List UInt8 × Int:=wholeF 3 (gnuRaw e) ((storedE e).take 100) (e.link.take 100) e.data
def gnuF (e:EntL):List UInt8 × Int :=
 if e.nano≠0 then ([],2) else if (gnuX e).2≠0 then ([],2) else
 (longF 75 e.link++(longF 76 (storedE e)++(if sparseE e then holesF (gnuX e).1 e else (gnuX e).1)),0)
def majorK:List UInt8:=[71,78,85,46,115,112,97,114,115,101,46,109,97,106,111,114]
def minorK:List UInt8:=[71,78,85,46,115,112,97,114,115,101,46,109,105,110,111,114]
def realK:List UInt8:=[71,78,85,46,115,112,97,114,115,101,46,114,101,97,108,115,105,122,101]
def gidK:List UInt8:=[103,105,100]
def uidK:List UInt8:=[117,105,100]
def linkK:List UInt8:=[108,105,110,107,112,97,116,104]
def mtimeK:List UInt8:=[109,116,105,109,101]
def pathK:List UInt8:=[112,97,116,104]
def unameK:List UInt8:=[117,110,97,109,101]
def gnameK:List UInt8:=[103,110,97,109,101]
def decN (n:Int):List UInt8:=Lib.decDigits n.toNat
def beyondE (e:EntL):Bool:=decide (e.sec<0) || decide (8589934591<e.sec)
def recsE (e:EntL):List (List UInt8 × List UInt8) :=
 (if sparseE e then [(majorK,[49]),(minorK,[48]),(realK,decN e.size)] else [])++((if 2097151<e.gid then [(gidK,decN e.gid)] else [])++((if 100<e.link.length then [(linkK,e.link)] else []) ++
 ((if beyondE e=true∨e.nano≠0 then [(mtimeK,St.textL e.sec e.nano)] else [])++((if (halfF (storedE e)).2.2 then [] else [(pathK,storedE e)])++(if 2097151<e.uid then [(uidK,decN e.uid)] else [])))))
def linesL (l:List Pc):List UInt8:=decN l.length++(10 :: l.flatMap fun p=>decN p.1++(10 :: (decN p.2++[10])))
def paxData (e:EntL):List UInt8:=if sparseE e then fillL (linesL e.map)++e.data else e.data
def paxRaw (e:EntL):RawL:=⟨[],[],e.user,e.group,[],e.kind,e.mode,if 2097151<e.uid then 0 else e.uid,if 2097151<e.gid then 0 else e.gid,(paxData e).length,if beyondE e then 0 else e.sec,e.major,e.minor⟩
def standIn:List UInt8:=[80,97,120,78,97,109,101]
def extName:List UInt8:=[80,97,120,72,101,97,100,101,114]
def paxName (e:EntL):List UInt8:=if (halfF (storedE e)).2.2 then storedE e else standIn
def rawExt (n:Int):RawL:=⟨extName,[],[],[],[],120,0,0,0,n,0,0,0⟩
def extF (l:List (List UInt8 × List UInt8)):List UInt8:=if l=[] then [] else writeL 4 (rawExt (Px.recsL l).length)++fillL (Px.recsL l)
def paxX (e:EntL):List UInt8 × Int:=wholeF 4 (paxRaw e) (paxName e) (e.link.take 100) (paxData e)
def paxF (e:EntL):List UInt8 × Int:=if (paxX e).2≠0 then ([],2) else (extF (recsE e)++(paxX e).1,0)
def eWriteF (d:Int) (e:EntL):List UInt8 × Int :=
 if d<1∨4<d∨rightE e=false then ([],1) else if d=3 then gnuF e else if d=4 then paxF e else oldF d.toNat e
end Go.Proofs.YtdjcjaidklgamaaGreatDoor
end
