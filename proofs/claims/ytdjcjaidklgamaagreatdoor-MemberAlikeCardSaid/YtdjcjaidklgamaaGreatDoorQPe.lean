import Derived.Test.YtdjcjaidklgamaaGreatDoorQPc
import Derived.Test.YtdjcjaidklgamaaGreatDoorQIter
import Derived.Laws.AppendOwnNone
import Derived.Lib.AppendZeros
import Derived.OwnWalk
import Derived.Deep.LoopGhost
import Derived.Maps.OwnSet
import Derived.Maps.Views
import Derived.Shelf.SortM.Plain
import Derived.Shelf.SortM.SortNone
import Derived.RangeFuncNested
import Derived.RangeFuncBound
import Derived.RangeFuncCalls
import Derived.RangeFuncLeaves
import Derived.Shelf.Abstract
import Derived.OwnWalkIn
import Derived.TacticsInMore
import Derived.LoopNIn
import Derived.LoopIn
set_option linter.unusedSimpArgs false
set_option linter.unusedVariables false
section
namespace Go.Proofs.YtdjcjaidklgamaaGreatDoor.Px
open Go.RowKit Go.Joins
set_option linter.unusedVariables false
def SliceIs (W:World) (x:Value) (l:List Pr):Prop:=∃ ad cap,x=.slice ad l.length cap∧(ad=none→cap=0)∧PairsAt W ad l
theorem SliceIs.below {W W':World} {x:Value} {l:List Pr} (h:SliceIs W x l) (hb:Below W.heap.size W W'):SliceIs W' x l:=by
 obtain ⟨ad,cap,h1,h2,h3⟩:=h
 exact ⟨ad,cap,h1,h2,h3.below hb⟩
theorem sliceIs_of_row {W:World} {base:Nat} {e:TypeId} {v:Value} {M:List Pr} (h:W.ownsRow base e 2 v M.length (pairCells M)):SliceIs W v M:=by
 rcases h.2 with ⟨rfl,h0⟩|⟨g,cap,cur,rfl,_⟩
 ·obtain rfl:=List.length_eq_zero_iff.1 h0
  exact ⟨none,0,rfl,fun _=>rfl,fun i p hi=>by simp at hi⟩
 ·exact ⟨_,cap,rfl,fun h=>by (cases h),pairsAt_of_row h⟩
theorem pairCells_append (a b:List Pr):pairCells (a++b)=pairCells a++pairCells b:=by unfold pairCells;rw [List.flatMap_append]
theorem pairsAt_cells {W:World} {a:Addr} {l:List Pr} (h:PairsAt W (some a) l):∀ (j:Nat) (u:Value),(pairCells l)[j]?=some u→W.cell? (a.add j)=some u:=fun j u hj=>by
 have hjl:=(List.getElem?_eq_some_iff.1 hj).1
 rw [pairCells_length] at hjl
 obtain ⟨p,hp⟩:∃ p,l[j / 2]?=some p:=⟨_,List.getElem?_eq_getElem (by omega)⟩
 obtain ⟨b,off,e1,_,e3,e4⟩:=h _ p hp
 cases e1
 obtain ⟨c1,c2⟩:=pairCells_at l (j / 2) p hp
 rw [Go.WideShapes.add_plain]
 rcases Nat.mod_two_eq_zero_or_one j with hm|hm
 ·rw [show j / 2 * 2=j by omega] at c1 e3
  rw [hj] at c1;cases c1;exact e3
 ·rw [show j / 2 * 2+1=j by omega] at c2
  rw [show off+j / 2 * 2+1=off+j by omega] at e4
  rw [hj] at c2;cases c2;exact e4
theorem pairCells_one (l:List Pr):∀ u∈pairCells l,u.oneCell'=true:=fun u hu=>by
 unfold pairCells at hu
 obtain ⟨p,_,hp⟩:=List.mem_flatMap.1 hu
 rcases List.mem_cons.1 hp with rfl|hp
 ·rfl
 ·rw [List.mem_singleton.1 hp];rfl
theorem below_grown {w W w1:World} {v:Value} {base:Nat} {e:TypeId} {size n:Nat} {xs:List Value} (hB:Below w.heap.size w W) (hrow:W.ownsRow base e size v n xs) (hb:w.heap.size≤base) (hg:W.grownBy w1 v.ownBlock):Below w.heap.size w w1 :=
 hB.grown hg hB.size fun j ej=>by
  rcases hrow.2 with ⟨rfl,_⟩|⟨g,cap,cur,rfl,hbg,_,_⟩
  ·simp [Value.ownBlock] at ej
  ·obtain rfl:g=j:=by simpa [Value.ownBlock] using ej
   omega
def catTo (Ls:List (Value × List Pr)) (i:Nat):List Pr:=(Ls.take i).flatMap fun y=>y.2
theorem catTo_succ (Ls:List (Value × List Pr)) (i:Nat) (x:Value × List Pr) (h:Ls[i]?=some x):catTo Ls (i+1)=catTo Ls i++x.2:=by
 unfold catTo;rw [List.take_add_one,h,List.flatMap_append];simp
theorem flat_bound:∀ (Ls:List (Value × List Pr)),(∀ x∈Ls,x.2.length≤1000)→(Ls.flatMap fun y=>y.2).length≤1000 * Ls.length
 | [],_=>by simp
 | x :: Ls,h=>by
  have:=flat_bound Ls fun y hy=>h y (List.mem_cons_of_mem _ hy)
  have h1:=h x (List.mem_cons_self ..)
  rw [List.flatMap_cons,List.length_append,List.length_cons];omega
end Go.Proofs.YtdjcjaidklgamaaGreatDoor.Px
end
section
namespace Go.Proofs.YtdjcjaidklgamaaGreatDoor.Px
open Go.RowKit Go.Joins Go.Maps
set_option linter.unusedVariables false
def prU (p:List UInt8 × List UInt8):DataW Unit:=.agg [.lit (.string p.1),.lit (.string p.2)]
def twoStr:List Value→Option (DataW Unit × List MemPlace)
 | [.string a,.string b]=>some (prU (a.data.toList,b.data.toList),[])
 | _=>none
def pairElem:Value→Option (DataW Unit × List MemPlace)
 | .agg cs=>twoStr cs.toList
 | _=>none
theorem pairElem_pr (k v:List UInt8):pairElem (prV k v)=some (prU (k,v),[]):=by
 show twoStr [.string (mkS k),.string (mkS v)]=_
 simp [twoStr,mkS_list]
theorem pairElem_inv {v:Value} {d:DataW Unit} {ps:List MemPlace} (h:pairElem v=some (d,ps)):∃ p:List UInt8 × List UInt8,v=prV p.1 p.2∧d=prU p:=by
 cases v <;> try (cases h;done)
 rename_i cs
 have h':twoStr cs.toList=some (d,ps):=h
 unfold twoStr at h'
 split at h'
 ·rename_i a b e
  refine ⟨(a.data.toList,b.data.toList),?_,?_⟩
  ·unfold prV
   rw [mkS_self,mkS_self,← Array.toArray_toList (xs:=cs),e]
  ·cases h';rfl
 ·cases h'
theorem prU_inj (p q:List UInt8 × List UInt8) (h:prU p=prU q):p=q:=by
 unfold prU at h
 injection h with h
 injection h with h1 h2
 injection h2 with h2 _
 injection h1 with h1
 injection h2 with h2
 injection h1 with h1
 injection h2 with h2
 exact Prod.ext h1 h2
def lastOf (l:List (List UInt8 × List UInt8)) (k:List UInt8):Option (List UInt8 × List UInt8):=l.reverse.find? fun p=>p.1==k
theorem lastOf_snoc (l:List (List UInt8 × List UInt8)) (p:List UInt8 × List UInt8) (k:List UInt8):lastOf (l++[p]) k=if p.1=k then some p else lastOf l k:=by
 unfold lastOf
 rw [List.reverse_append]
 by_cases h:p.1=k <;> simp [h]
def Tells (D:DataW Unit) (l:List (List UInt8 × List UInt8)):Prop:=∀ k,(lastOf l k=none→has D (.string k)=false)∧∀ p,lastOf l k=some p→has D (.string k)=true∧∀ z,D.atKey (.string k) z=prU p
end Go.Proofs.YtdjcjaidklgamaaGreatDoor.Px
end
section
namespace Go.Proofs.YtdjcjaidklgamaaGreatDoor.Px
open Go.RowKit Go.Joins Go.Maps
set_option linter.unusedVariables false
theorem keyLt_irrefl (a:List UInt8):¬ a<a:=List.lt_irrefl a
theorem keyLt_asymm {a b:List UInt8} (h:a<b):¬ b<a:=List.lt_asymm h
def Rising (M:List (List UInt8 × List UInt8)):Prop:=M.Pairwise fun p q=>p.1<q.1
theorem rising_ext:∀ (A B:List (List UInt8 × List UInt8)),Rising A→Rising B→(∀ p,p∈A↔p∈B)→A=B
 | [],[],_,_,_=>rfl
 | [],b :: B,_,_,h=>by have:=(h b).2 (List.mem_cons_self ..);cases this
 | a :: A,[],_,_,h=>by have:=(h a).1 (List.mem_cons_self ..);cases this
 | a :: A,b :: B,hA,hB,h=>by
  obtain ⟨a1,a2⟩:=List.pairwise_cons.1 hA
  obtain ⟨b1,b2⟩:=List.pairwise_cons.1 hB
  have e:a=b:=by
   rcases List.mem_cons.1 ((h a).1 (List.mem_cons_self ..)) with e|hab
   ·exact e
   ·rcases List.mem_cons.1 ((h b).2 (List.mem_cons_self ..)) with e|hba
    ·exact e.symm
    ·exact absurd (a1 b hba) (keyLt_asymm (b1 a hab))
  subst e
  rw [rising_ext A B a2 b2 fun p=>⟨fun hp=>?_,fun hp=>?_⟩]
  ·rcases List.mem_cons.1 ((h p).1 (List.mem_cons_of_mem _ hp)) with e|h'
   ·subst e;exact absurd (a1 _ hp) (keyLt_irrefl _)
   ·exact h'
  ·rcases List.mem_cons.1 ((h p).2 (List.mem_cons_of_mem _ hp)) with e|h'
   ·subst e;exact absurd (b1 _ hp) (keyLt_irrefl _)
   ·exact h'
def MergedOf (M l:List (List UInt8 × List UInt8)):Prop:=Rising M∧∀ p,p∈M↔lastOf l p.1=some p∧p.2≠[]
theorem MergedOf.unique {M M' l l':List (List UInt8 × List UInt8)} (h:MergedOf M l) (h':MergedOf M' l') (he:∀ k v,v≠[]→(lastOf l k=some (k,v)↔lastOf l' k=some (k,v))):M=M' :=
 rising_ext M M' h.1 h'.1 fun p=>by
  rw [h.2,h'.2]
  constructor
  ·rintro ⟨h1,h2⟩;exact ⟨(he p.1 p.2 h2).1 h1,h2⟩
  ·rintro ⟨h1,h2⟩;exact ⟨(he p.1 p.2 h2).2 h1,h2⟩
theorem lastOf_mem {l:List (List UInt8 × List UInt8)} {k:List UInt8} {p:List UInt8 × List UInt8} (h:lastOf l k=some p):p∈l∧p.1=k:=by
 unfold lastOf at h
 exact ⟨List.mem_reverse.1 (List.mem_of_find?_eq_some h),by simpa using List.find?_some h⟩
theorem rising_one:∀ (M:List (List UInt8 × List UInt8)),Rising M→∀ a b,a∈M→b∈M→a.1=b.1→a=b
 | c :: M,h,a,b,ha,hb,e=>by
  obtain ⟨h1,h2⟩:=List.pairwise_cons.1 h
  rcases List.mem_cons.1 ha with ea|ha'
  ·rcases List.mem_cons.1 hb with eb|hb'
   ·rw [ea,eb]
   ·have:=h1 b hb'
    rw [← ea,e] at this
    exact absurd this (keyLt_irrefl _)
  ·rcases List.mem_cons.1 hb with eb|hb'
   ·have:=h1 a ha'
    rw [← eb,e] at this
    exact absurd this (keyLt_irrefl _)
   ·exact rising_one M h2 a b ha' hb' e
theorem rising_last {M:List (List UInt8 × List UInt8)} (h:Rising M) (p:List UInt8 × List UInt8):p∈M↔lastOf M p.1=some p:=by
 constructor
 ·intro hp
  cases hl:lastOf M p.1 with
  | none =>
   unfold lastOf at hl
   rw [List.find?_eq_none] at hl
   exact absurd (by simp) (hl p (List.mem_reverse.2 hp))
  | some q =>
   obtain ⟨h1,h2⟩:=lastOf_mem hl
   congr 1
   by_cases e:q=p
   ·exact e
   ·exact absurd (rising_one M h q p h1 hp h2) e
 ·intro hl;exact (lastOf_mem hl).1
theorem tells_nil:Tells (.map []) []:=fun k=>⟨fun _=>rfl,fun p h=>by cases h⟩
theorem tells_put {D:DataW Unit} {l:List (List UInt8 × List UInt8)} (hD:IsMap D) (h:Tells D l) (p:List UInt8 × List UInt8):Tells (D.put (.string p.1) (prU p)) (l++[p]):=fun k=>by
 have hk:WideAt.IsKeyLit (.string p.1):=by simp [WideAt.IsKeyLit]
 rw [lastOf_snoc]
 by_cases e:p.1=k
 ·subst e
  rw [if_pos rfl]
  refine ⟨fun h=>(by cases h),fun q hq=>?_⟩
  cases hq
  exact ⟨has_put_same hD hk _,fun z=>atKey_put_same hD hk _ z⟩
 ·rw [if_neg e]
  have hne:(Lit.string k)≠.string p.1:=fun h=>by injection h with h;exact e h.symm
  obtain ⟨h1,h2⟩:=h k
  refine ⟨fun hn=>by rw [has_put_other hne];exact h1 hn,fun q hq=>?_⟩
  obtain ⟨h3,h4⟩:=h2 q hq
  exact ⟨by rw [has_put_other hne];exact h3,fun z=>by rw [atKey_put_other hne];exact h4 z⟩
end Go.Proofs.YtdjcjaidklgamaaGreatDoor.Px
end
section
namespace Go.Proofs.YtdjcjaidklgamaaGreatDoor.Px
open Go.RowKit Go.Maps Go.Sort Go.Shelf
set_option linter.unusedVariables false
theorem keys_sorts (m:Nat):AnyZ.SortsIn Tryz.prog Tryz.sortedL_ren Fence.wide m :=
 ⟨fun blk off cap ss W hH hblk hsz=>callsIn_wide.2 (AnyM.slices_Sort_string Tryz.sortL blk off cap ss W hH hblk hsz),
  fun p cap W=>callsIn_wide.2 (AnyM.slices_Sort_string_none Tryz.sortL p cap W)⟩
theorem keys_any (mb:Option Nat) (W:World):CallsIn Fence.wide 5 Tryz.prog 164 #[.map mb] W fun e w'=>e=.returned (.func (.func 185) #[] #[.pointer (some ⟨W.heap.size,0,none⟩)])∧w'=W.alloc (.cells #[.map mb] 229) :=
 AnyZ.keys_in Tryz.keysL Fence.wide 5 trivial rfl mb W
set_option maxHeartbeats 1000000 in
theorem sorted_any {H:Type} (b nn:Nat) (D0:DataW H) (R:Value→Option (DataW H × List MemPlace)) (w:World) (hown:w.ownsMap Tryz.prog 9 R b nn D0) (hmax:Maps.size D0≤maxLen) (hbytes:Maps.size D0 * 16≤140737488355328) :
  CallsIn Fence.wide 5 Tryz.prog 163 #[.func (.func 185) #[] #[.pointer (some ⟨w.heap.size,0,none⟩)]] (w.alloc (.cells #[.map (some b)] 229)) fun e w'=>∃ (v:Value) (ss:List (List UInt8)),e=.returned v∧ss.Perm (strKeys D0) ∧
   w'.ownsRow (w.alloc (.cells #[.map (some b)] 229)).heap.size 9 1 v ss.length ((ss.mergeSort (fun x y=>decide (x≤y))).map encStr)∧(v=.slice none 0 0↔ss=[])∧Below (w.alloc (.cells #[.map (some b)] 229)).heap.size (w.alloc (.cells #[.map (some b)] 229)) w':=by
 have hbl:=hown.lt
 have hseq:SeqGives Fence.wide 2 Tryz.prog 185 #[.pointer (some ⟨w.heap.size,0,none⟩)] encStr (fun ss=>ss.Perm (strKeys D0)) (Maps.size D0) (w.alloc (.cells #[.map (some b)] 229)) :=
  AnyZ.keys_gives (ρ:=Tryz.keysL_ren) { Tryz.keysL with } Fence.wide _ trivial rfl (by omega) w.heap.size b nn D0 _ (by simp) (by simp) (by
   obtain ⟨es,clock,hb,Ft,hs,hD⟩:=hown
   exact ⟨es,clock,(Below.heap_alloc _ _ b hbl).trans hb,Ft,hs,hD⟩)
 exact AnyZ.sorted_in Tryz.sortedL Fence.wide 5 trivial trivial trivial trivial rfl (by omega) (keys_sorts _) (enters_of Tryz.func184 (by kernel_rfl) rfl) 185 #[.pointer (some ⟨w.heap.size,0,none⟩)] trivial (enters_of Tryz.func185 (by kernel_rfl) rfl) _ _ hmax hbytes _ hseq
theorem keys_call (mb:Option Nat) (W:World):Calls Tryz.prog 164 #[.map mb] W fun e w'=>e=.returned (.func (.func 185) #[] #[.pointer (some ⟨W.heap.size,0,none⟩)])∧w'=W.alloc (.cells #[.map mb] 229) :=
 (callsIn_wide (n:=5)).1 (keys_any mb W)
theorem sorted_call {H:Type} (b nn:Nat) (D0:DataW H) (R:Value→Option (DataW H × List MemPlace)) (w:World) (hown:w.ownsMap Tryz.prog 9 R b nn D0) (hmax:Maps.size D0≤100000) :
  Calls Tryz.prog 163 #[.func (.func 185) #[] #[.pointer (some ⟨w.heap.size,0,none⟩)]] (w.alloc (.cells #[.map (some b)] 229)) fun e w'=>∃ (v:Value) (ss:List (List UInt8)),e=.returned v∧ss.Perm (strKeys D0) ∧
   w'.ownsRow (w.alloc (.cells #[.map (some b)] 229)).heap.size 9 1 v ss.length ((ss.mergeSort (fun x y=>decide (x≤y))).map encStr)∧(v=.slice none 0 0↔ss=[])∧Below (w.alloc (.cells #[.map (some b)] 229)).heap.size (w.alloc (.cells #[.map (some b)] 229)) w' :=
 (callsIn_wide (n:=5)).1 (sorted_any b nn D0 R w hown (by unfold maxLen;omega) (by omega))
end Go.Proofs.YtdjcjaidklgamaaGreatDoor.Px
end
section
namespace Go.Proofs.YtdjcjaidklgamaaGreatDoor.Px
open Go.RowKit Go.Joins Go.Maps Go.Sort
set_option linter.unusedVariables false
def MapIs (w W:World) (l:List Pr):Prop :=
 Below w.heap.size w W∧∃ D n,W.ownsMap Tryz.prog 9 pairElem w.heap.size n D∧n≤l.length∧Tells D l
theorem MapIs.made (w:World):MapIs w (w.alloc (.map #[] 0)) [] :=
 ⟨below_alloc1 w _,.map [],0,World.ownsMap_made _ _ _ _,Nat.le_refl _,tells_nil⟩
theorem MapIs.put {w W W1:World} {l:List Pr} {D:DataW Unit} {n:Nat} {p:Pr} (hB:Below w.heap.size w W) (hown:W1.ownsMap Tryz.prog 9 pairElem w.heap.size (n+1) (D.put (.string p.1) (prU p))) (hn:n≤l.length) (hD:IsMap D) (ht:Tells D l) (hg:W.grownBy W1 (some w.heap.size)):MapIs w W1 (l++[p]) :=
 ⟨hB.grown hg hB.size fun j ej=>by (injection ej with ej;omega),_,_,hown,by rw [List.length_append];simp;omega,tells_put hD ht p⟩
def StrsAt (W:World) (va:Option Addr) (K:List (List UInt8)):Prop:=∀ (i:Nat) k,K[i]?=some k→∃ g,va=some ⟨g,0,none⟩∧g<W.heap.size∧W.cell? ⟨g,i,none⟩=some (.string (mkS k))
theorem StrsAt.below {W W':World} {va:Option Addr} {K:List (List UInt8)} (h:StrsAt W va K) (hb:Below W.heap.size W W'):StrsAt W' va K:=fun i k hi=>by
 obtain ⟨g,h1,h2,h3⟩:=h i k hi
 exact ⟨g,h1,Nat.lt_of_lt_of_le h2 hb.size,(hb.cell (p:=⟨g,i,none⟩) h2).trans h3⟩
theorem strs_of_row {W:World} {base:Nat} {e:TypeId} {v:Value} {n:Nat} {K:List (List UInt8)} (h:W.ownsRow base e 1 v n (K.map encStr)):∃ va vc,v=.slice va n vc∧StrsAt W va K:=by
 rcases h.2 with ⟨rfl,h0⟩|⟨g,cap,cur,rfl,_,h2,_,_,_,h6⟩
 ·subst h0
  have hl:=h.1
  rw [List.length_map] at hl
  exact ⟨none,0,rfl,fun i k hi=>by
   have:=(List.getElem?_eq_some_iff.1 hi).1
   omega⟩
 ·refine ⟨_,cap,rfl,fun i k hi=>⟨g,rfl,(Array.getElem?_eq_some_iff.1 h2).1,?_⟩⟩
  have e1:(K.map encStr)[i]?=some (encStr k):=by rw [List.getElem?_map,hi];rfl
  rw [← h6,List.getElem?_take] at e1
  split at e1
  ·rw [Array.getElem?_toList] at e1
   simp [World.cell?,h2,e1]
   rfl
  ·cases e1
def mergedTo (K:List (List UInt8)) (L:List Pr) (i:Nat):List Pr:=((K.take i).filterMap (lastOf L)).filter fun p=>!p.2.isEmpty
theorem mergedTo_none (K:List (List UInt8)) (L:List Pr) (i:Nat) (k:List UInt8) (p:Pr) (h:K[i]?=some k) (hp:lastOf L k=some p) (he:p.2=[]):mergedTo K L (i+1)=mergedTo K L i:=by
 unfold mergedTo;rw [List.take_add_one,h,List.filterMap_append,List.filter_append];simp [hp,he]
theorem mergedTo_some (K:List (List UInt8)) (L:List Pr) (i:Nat) (k:List UInt8) (p:Pr) (h:K[i]?=some k) (hp:lastOf L k=some p) (he:p.2≠[]):mergedTo K L (i+1)=mergedTo K L i++[p]:=by
 unfold mergedTo;rw [List.take_add_one,h,List.filterMap_append,List.filter_append];simp [hp,he]
theorem mergedTo_le (K:List (List UInt8)) (L:List Pr) (i:Nat):(mergedTo K L i).length≤i:=by
 unfold mergedTo
 refine Nat.le_trans (List.length_filter_le _ _) (Nat.le_trans (List.length_filterMap_le _ _) ?_)
 rw [List.length_take];omega
theorem ownsMap_below {W W':World} {P:Program} {k:TypeId} {R:Value→Option (DataW Unit × List MemPlace)} {b n:Nat} {D:DataW Unit} (h:W.ownsMap P k R b n D) (hb:Below W.heap.size W W'):W'.ownsMap P k R b n D:=by
 have hlt:=h.lt
 obtain ⟨es,clock,h1,h2⟩:=h
 exact ⟨es,clock,(hb.block b hlt).trans h1,h2⟩
theorem look_pair {W:World} {b n:Nat} {D:DataW Unit} {L:List Pr} (h:W.ownsMap Tryz.prog 9 pairElem b n D) (ht:Tells D L) (k:List UInt8) (p:Pr) (hp:lastOf L k=some p) (hkey:keyOf Tryz.prog 9 (.string (mkS k))=some (.string k)) :
  (Instr.lookup 229 (.map (some b)) (.string (mkS k)) false).run Tryz.prog W=.ok (prV p.1 p.2) W:=by
 obtain ⟨v,ps,hrun,hR⟩:=h.lookup (string_keyed Tryz.underlying9) Tryz.underlying229 (Tryz.zeroValue43 W) (pairElem_pr [] []) hkey
 rw [((ht k).2 p hp).2] at hR
 obtain ⟨q,hv,hq⟩:=pairElem_inv hR
 rw [hrun,hv,← prU_inj p q hq]
theorem keys_of_map {W:World} {b n:Nat} {D:DataW Unit} (h:W.ownsMap Tryz.prog 9 pairElem b n D):(strKeys D).Nodup∧∀ x,x∈strKeys D↔has D (.string x)=true:=by
 obtain ⟨es,hD,hpw,_⟩:=h.entries (string_keyed Tryz.underlying9)
 obtain ⟨es',hD',hko⟩:=h.keysOf
 obtain rfl:es=es':=by rw [hD] at hD';simpa using hD'
 subst hD
 have hstr:∀ p∈es,p.1=.string (strOf p.1):=fun p hp=>by
  obtain ⟨v,hv⟩:=hko p hp
  obtain ⟨x,_,hx,_⟩:=Maps.keyOf_str Tryz.underlying9 hv
  rw [hx];rfl
 constructor
 ·refine List.pairwise_map.2 (hpw.imp_of_mem fun {p q} hp hq hne e=>hne ?_)
  rw [hstr p hp,hstr q hq,e]
 ·intro x
  rw [has_eq,List.any_eq_true]
  constructor
  ·intro hx
   obtain ⟨p,hp,rfl⟩:=List.mem_map.1 hx
   exact ⟨p,hp,by rw [hstr p hp];simp [Lit.sameKey,strOf]⟩
  ·rintro ⟨p,hp,hs⟩
   rw [hstr p hp] at hs
   exact List.mem_map.2 ⟨p,hp,by simpa [Lit.sameKey] using hs⟩
theorem sorted_rising (ss:List (List UInt8)) (hn:ss.Nodup):(ss.mergeSort (fun x y=>decide (x≤y))).Pairwise (fun a b=>a<b):=by
 have tr:∀ a b c:List UInt8,decide (a≤b)=true→decide (b≤c)=true→decide (a≤c)=true:=fun a b c h1 h2=>by simp only [decide_eq_true_eq] at *;exact List.le_trans h1 h2
 have tot:∀ a b:List UInt8,(decide (a≤b) || decide (b≤a))=true:=fun a b=>by simp only [Bool.or_eq_true,decide_eq_true_eq];exact List.le_total a b
 have h1:=List.pairwise_mergeSort tr tot ss
 have h2:(ss.mergeSort (fun x y=>decide (x≤y))).Nodup:=(List.mergeSort_perm ss _).nodup_iff.2 hn
 refine (h1.and h2).imp fun {a b} h=>?_
 simp only [decide_eq_true_eq] at h
 rcases Classical.em (a<b) with hlt|hlt
 ·exact hlt
 ·exact absurd (List.le_antisymm h.1 (List.not_lt.1 hlt)) h.2
theorem merged_all (K:List (List UInt8)) (L:List Pr) (hs:K.Pairwise (fun a b=>a<b)) (hm:∀ k,k∈K↔∃ p,lastOf L k=some p):MergedOf (mergedTo K L K.length) L:=by
 unfold mergedTo
 rw [List.take_length]
 constructor
 ·refine List.Pairwise.filter _ (List.pairwise_filterMap.2 (hs.imp fun {a b} hab p hp q hq=>?_))
  rw [(lastOf_mem hp).2,(lastOf_mem hq).2]
  exact hab
 ·intro p
  rw [List.mem_filter,List.mem_filterMap]
  constructor
  ·rintro ⟨⟨k,_,hp⟩,h2⟩
   exact ⟨by rw [(lastOf_mem hp).2];exact hp,by simpa using h2⟩
  ·rintro ⟨h1,h2⟩
   exact ⟨⟨p.1,(hm _).2 ⟨p,h1⟩,h1⟩,by simpa using h2⟩
def SliceNew (n:Nat) (W:World) (v:Value) (M:List Pr):Prop:=∃ ad cap,v=.slice ad M.length cap∧(ad=none→cap=0)∧PairsAt W ad M∧∀ a,ad=some a→n≤a.block
theorem SliceNew.is {n:Nat} {W:World} {v:Value} {M:List Pr} (h:SliceNew n W v M):SliceIs W v M:=by
 obtain ⟨ad,cap,h1,h2,h3,_⟩:=h
 exact ⟨ad,cap,h1,h2,h3⟩
theorem sliceNew_of_row {n:Nat} {W:World} {base:Nat} {e:TypeId} {v:Value} {M:List Pr} (h:W.ownsRow base e 2 v M.length (pairCells M)) (hn:n≤base):SliceNew n W v M:=by
 rcases h.2 with ⟨rfl,h0⟩|⟨g,cap,cur,rfl,hb,_⟩
 ·obtain rfl:=List.length_eq_zero_iff.1 h0
  exact ⟨none,0,rfl,fun _=>rfl,(fun i p hi=>by simp at hi),(fun a h=>by cases h)⟩
 ·exact ⟨_,cap,rfl,(fun h=>by (cases h)),pairsAt_of_row h,fun a ha=>by cases ha;exact Nat.le_trans hn hb⟩
set_option maxHeartbeats 4000000 in
theorem merge_new (gb:Nat) (cp:Nat) (Ls:List (Value × List Pr)) (hk:Ls.length≤3) (hl:∀ x∈Ls,x.2.length≤1000) (hz:∀ x∈Ls,∀ p∈x.2,p.1.length≤reachBytes∧p.2.length≤reachBytes) (w:World) (hgb:gb<w.heap.size) (hc:∀ (i:Nat) x,Ls[i]?=some x→w.cell? ⟨gb,i,none⟩=some x.1∧SliceIs w x.1 x.2) :
  Calls Tryz.prog 132 #[.slice (some ⟨gb,0,none⟩) Ls.length cp] w fun e w'=>(∃ v M,e=.returned v∧SliceNew w.heap.size w' v M∧MergedOf M (Ls.flatMap fun y=>y.2))∧Below w.heap.size w w':=by
 have HC:=Lib.hid (show ∀ (i:Nat) x,Ls[i]?=some x→(∀ W,Below w.heap.size w W→W.cell? ⟨gb,i,none⟩=some x.1)∧SliceIs w x.1 x.2 from fun i x hx=>⟨fun W hW=>(hW.cell (p:=⟨gb,i,none⟩) hgb).trans (hc i x hx).1,(hc i x hx).2⟩)
 have HL:=Lib.hid hl
 have HM0:=Lib.hid (MapIs.made w)
 have HT:=Lib.hid (show ∀ i,(catTo Ls i).length≤3000 from fun i=>by
  have:=flat_bound (Ls.take i) fun x hx=>hl x (List.mem_of_mem_take hx)
  have h2:(Ls.take i).length≤Ls.length:=by simp;omega
  unfold catTo
  omega)
 have hmm:=@run_makeMap Tryz.prog
 have HK:=Lib.hid (show ∀ k:List UInt8,k.length≤reachBytes→keyOf Tryz.prog 9 (.string (mkS k))=some (.string k) from fun k hk=>by
  have hr:=reachBytes_lt
  have:(mkS k).size≤maxLen:=by rw [mkS_size];unfold maxLen;omega
  simp [keyOf,mapKey,Tryz.underlying9,mkS_list,this])
 have HZ:=Lib.hid hz
 clear hc hl hz
 go_enter Tryz.func132,Tryz.ntmps132
 go_wp2
 go_loopg [15,5,7,21] Ls.length (fun g s15 _ _ _ wr=>∃ i:Nat,i≤Ls.length∧Ls.length - i≤g∧s15=.int .i64 i∧Aside (MapIs w wr (catTo Ls i)))
 case atStart=>exact ⟨0,by omega,by omega,rfl,HM0.out⟩
 case round =>
  obtain ⟨i,hi1,hg,rfl,A⟩:=hrel
  by_cases hil:i<Ls.length
  ·obtain ⟨x,hx⟩:∃ x,Ls[i]?=some x:=⟨_,List.getElem?_eq_getElem hil⟩
   obtain ⟨c0,ad,cap,hv,hn,hP⟩:=HC.out i x hx
   have c1:=c0 wr A.out.1
   rw [hv] at c1
   have hxl:=HL.out x (List.mem_of_getElem? hx)
   have HS:=Lib.hid (catTo_succ Ls i x hx)
   have HZx:=Lib.hid (HZ.out x (List.mem_of_getElem? hx))
   have HP:=Lib.hid hP
   have HA:=Lib.hid A.out
   clear c0 hv hn hx hP A
   go_wp2
   go_loopg [7,21] x.2.length (fun g _ s21 wr2=>∃ j:Nat,j≤x.2.length∧x.2.length - j≤g∧s21=.int .i64 j∧Aside (MapIs w wr2 (catTo Ls i++x.2.take j)))
   case atStart=>exact ⟨0,by omega,by omega,rfl,by rw [List.take_zero,List.append_nil];exact HA.out⟩
   case round =>
    obtain ⟨j,hj1,hgj,rfl,A⟩:=hrel
    by_cases hjl:j<x.2.length
    ·obtain ⟨p,hp⟩:∃ p,x.2[j]?=some p:=⟨_,List.getElem?_eq_getElem hjl⟩
     obtain ⟨b,off,e0,hlt,d1,d2⟩:=(HP.out.below A.out.1) j p hp
     rcases ad with _|⟨b',off',sp'⟩
     ·cases e0
     injection e0 with e0
     injection e0 with e1 e2 e3
     subst e1 e2 e3
     obtain ⟨hB,D,n,hown,hnl,ht⟩:=A.out
     have hkey:=HK.out p.1 (HZx.out p (List.mem_of_getElem? hp)).1
     have hlen:=HT.out i
     have hn2:n<100000:=by rw [List.length_append,List.length_take] at hnl;omega
     have hown':=Lib.hid hown
     have HD:=Lib.hid (And.intro hB (And.intro hnl (And.intro ht hown.isMap)))
     have HE:=Lib.hid (show catTo Ls i++x.2.take (j+1)=catTo Ls i++x.2.take j++[p] from by rw [List.take_add_one,hp];simp)
     clear hown hB hnl ht A hp hlt
     go_wp2_with (at_mapUpdate;refine wpList_mapUpdate_own _ rfl _ _ _ 229 rfl 9 43 (string_keyed Tryz.underlying9) Tryz.underlying229 pairElem w.heap.size n D rfl (hown'.out.alloc _) (by unfold maxLen;omega) _ _ (.string p.1) rfl rfl hkey (prU p) [] (pairElem_pr p.1 p.2) ?_;intro w1 hown1 hgrow1)
     have HF:=Lib.hid (show MapIs w w1 (catTo Ls i++x.2.take (j+1)) from by
      rw [HE.out]
      exact MapIs.put (HD.out.1.alloc HD.out.1.size _) hown1 HD.out.2.1 HD.out.2.2.2 HD.out.2.2.1 hgrow1)
     clear hown1 hgrow1
     go_roundg (x.2.length - (j+1))
     case measure=>omega
     case rel=>exact ⟨j+1,by omega,by omega,by first|rfl|simp,HF.out⟩
    ·obtain rfl:j=x.2.length:=by omega
     have HF:=Lib.hid (show MapIs w wr (catTo Ls (i+1)) from by
      have h:=A.out
      rw [List.take_length] at h
      rw [HS.out]
      exact h)
     clear A
     go_wp2
     go_roundg (Ls.length - (i+1))
     case measure=>omega
     case rel=>exact ⟨i+1,by omega,by omega,by first|rfl|simp,HF.out⟩
  ·obtain rfl:i=Ls.length:=by omega
   have HF:=Lib.hid A.out
   have hT:=HT.out Ls.length
   obtain ⟨hB,D,n,hown,hnl,ht⟩:=A.out
   have KC:=Lib.hid (keys_call (some w.heap.size) wr)
   have SC:=Lib.hid (sorted_call w.heap.size n D pairElem wr hown (by have:=hown.size_le;omega))
   have HD:=Lib.hid (And.intro hB (And.intro hown (And.intro hnl ht)))
   clear A hB hown hnl ht HF
   go_wp2_with (first
    |(go_at_call 164;refine KC.out.mono ?_;rintro e w1 ⟨rfl,hw1⟩;replace hw1:=hw1.symm;subst hw1)
    |(go_at_call 163;refine SC.out.mono ?_;rintro e w2 ⟨v,ss,rfl,hperm,hrow,hnil,hb2⟩;obtain ⟨va,vc,rfl,hst⟩:=strs_of_row hrow;have HS2:=Lib.hid (And.intro hperm (And.intro hst hb2));clear hperm hrow hnil hb2 hst;obtain ⟨kn,hkn⟩:∃ kn,ss.length=kn:=⟨_,rfl⟩;rw [hkn];have H1:=Lib.hid hkn;clear hkn))
   obtain ⟨K,hKd⟩:∃ K,(ss.mergeSort fun x y=>decide (x≤y))=K:=⟨_,rfl⟩
   have HF:=Lib.hid (show Below w.heap.size w w2∧w2.ownsMap Tryz.prog 9 pairElem w.heap.size n D∧Tells D (catTo Ls Ls.length)∧StrsAt w2 va K∧K.length=kn∧K.Pairwise (fun a b=>a<b)∧(∀ k,k∈K↔∃ p,lastOf (catTo Ls Ls.length) k=some p) from by
    obtain ⟨b1,b2,b3,b4⟩:=HD.out
    obtain ⟨c1,c2,c3⟩:=HS2.out
    obtain ⟨k1,k2⟩:=keys_of_map b2
    have hperm:=(List.mergeSort_perm ss fun x y=>decide (x≤y))
    have e1:=b1.alloc b1.size (.cells #[.map (some w.heap.size)] 229)
    refine ⟨e1.trans (c3.mono e1.size),ownsMap_below (b2.alloc _) c3,b4,hKd ▸ c2,by rw [← hKd,List.length_mergeSort];exact H1.out,by rw [← hKd];exact sorted_rising ss (c1.nodup_iff.2 k1),fun k=>?_⟩
    rw [← hKd,hperm.mem_iff,c1.mem_iff,k2]
    constructor
    ·intro hk
     cases hl:lastOf (catTo Ls Ls.length) k with
     | none=>rw [(b4 k).1 hl] at hk;cases hk
     | some p=>exact ⟨p,rfl⟩
    ·rintro ⟨p,hp⟩;exact ((b4 k).2 p hp).1)
   have HSZ:=Lib.hid (show ∀ p∈catTo Ls Ls.length,p.1.length≤reachBytes from fun p hp=>by
    unfold catTo at hp
    obtain ⟨x,hx,hpx⟩:=List.mem_flatMap.1 hp
    exact (HZ.out x (List.mem_of_mem_take hx) p hpx).1)
   obtain ⟨L,hLd⟩:∃ L,catTo Ls Ls.length=L:=⟨_,rfl⟩
   rw [hLd] at HF HSZ hT
   have HLd:=Lib.hid hLd
   have hkn:kn≤100000:=by
    have h1:=HD.out.2.1.size_le
    have h2:=HD.out.2.2.1
    rw [hLd] at h2
    have h3:=HS2.out.1.length_eq
    rw [H1.out] at h3
    have h4:(strKeys D).length≤n:=by
     obtain ⟨es,hD,_⟩:=HD.out.2.1.keysOf
     rw [hD] at h1 ⊢
     have e:(strKeys (.map es)).length=es.length:=by show (es.map _).length=_;simp
     rw [e];exact h1
    omega
   obtain ⟨i0,hi0,hz0,hz1,hz2⟩:=info_parts Tryz.infoPair
   have HI:=Lib.hid (And.intro hi0 (And.intro hz0 (And.intro hz1 hz2)))
   clear hLd hKd KC SC HD HS2 H1 hi0 hz0 hz1 hz2 hi1 hg
   go_loopg [35,10,11,8] kn (fun g s35 _ _ s8 wr3=>∃ i:Nat,i≤kn∧kn - i≤g∧s35=.int .i64 i∧Aside (Below w2.heap.size w2 wr3∧wr3.ownsRow w2.heap.size 43 2 s8 (mergedTo K L i).length (pairCells (mergedTo K L i))))
   case atStart=>exact ⟨0,by omega,by omega,rfl,Below.refl _ _,World.ownsRow_nil _ _ _ _⟩
   case round =>
    obtain ⟨i,hi1,hg,rfl,A⟩:=hrel
    by_cases hik:i<kn
    ·obtain ⟨k,hkk⟩:∃ k,K[i]?=some k:=⟨_,List.getElem?_eq_getElem (by rw [HF.out.2.2.2.2.1];exact hik)⟩
     obtain ⟨p,hp⟩:=(HF.out.2.2.2.2.2.2 k).1 (List.mem_of_getElem? hkk)
     have hpk:=(lastOf_mem hp)
     have hkey:=HK.out k (by rw [← hpk.2];exact HSZ.out p hpk.1)
     have hlook:(Instr.lookup 229 (.map (some w.heap.size)) (.string (mkS k)) false).run Tryz.prog wr=.ok (.agg #[.string (mkS p.1),.string (mkS p.2)]) wr:=look_pair (ownsMap_below HF.out.2.1 A.out.1) HF.out.2.2.1 k p hp hkey
     obtain ⟨vg,hva,_,hcell⟩:=(HF.out.2.2.2.1.below A.out.1) i k hkk
     subst hva
     have hm:=mergedTo_le K L i
     have HA:=Lib.hid A.out
     have hb1:=Lib.hid (HA.out.1.alloc HA.out.1.size (.cells #[.string (mkS p.1),.string (mkS p.2)] 43))
     by_cases he:p.2=[]
     ·have E:(mkS p.2).toList=[]:=by rw [ByteArray.toList_eq,mkS_list];exact he
      have HN:=Lib.hid (mergedTo_none K L i k p hkk hp he)
      clear A hkk hp hpk hkey he
      go_wp2
      go_roundg (kn - (i+1))
      case measure=>omega
      case rel=>exact ⟨i+1,by omega,by omega,by first|rfl|simp,hb1.out,by rw [HN.out];exact HA.out.2.alloc _⟩
     ·obtain ⟨x0,r0,hx⟩:∃ x r,p.2=x :: r:=by
       cases h:p.2 with
       | nil=>exact absurd h he
       | cons x r=>exact ⟨x,r,rfl⟩
      have E:(mkS p.2).toList=x0 :: r0:=by rw [ByteArray.toList_eq,mkS_list];exact hx
      have HN:=Lib.hid (mergedTo_some K L i k p hkk hp he)
      obtain ⟨m,hmm2⟩:∃ m,(mergedTo K L i).length=m:=⟨_,rfl⟩
      have HM:=Lib.hid hmm2
      rw [hmm2] at hm
      clear A hkk hp hpk hkey he hx hmm2
      obtain ⟨hi0,hz0,hz1,hz2⟩:=HI.out
      have HC2:=Lib.hid (show ∀ (j:Nat) (u:Value),[Value.string (mkS p.1),Value.string (mkS p.2)][j]?=some u→((wr.alloc (.cells #[.string (mkS p.1),.string (mkS p.2)] 43)).alloc (.cells #[.string (mkS p.1),.string (mkS p.2)] 43)).cell? ((⟨wr.heap.size+1,0,none⟩:Addr).add j)=some u from fun j u h=>by
       have h2:=cell_two_new (wr.alloc (.cells #[.string (mkS p.1),.string (mkS p.2)] 43)) 43 (.string (mkS p.1)) (.string (mkS p.2)) j u h
       rwa [World.size_alloc] at h2)
      go_wp2_with (at_builtin;refine wpList_append_own _ rfl _ _ 36 rfl w2.heap.size 43 i0 (.agg #[.string { data:=#[] },.string { data:=#[] }]) 2 32 Tryz.underlying36 hi0 hz0 hz1 hz2 rfl (by decide) _ _ _ rfl ((HA.out.2.alloc _).alloc _) ⟨wr.heap.size+1,0,none⟩ 1 1 [.string (mkS p.1),.string (mkS p.2)] rfl rfl HC2.out (by simp [Value.oneCell']) (by rw [HM.out];unfold maxLen;omega) (by rw [HM.out];omega) (by simp;have:=HA.out.1.size;omega) ?_;intro v' w4 hown' hgrow _)
      have hb3:=hb1.out.alloc hb1.out.size (.cells #[.string (mkS p.1),.string (mkS p.2)] 43)
      have HO:=Lib.hid (show Below w2.heap.size w2 w4∧w4.ownsRow w2.heap.size 43 2 v' (mergedTo K L (i+1)).length (pairCells (mergedTo K L (i+1))) from ⟨below_grown hb3 ((HA.out.2.alloc _).alloc _) (Nat.le_refl _) hgrow,by rw [HN.out,pairCells_append,List.length_append];exact hown'⟩)
      clear hown' hgrow
      go_roundg (kn - (i+1))
      case measure=>omega
      case rel=>exact ⟨i+1,by omega,by omega,by first|rfl|simp,HO.out⟩
    ·obtain rfl:i=kn:=by omega
     have HA:=Lib.hid A.out
     clear A
     go_wp2
     go_ret
     refine ⟨⟨_,mergedTo K L K.length,rfl,?_,?_⟩,HF.out.1.trans (HA.out.1.mono HF.out.1.size)⟩
     ·have h:=sliceNew_of_row HA.out.2 HF.out.1.size
      rw [HF.out.2.2.2.2.1];exact h
     ·have h:=merged_all K L HF.out.2.2.2.2.2.1 HF.out.2.2.2.2.2.2
      have e:L=Ls.flatMap fun y=>y.2:=by rw [← HLd.out];unfold catTo;rw [List.take_length]
      rw [← e];exact h
end Go.Proofs.YtdjcjaidklgamaaGreatDoor.Px
end
section
namespace Go.Proofs.YtdjcjaidklgamaaGreatDoor.Px
open Go.RowKit Go.Shelf Go.Joins
attribute [local go_sem] Oper.semAt_some
def uptoW {α:Type} (f:Nat→α) (k:Nat):List α:=(List.range k).map f
theorem uptoW_succ {α:Type} (f:Nat→α) (k:Nat):uptoW f (k+1)=uptoW f k++[f k]:=by simp [uptoW,List.range_succ]
theorem uptoW_length {α:Type} (f:Nat→α) (k:Nat):(uptoW f k).length=k:=by simp [uptoW]
def backF (l:List Pr) (j:Nat):Nat × Pr:=(l.length - 1 - j,l[l.length - 1 - j]?.getD ([],[]))
abbrev encW (x:Nat × Pr):Array Value:=#[.int .i64 (x.1:Int),prV x.2.1 x.2.2]
set_option maxRecDepth 100000 in
set_option maxHeartbeats 2000000 in
theorem backward1_in (F:Fence) (n:Nat) (h7:F.fn 210) (hro:F.round=none) (hn:1≤n) (l Bs n₀ b off cap:Nat) (zs:List Pr) (hreach:zs.length≤1000000000) (hb:b<n₀) (J Jx:List (Nat × Pr)→World→Prop)
  (hY:∀ pre x W,J pre W→pre.length<zs.length→YieldAt F (n - 1) Tryz.prog l (encW x) W fun e W' =>
   (e=.returned (.bool true)∧J (pre++[x]) W'∧Below n₀ W W')∨(e=.returned (.bool false)∧Jx (pre++[x]) W'))
  (W:World) (hBs:W.cell? ⟨Bs,0,none⟩=some (.slice (some ⟨b,off,none⟩) zs.length cap)) (hBn:Bs<n₀) (hc:RowAt W b off zs) (h0:J [] W) :
  CallsIn F n Tryz.prog 210 #[.func (.yield l) #[] #[],.pointer (some ⟨Bs,0,none⟩)] W fun e W'=>(∃ v,e=.returned v) ∧
   ((∃ ys,ys=uptoW (backF zs) zs.length∧J ys W')∨(∃ pre,(∃ k,k≤zs.length∧pre=uptoW (backF zs) k)∧Jx pre W')):=by
 refine callsIn_of_wp Tryz.func210 rfl h7 ?_ hro
 simp only [Tryz.ntmps210,List.size_toArray,List.length_cons,List.length_nil,Nat.reduceAdd,Nat.reduceSub,Array.replicate_succ,Array.replicate_zero,List.push_toArray,List.append_toArray,List.nil_append,List.cons_append]
 gi_wp2
 gi_loopw [3] (fun i wr=>∃ m:Nat,m≤zs.length∧i=.int .i64 ((m:Int) - 1)∧J (uptoW (backF zs) (zs.length - m)) wr∧Below n₀ W wr)
  (fun i _=>(intOf i+1).toNat)
 case atStart=>exact ⟨zs.length,Nat.le_refl _,rfl,by rw [Nat.sub_self];exact h0,Below.refl _ _⟩
 case round =>
  obtain ⟨m,hm,rfl,hJs,hnx⟩:=hrel
  have hbs:=(hnx.cell (p:=⟨Bs,0,none⟩) hBn).trans hBs
  cases m with
  | succ m =>
   have hx:zs[m]?=some (zs[m]'(by omega)):=List.getElem?_eq_getElem (by omega)
   have hbf:backF zs (zs.length - (m+1))=(m,zs[m]'(by omega)):=by
    unfold backF
    rw [show zs.length - 1 - (zs.length - (m+1))=m by omega,hx];rfl
   generalize hq:zs[m]'(by omega)=q at *
   obtain ⟨c1,c2⟩:=hc m q hx
   have c1':=(hnx.cell (p:=⟨b,off+m * 2,none⟩) hb).trans c1
   have c2':=(hnx.cell (p:=⟨b,off+m * 2+1,none⟩) hb).trans c2
   obtain ⟨fn,tmps,assign,body,hy,hR⟩:=hY _ (m,q) wr hJs (by rw [uptoW_length];omega)
   rw [show (((m+1:Nat):Int) - 1)=(m:Int) by omega]
   clear hq hx c1 c2 hc hY
   gi_wp2
   refine hR.mono ?_
   rintro e W3 (⟨rfl,hJ3,hk3⟩|⟨rfl,hJx3⟩)
   ·gi_wp2
    go_roundw
    case rel =>
     refine ⟨m,by omega,by simp,?_,hnx.trans hk3⟩
     rw [show zs.length - m=(zs.length - (m+1))+1 by omega,uptoW_succ,hbf]
     exact hJ3
    case measure=>simp [intOf]
   ·gi_wp2
    refine bodyPost_ret (results_none rfl _ _ _) rfl ?_
    refine ⟨⟨_,rfl⟩,.inr ⟨_,⟨(zs.length - (m+1))+1,by omega,?_⟩,hJx3⟩⟩
    rw [uptoW_succ,hbf]
  | zero =>
   gi_wp2
   go_end0
   exact ⟨⟨_,rfl⟩,.inl ⟨_,rfl,by simpa using hJs⟩⟩
set_option maxRecDepth 100000 in
set_option maxHeartbeats 1000000 in
theorem backward1_nil_in (F:Fence) (n:Nat) (h7:F.fn 210) (hro:F.round=none) (l Bs:Nat) (ad:Option Addr) (cap:Nat) (J:List (Nat × Pr)→World→Prop) (W:World) (hBs:W.cell? ⟨Bs,0,none⟩=some (.slice ad 0 cap)) (h0:J [] W) :
  CallsIn F n Tryz.prog 210 #[.func (.yield l) #[] #[],.pointer (some ⟨Bs,0,none⟩)] W fun e W'=>(∃ v,e=.returned v)∧J [] W':=by
 refine callsIn_of_wp Tryz.func210 rfl h7 ?_ hro
 simp only [Tryz.ntmps210,List.size_toArray,List.length_cons,List.length_nil,Nat.reduceAdd,Nat.reduceSub,Array.replicate_succ,Array.replicate_zero,List.push_toArray,List.append_toArray,List.nil_append,List.cons_append]
 gi_wp2
 gi_loopw [3] (fun i wr=>i=.int .i64 (-1)∧J [] wr) (fun _ _=>0)
 case atStart=>exact ⟨rfl,h0⟩
 case round =>
  obtain ⟨rfl,hJs⟩:=hrel
  gi_wp2
  go_end0
  exact ⟨⟨_,rfl⟩,hJs⟩
theorem backward_in (F:Fence) (n:Nat) (h5:F.fn 193) (hro:F.round=none) (a:Option Addr) (len cap:Nat) (w:World) :
  CallsIn F n Tryz.prog 193 #[.slice a len cap] w fun e w'=>e=.returned (.func (.func 210) #[] #[.pointer (some ⟨w.heap.size,0,none⟩)])∧w'=w.alloc (.cells #[.slice a len cap] 36):=by
 refine callsIn_of_wp Tryz.func193 rfl h5 ?_ hro
 simp only [Tryz.ntmps193,List.size_toArray,List.length_cons,List.length_nil,Nat.reduceAdd,Nat.reduceSub,Array.replicate_succ,Array.replicate_zero,List.push_toArray,List.append_toArray,List.nil_append,List.cons_append]
 gi_wp2
 go_ret
 exact ⟨rfl,rfl⟩
theorem backward_stops (F:Fence) (n:Nat) (h8:F.fn 210) (hro:F.round=none) (hn:1≤n) (Bs n₀:Nat) (ad:Option Addr) (cap:Nat) (zs:List Pr) (hreach:zs.length≤1000000000) (w:World) (hBs:Bs<w.heap.size) (hBn:Bs<n₀) (hn₀:n₀≤w.heap.size)
  (hc:w.cell? ⟨Bs,0,none⟩=some (.slice ad zs.length cap)) (hI:zs=[]∨∃ b off,ad=some ⟨b,off,none⟩∧b<n₀∧RowAt w b off zs) :
  SeqStopsK F n Tryz.prog 210 #[.pointer (some ⟨Bs,0,none⟩)] encW (Below n₀) (fun ys=>ys=uptoW (backF zs) zs.length)
   (fun pre=>∃ k,k≤zs.length∧pre=uptoW (backF zs) k) zs.length w:=fun l J Jx W hW _ _ hY h0=>by
 have hc':=(hW.cell (p:=⟨Bs,0,none⟩) hBs).trans hc
 rcases hI with rfl|⟨b,off,rfl,hb,hcs⟩
 ·exact (backward1_nil_in F n h8 hro l Bs ad cap J W hc' h0).mono fun e W' ⟨he,hj⟩=>⟨he,.inl ⟨_,rfl,hj⟩⟩
 ·exact backward1_in F n h8 hro hn l Bs n₀ b off cap zs hreach hb J Jx hY W hc' hBn (hcs.below (Nat.lt_of_lt_of_le hb hn₀) hW) h0
end Go.Proofs.YtdjcjaidklgamaaGreatDoor.Px
end
section
namespace Go.Proofs.YtdjcjaidklgamaaGreatDoor.Px
open Go.RowKit Go.Shelf Go.Joins
attribute [local go_sem] Oper.semAt_some
def getL (l:List Pr) (key:List UInt8):List UInt8:=l.foldl (fun v p=>if p.1=key then p.2 else v) []
theorem fold_keep (key:List UInt8):∀ (l:List Pr) (v:List UInt8),(∀ q∈l,q.1≠key)→l.foldl (fun v p=>if p.1=key then p.2 else v) v=v
 | [],_,_=>rfl
 | q :: l,v,h=>by
  rw [List.foldl_cons,if_neg (h q (List.mem_cons_self ..))]
  exact fold_keep key l v fun r hr=>h r (List.mem_cons_of_mem _ hr)
theorem getL_none (l:List Pr) (key:List UInt8) (h:∀ q∈l,q.1≠key):getL l key=[]:=fold_keep key l [] h
theorem getL_at (l:List Pr) (key:List UInt8) (i:Nat) (p:Pr) (hp:l[i]?=some p) (hk:p.1=key) (h:∀ (j:Nat) q,i<j→l[j]?=some q→q.1≠key):getL l key=p.2:=by
 obtain ⟨hi,hpe⟩:=List.getElem?_eq_some_iff.1 hp
 have hl:l=l.take i++p :: l.drop (i+1):=by
  rw [← hpe,← List.drop_eq_getElem_cons hi,List.take_append_drop]
 unfold getL
 rw [hl,List.foldl_append,List.foldl_cons,if_pos hk]
 apply fold_keep
 intro q hq
 obtain ⟨j,hj⟩:=List.mem_iff_getElem?.1 hq
 rw [List.getElem?_drop] at hj
 exact h (i+1+j) q (by omega) hj
def PairBox (W:World) (B:Nat) (p:Pr):Prop:=W.heap[B]?=some (.cells #[.string (mkS p.1),.string (mkS p.2)] 43 (0,0))
theorem PairBox.own {β:Type} (B:Nat) (f:β→Pr):Own (fun s W=>PairBox W B (f s)):=fun s X Y row hs hg hrow=>by
 have hlt:B<X.heap.size:=(Array.getElem?_eq_some_iff.1 hs).1
 refine (hg.block B hlt fun e=>?_).trans hs
 obtain ⟨o,ho,hc⟩:=hrow B e.symm
 rw [show X.heap[B]?=_ from hs] at ho
 cases ho
 simp [Obj.isCells] at hc
theorem PairBox.new (W:World) (p:Pr):PairBox (W.alloc (.cells #[.string (mkS p.1),.string (mkS p.2)] 43)) W.heap.size p:=World.alloc_heap_new W _
theorem PairBox.cells {W:World} {B:Nat} {p:Pr} (h:PairBox W B p):W.cell? ⟨B,0,none⟩=some (.string (mkS p.1))∧W.cell? ⟨B,1,none⟩=some (.string (mkS p.2)):=by
 unfold PairBox at h
 simp [World.cell?,h]
set_option maxRecDepth 100000 in
set_option maxHeartbeats 4000000 in
theorem get_in (F:Fence) (n:Nat) (h3:F.fn 169) (h4:F.fn 193) (h5:F.fn 210) (hro:F.round=none) (hn:6≤n)
  (ad:Option Addr) (cap:Nat) (zs:List Pr) (hl:zs.length≤1000000000) (key:List UInt8) (w:World) (hI:zs=[]∨∃ b off,ad=some ⟨b,off,none⟩∧b<w.heap.size∧RowAt w b off zs) :
  CallsIn F n Tryz.prog 169 #[.slice ad zs.length cap,.string (mkS key)] w fun e W'=>e=.returned (.tuple #[.string (mkS (getL zs key)),.bool (!(getL zs key).isEmpty)])∧Below w.heap.size w W':=by
 have h1:1≤n:=by omega
 refine callsIn_of_wp_marks Tryz.func169 rfl h3 ?_ hro
 simp only [Tryz.ntmps169,List.size_toArray,List.length_cons,List.length_nil,Nat.reduceAdd,Nat.reduceSub,Array.replicate_succ,Array.replicate_zero,List.push_toArray,List.append_toArray,List.nil_append,List.cons_append]
 gi_wp2_with (gi_at_call 193;refine (backward_in F (n - 1) h4 hro _ _ _ _).mono ?_;rintro e w' ⟨rfl,rfl⟩)
 have bK:=(((Boxed.new w 9 (.string (mkS key))).alloc (.cells #[.string { data:=#[] }] 9)).alloc (.cells #[.bool false] 4)).alloc (.cells #[.slice ad zs.length cap] 36)
 have bV:=((Boxed.new (w.alloc (.cells #[.string (mkS key)] 9)) 9 (.string { data:=#[] })).alloc (.cells #[.bool false] 4)).alloc (.cells #[.slice ad zs.length cap] 36)
 have bO:=(Boxed.new ((w.alloc (.cells #[.string (mkS key)] 9)).alloc (.cells #[.string { data:=#[] }] 9)) 4 (.bool false)).alloc (.cells #[.slice ad zs.length cap] 36)
 have bS:=Boxed.new (((w.alloc (.cells #[.string (mkS key)] 9)).alloc (.cells #[.string { data:=#[] }] 9)).alloc (.cells #[.bool false] 4)) 36 (.slice ad zs.length cap)
 simp only [World.size_alloc] at bV bO bS
 have hB0:Below w.heap.size w ((((w.alloc (.cells #[.string (mkS key)] 9)).alloc (.cells #[.string { data:=#[] }] 9)).alloc (.cells #[.bool false] 4)).alloc (.cells #[.slice ad zs.length cap] 36)):=((((Below.refl _ w).alloc (Nat.le_refl _) _).alloc (by simp) _).alloc (by simp;omega) _).alloc (by simp;omega) _
 have hsz:((((w.alloc (.cells #[.string (mkS key)] 9)).alloc (.cells #[.string { data:=#[] }] 9)).alloc (.cells #[.bool false] 4)).alloc (.cells #[.slice ad zs.length cap] 36)).heap.size=w.heap.size+4:=by simp
 obtain ⟨W0,hW0⟩:∃ W0,(((w.alloc (.cells #[.string (mkS key)] 9)).alloc (.cells #[.string { data:=#[] }] 9)).alloc (.cells #[.bool false] 4)).alloc (.cells #[.slice ad zs.length cap] 36)=W0:=⟨_,rfl⟩
 rw [hW0] at bK bV bO bS hB0 hsz ⊢
 clear hW0
 have hI0:zs=[]∨∃ b off,ad=some ⟨b,off,none⟩∧b<W0.heap.size∧RowAt W0 b off zs:=hI.imp id fun ⟨b,off,h1,h2,h3⟩=>⟨b,off,h1,by omega,h3.below h2 hB0⟩
 refine wpIn_rangeFunc_ownH hro h1 (gf:=210) (lb:=#[.pointer (some ⟨w.heap.size+1+1+1,0,none⟩)]) rfl h5 (enters_of Tryz.func210 (by kernel_rfl) rfl)
  (backward_stops F (n - 1) h5 hro (by omega) (w.heap.size+1+1+1) W0.heap.size ad cap zs hl W0 (by omega) (by omega) (Nat.le_refl _) bS.cell hI0) belowK_t (belowK_b (by omega)) (Below.refl _ _) (fun _=>rfl)
  (fun pre W=>((Boxed W w.heap.size 9 (.string (mkS key))∧Boxed W (w.heap.size+1) 9 (.string { data:=#[] }))∧Boxed W (w.heap.size+1+1) 4 (.bool false))∧(Below W0.heap.size W0 W∧∀ x∈pre,x.2.1≠key))
  (fun c pre W=>c=.ret∧∃ x,((Boxed W (w.heap.size+1) 9 (.string (mkS x.2.2))∧Boxed W (w.heap.size+1+1) 4 (.bool (!x.2.2.isEmpty)))∧Below w.heap.size w W)∧(∃ pre',pre=pre'++[x]∧x.2.1=key∧∀ y∈pre',y.2.1≠key))
  ?hI ?hIx
  ⟨⟨⟨bK,bV⟩,bO⟩,Below.refl _ _,fun x hx=>by simp at hx⟩
  (fun x a' W=>∃ Bx,W0.heap.size≤Bx∧PairBox W Bx x.2∧a'={ tmps:=#[.slice ad zs.length cap,.string (mkS key),undef,.pointer (some ⟨w.heap.size,0,none⟩),.pointer (some ⟨w.heap.size+1,0,none⟩),.pointer (some ⟨w.heap.size+1+1,0,none⟩),undef,.pointer (some ⟨Bx,0,none⟩),.slice ad zs.length cap,.func (.func 210) #[] #[.pointer (some ⟨w.heap.size+1+1+1,0,none⟩)],.int .i64 (x.1:Int),prV x.2.1 x.2.2,undef,undef,undef,undef,undef,undef,undef,undef,undef],defers:=[] })
  (fun x a' _ X Y row hs hg hr=>by obtain ⟨Bx,h1,h2,h3⟩:=hs;exact ⟨Bx,h1,PairBox.own Bx (fun (_:Unit)=>x.2) () X Y row h2 hg (fun r e=>(hr r e).2),h3⟩)
  ?assign ?body ?done ?stop
 case hI=>exact OwnFrom.and (OwnFrom.and (OwnFrom.and (Own.from (boxed_own _ _ _) _) (Own.from (boxed_own _ _ _) _)) (Own.from (boxed_own _ _ _) _)) (OwnFrom.and (ownFrom_below (Nat.le_refl _) (Nat.le_refl _)) (ownFrom_pure _ _))
 case hIx =>
  rintro c s X Y row ⟨hc,x,⟨⟨h1,h2⟩,h3⟩,h4⟩ hg hr
  exact ⟨hc,x,⟨⟨boxed_own _ _ (fun (_:Unit)=>Value.string (mkS x.2.2)) () X Y row h1 hg (fun r e=>(hr r e).2),boxed_own _ _ (fun (_:Unit)=>Value.bool (!x.2.2.isEmpty)) () X Y row h2 hg (fun r e=>(hr r e).2)⟩,ownFrom_below (β:=Unit) (Nat.le_refl _) (B:=W0.heap.size) (by omega) () X Y row h3 hg hr⟩,h4⟩
 case assign =>
  rintro l pre x W K ⟨⟨⟨b1,b2⟩,b3⟩,hB,hp⟩ hK
  gi_wp2
  exact hK _ _ ((KeepsOthers.alloc _ _).from _) ((Below.refl _ W).alloc hB.size _) ⟨⟨⟨b1.alloc _,b2.alloc _⟩,b3.alloc _⟩,hB.alloc hB.size _,hp⟩ ⟨W.heap.size,hB.size,PairBox.new W _,rfl⟩
 case body =>
  rintro l pre x a' W hl ⟨r,hr⟩ ⟨⟨⟨b1,b2⟩,b3⟩,hB,hp⟩ ⟨Bx,hBx,bX,rfl⟩ hlt
  obtain ⟨x1,x2⟩:=bX.cells
  have k1:=b1.cell
  have f2:=b2.frozen
  have f3:=b3.frozen
  have c2:=b2.cell
  have c3:=b3.cell
  have hem:(mkS x.2.2).toList.isEmpty=x.2.2.isEmpty:=by rw [ByteArray.toList_eq,mkS_list]
  by_cases hk:x.2.1=key
  ·have HB:=Lib.hid (And.intro (And.intro b2 b3) (And.intro (hB0.trans (hB.mono (by omega))) hp))
   clear hp hI hI0 hB b1 b2 b3 bX bS bO bV bK hB0
   gi_wp2
   gi_region
   all_goals
    gi_wp2
    obtain ⟨⟨b2,b3⟩,hB,hp⟩:=HB.out
    refine ⟨(((KeepsOthers.setCell _ _ _).trans (KeepsOthers.setCell _ _ _)).trans (KeepsOthers.drew _)).from _,rfl,x,?_,pre,rfl,hk,hp⟩
    have q1:w.heap.size≤w.heap.size+1:=by omega
    have q2:w.heap.size≤w.heap.size+1+1:=by omega
    first
     | exact ⟨⟨(b2.set _).other (by omega) _,(b3.other (by omega) _).set _⟩,((hB.setCell (p:=⟨w.heap.size+1,0,none⟩) q1 _).setCell (p:=⟨w.heap.size+1+1,0,none⟩) q2 _).drew⟩
     | exact ⟨⟨(b2.other (by omega) _).set _,(b3.set _).other (by omega) _⟩,((hB.setCell (p:=⟨w.heap.size+1+1,0,none⟩) q2 _).setCell (p:=⟨w.heap.size+1,0,none⟩) q1 _).drew⟩
  ·have hne:((mkS x.2.1).toList==(mkS key).toList)=false:=by
    rw [ByteArray.toList_eq,ByteArray.toList_eq,mkS_list,mkS_list]
    simpa using hk
   have HB:=Lib.hid (And.intro (And.intro (And.intro b1 b2) b3) (And.intro hB hp))
   clear hp hI hI0 hB b1 b2 b3 bX bS bO bV bK hB0
   gi_wp2
   obtain ⟨⟨⟨b1,b2⟩,b3⟩,hB,hp⟩:=HB.out
   refine ⟨(KeepsOthers.refl _).from _,Below.refl _ _,⟨⟨⟨b1,b2⟩,b3⟩,hB,fun y hy=>?_⟩⟩
   rcases List.mem_append.1 hy with hy|hy
   ·exact hp y hy
   ·rw [List.mem_singleton.1 hy];exact hk
 case done =>
  rintro D xs W hD rfl ⟨⟨⟨b1,b2⟩,b3⟩,hB,hp⟩ hK
  have hnone:∀ q∈zs,q.1≠key:=fun q hq=>by
   obtain ⟨i,hi⟩:=List.mem_iff_getElem?.1 hq
   have hlt:=(List.getElem?_eq_some_iff.1 hi).1
   have:=hp (backF zs (zs.length - 1 - i)) (by unfold uptoW;exact List.mem_map.2 ⟨zs.length - 1 - i,by rw [List.mem_range];omega,rfl⟩)
   unfold backF at this
   rw [show zs.length - 1 - (zs.length - 1 - i)=i by omega,hi] at this
   exact this
  have HV:=Lib.hid (getL_none zs key hnone)
  have f2:=b2.frozen
  have f3:=b3.frozen
  have c2:=b2.cell
  have c3:=b3.cell
  have HB:=Lib.hid (And.intro (And.intro b2 b3) (hB0.trans (hB.mono (by omega))))
  clear hp hI hI0 hB b1 b2 b3 bS bO bV bK hB0 hnone
  gi_wp2
  obtain ⟨⟨b2,b3⟩,hB⟩:=HB.out
  have hK':=((KeepsOthers.setCell W ⟨w.heap.size+1,0,none⟩ (.string { data:=#[] })).trans (KeepsOthers.setCell _ ⟨w.heap.size+1+1,0,none⟩ (.bool false))).same D _ hK rfl
  refine ⟨by simp,.inl ⟨_,_,rfl,run_takeDeferred hK',?_⟩⟩
  have d2:=cell_kept ((b2.set (.string { data:=#[] })).other (B':=w.heap.size+1+1) (by omega) (.bool false)).cell (grownBy_putObj' _ D (.deferred none)) (fun r e=>by cases e;exact ⟨_,hK',rfl⟩)
  have d3:=cell_kept ((b3.other (B':=w.heap.size+1) (by omega) (.string { data:=#[] })).set (.bool false)).cell (grownBy_putObj' _ D (.deferred none)) (fun r e=>by cases e;exact ⟨_,hK',rfl⟩)
  refine ⟨.tuple #[.string (mkS []),.bool false],?_,by rw [HV.out];rfl,((hB.setCell (p:=⟨w.heap.size+1,0,none⟩) (by simp) _).setCell (p:=⟨w.heap.size+1+1,0,none⟩) (by simp;omega) _).trans (belowK_b (w:=w) (Nat.le_refl _) _ D _ _ (by omega) hK' rfl rfl)⟩
  simp [results,Tryz.f169,go_sem,d2,d3]
  rfl
 case stop =>
  rintro D c pre W hD ⟨k,hk,rfl⟩ ⟨rfl,x,⟨⟨b2,b3⟩,hB⟩,pre',hpre,hx,hall⟩ hK
  have hval:getL zs key=x.2.2:=by
   cases k with
   | zero=>simp [uptoW] at hpre
   | succ k =>
    rw [uptoW_succ] at hpre
    obtain ⟨e1,e2⟩:=List.append_inj' hpre rfl
    have e3:backF zs k=x:=by simpa using e2
    subst e1
    refine getL_at zs key (zs.length - 1 - k) x.2 ?_ hx fun j q hj hq=>?_
    ·rw [← e3];unfold backF
     rw [List.getElem?_eq_getElem (by omega)];rfl
    ·have hlt:=(List.getElem?_eq_some_iff.1 hq).1
     have:=hall (backF zs (zs.length - 1 - j)) (by unfold uptoW;exact List.mem_map.2 ⟨zs.length - 1 - j,by rw [List.mem_range];omega,rfl⟩)
     unfold backF at this
     rw [show zs.length - 1 - (zs.length - 1 - j)=j by omega,hq] at this
     exact this
  have HV:=Lib.hid hval
  have HB:=Lib.hid (And.intro (And.intro b2 b3) hB)
  clear hI hI0 hB b2 b3 bS bO bV bK hB0 hval hall hpre
  gi_wp2
  obtain ⟨⟨b2,b3⟩,hB⟩:=HB.out
  refine ⟨by simp,.inl ⟨_,_,rfl,run_takeDeferred hK,?_⟩⟩
  have d2:=cell_kept b2.cell (grownBy_putObj' _ D (.deferred none)) (fun r e=>by cases e;exact ⟨_,hK,rfl⟩)
  have d3:=cell_kept b3.cell (grownBy_putObj' _ D (.deferred none)) (fun r e=>by cases e;exact ⟨_,hK,rfl⟩)
  refine ⟨.tuple #[.string (mkS x.2.2),.bool (!x.2.2.isEmpty)],?_,by rw [HV.out],hB.trans (belowK_b (w:=w) (Nat.le_refl _) W D _ _ (by omega) hK rfl rfl)⟩
  simp [results,Tryz.f169,go_sem,d2,d3]
end Go.Proofs.YtdjcjaidklgamaaGreatDoor.Px
end
