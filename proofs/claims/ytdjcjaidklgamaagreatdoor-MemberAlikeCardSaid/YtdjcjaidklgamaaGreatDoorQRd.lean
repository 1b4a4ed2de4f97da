import Derived.Test.YtdjcjaidklgamaaGreatDoorQMg
import Derived.Test.YtdjcjaidklgamaaGreatDoorQWh
import Derived.Test.YtdjcjaidklgamaaGreatDoorQSi
import Derived.Shelf.Strings.SlTrimAscii
set_option linter.unusedSimpArgs false
set_option linter.unusedVariables false
section
namespace Go.Proofs.YtdjcjaidklgamaaGreatDoor
open Go.RowKit Go.Joins
structure Bar (n:Nat) (X:List Nat) (w w':World):Prop where
 os:w'.os=w.os
 tape:w'.tape=w.tape
 output:w'.output=w.output
 size:w.heap.size≤w'.heap.size
 block:∀ k,k<n→k ∉ X→w'.heap[k]?=w.heap[k]?
namespace Bar
variable {n m:Nat} {X Y:List Nat} {a w w' w'':World}
theorem refl (n:Nat) (X:List Nat) (w:World):Bar n X w w:=⟨rfl,rfl,rfl,Nat.le_refl _,fun _ _ _=>rfl⟩
theorem of_below (h:Below n w w'):Bar n X w w':=⟨h.os,h.tape,h.output,h.size,fun k hk _=>h.block k hk⟩
theorem below (h:Bar n X w w') (hX:∀ x∈X,n≤x):Below n w w':=⟨h.os,h.tape,h.output,h.size,fun k hk=>h.block k hk fun hm=>absurd (hX k hm) (by omega)⟩
theorem trans (h:Bar n X w w') (k:Bar n X w' w''):Bar n X w w'':=⟨k.os.trans h.os,k.tape.trans h.tape,k.output.trans h.output,Nat.le_trans h.size k.size,fun i hi hb=>(k.block i hi hb).trans (h.block i hi hb)⟩
theorem mono (h:Bar n X w w') (hm:m≤n) (hX:∀ x∈X,x<m→x∈Y):Bar m Y w w':=⟨h.os,h.tape,h.output,h.size,fun k hk hy=>h.block k (by omega) fun hx=>hy (hX k hx hk)⟩
theorem cut (h:Bar n X w w') (hm:m≤n):Bar m X w w':=h.mono hm fun _ hx _=>hx
theorem row (h:Bar n X w w') {k:Nat} {o:Obj} (hr:w.heap[k]?=some o) (hk:k<n) (hx:k ∉ X):w'.heap[k]?=some o:=(h.block k hk hx).trans hr
theorem cell (h:Bar n X w w') {p:Addr} (h1:p.block<n) (h2:p.block ∉ X):w'.cell? p=w.cell? p:=World.cell?_of_block (w:=w) (h.block p.block h1 h2)
theorem alloc (h:Bar n X a w) (hn:n≤w.heap.size) (o:Obj):Bar n X a (w.alloc o):=h.trans (of_below ((Below.refl w.heap.size w).alloc (Nat.le_refl _) o |>.mono hn))
theorem setRow (h:Bar n X a w) {b:Nat} (hb:b∈X∨n≤b) (cs:Array Value):Bar n X a (w.setRow b cs):=by
 refine ⟨h.os,h.tape,h.output,by rw [setRow_size];exact h.size,fun k hk hx=>(setRow_other w b k _ ?_).trans (h.block k hk hx)⟩
 rintro rfl
 rcases hb with hb|hb
 ·exact hx hb
 ·omega
theorem setCell (h:Bar n X a w) {b i:Nat} {cs:Array Value} {t:TypeId} {fr:Nat × Nat} {v:Value} (hr:w.heap[b]?=some (.cells cs t fr)) (hb:b∈X∨n≤b):Bar n X a (w.setCell ⟨b,i,none⟩ v):=by
 rw [setCell_eq_setRow w b i _ _ _ v hr]
 exact h.setRow hb _
end Bar
theorem results_row2 {P:Program} {fn:Func} {p t:Tmp} {ty:TypeId} (h:fn.results=#[.cell p ty,.tmp t]) (tmps:Array Value) (w:World) (g:Nat) (t':TypeId) (cs:Array Value) (fr:Nat × Nat) (d:TypeDesc)
  (hp:tmps.getD p undef=.pointer (some ⟨g,0,none⟩)) (hg:w.heap[g]?=some (.cells cs t' fr))
  (hu:P.underlying ty=some d) (hd:(match d with|.struct _|.array _ _=>true|_=>false)=true) (hi:(P.info? ty).map (·.size)=some cs.size) :
  (results fn tmps).run P w=.ok (.tuple #[.agg cs,tmps.getD t undef]) w:=by
 have hp':tmps[p]?.getD undef=.pointer (some ⟨g,0,none⟩):=by simpa using hp
 simp [results,h,hp',asAddr,run_loadVar_row w g t' ty cs fr d hg hu hd hi]
theorem results_row4 {P:Program} {fn:Func} {p t u v:Tmp} {ty:TypeId} (h:fn.results=#[.cell p ty,.tmp t,.tmp u,.tmp v]) (tmps:Array Value) (w:World) (g:Nat) (t':TypeId) (cs:Array Value) (fr:Nat × Nat) (d:TypeDesc)
  (hp:tmps.getD p undef=.pointer (some ⟨g,0,none⟩)) (hg:w.heap[g]?=some (.cells cs t' fr))
  (hu:P.underlying ty=some d) (hd:(match d with|.struct _|.array _ _=>true|_=>false)=true) (hi:(P.info? ty).map (·.size)=some cs.size) :
  (results fn tmps).run P w=.ok (.tuple #[.agg cs,tmps.getD t undef,tmps.getD u undef,tmps.getD v undef]) w:=by
 have hp':tmps[p]?.getD undef=.pointer (some ⟨g,0,none⟩):=by simpa using hp
 simp [results,h,hp',asAddr,run_loadVar_row w g t' ty cs fr d hg hu hd hi]
abbrev rdrC (s:List UInt8) (a:Nat) (np lp:Option Addr) (gv ov:Value):Array Value:=#[.string (mkS s),.int .i64 (a:Int),.pointer np,.pointer lp,gv,ov]
def TxtPtr (W:World) (b:Nat) (p:Option Addr) (t:Option (List UInt8)):Prop :=
 (p=none∧t=none)∨∃ c x,p=some ⟨c,0,none⟩∧t=some x∧c<W.heap.size∧c≠b∧W.heap[c]?=some (.cells #[.string (mkS x)] 9 (0,0))
theorem TxtPtr.bar {W W':World} {b n:Nat} {X:List Nat} {p:Option Addr} {t:Option (List UInt8)} (h:TxtPtr W b p t) (hB:Bar W.heap.size X W W') (hX:∀ x∈X,x<W.heap.size→x=b):TxtPtr W' b p t:=by
 rcases h with h|⟨c,x,h1,h2,h3,h4,h5⟩
 ·exact .inl h
 ·exact .inr ⟨c,x,h1,h2,Nat.lt_of_lt_of_le h3 hB.size,h4,hB.row h5 h3 fun hx=>h4 (hX c hx h3)⟩
theorem pairs_off {W:World} {b:Nat} {s:List UInt8} {a:Nat} {np lp:Option Addr} {gv ov:Value} {t:TypeId} {fr:Nat × Nat} (hr:W.heap[b]?=some (.cells (rdrC s a np lp gv ov) t fr)) (hg:∀ x,gv≠.string x) (ho:∀ x,ov≠.string x)
  {ad:Option Addr} {l:List PrL} (h:Px.PairsAt W ad l) {i:Nat} {p:PrL} (hi:l[i]?=some p) {c off:Nat} (hc:ad=some ⟨c,off,none⟩):c≠b:=by
 rintro rfl
 obtain ⟨c',off',h1,_,h3,h4⟩:=h i p hi
 rw [hc] at h1
 injection h1 with h1
 injection h1 with h1 h2 _
 subst h1 h2
 have e1:=h3
 have e2:=h4
 simp only [World.cell?,hr] at e1 e2
 generalize off+i * 2=j at e1 e2
 unfold rdrC at e1 e2
 match j,e1,e2 with
 | 0,_,e2=>simp at e2
 | 1,e1,_=>simp at e1
 | 2,e1,_=>simp at e1
 | 3,e1,_=>simp at e1
 | 4,e1,_=>simp at e1;exact hg _ e1
 | 5,e1,_=>simp at e1;exact ho _ e1
 | j+6,e1,_=>simp at e1
theorem slice_bar {W W':World} {X:List Nat} {v:Value} {l:List PrL} (h:Px.SliceIs W v l) (hB:Bar W.heap.size X W W') (hX:∀ (i:Nat) (p:PrL) (ad:Option Addr) (n cap c off:Nat),l[i]?=some p→v=.slice ad n cap→ad=some ⟨c,off,none⟩→c ∉ X):Px.SliceIs W' v l:=by
 obtain ⟨ad,cap,h1,h2,h3⟩:=h
 refine ⟨ad,cap,h1,h2,fun i p hi=>?_⟩
 obtain ⟨c,off,k1,k2,k3,k4⟩:=h3 i p hi
 have hc:=hX i p ad _ cap c off hi h1 k1
 exact ⟨c,off,k1,Nat.lt_of_lt_of_le k2 hB.size,(hB.cell (p:=⟨c,off+i * 2,none⟩) k2 hc).trans k3,(hB.cell (p:=⟨c,off+i * 2+1,none⟩) k2 hc).trans k4⟩
theorem slice_ns {W:World} {v:Value} {l:List PrL} (h:Px.SliceIs W v l):∀ x,v≠.string x:=by
 obtain ⟨ad,cap,h1,_⟩:=h
 rintro x rfl
 cases h1
structure RdrAt (W:World) (b:Nat) (s:List UInt8) (st:RSt) (np lp:Option Addr) (gv ov:Value):Prop where
 row:W.heap[b]?=some (.cells (rdrC s st.at_ np lp gv ov) 82 (0,0))
 nm:TxtPtr W b np st.nm
 lk:TxtPtr W b lp st.lk
 g:Px.SliceIs W gv st.G
 o:Px.SliceIs W ov st.O
theorem RdrAt.lt {W:World} {b:Nat} {s:List UInt8} {st:RSt} {np lp:Option Addr} {gv ov:Value} (h:RdrAt W b s st np lp gv ov):b<W.heap.size:=(Array.getElem?_eq_some_iff.1 h.row).1
theorem RdrAt.slice {W W':World} {b:Nat} {s:List UInt8} {st:RSt} {np lp:Option Addr} {gv ov:Value} (h:RdrAt W b s st np lp gv ov) {X:List Nat} (hB:Bar W.heap.size X W W') (hX:∀ x∈X,x<W.heap.size→x=b) {v:Value} {l:List PrL} (hv:Px.SliceIs W v l):Px.SliceIs W' v l :=
 slice_bar hv hB fun i p ad n cap c off hi h1 h2 hc=>by
  obtain ⟨ad',cap',k1,_,k3⟩:=hv
  rw [k1] at h1
  injection h1 with e1 e2 e3
  subst e1
  obtain ⟨c',off',j1,j2,_⟩:=k3 i p hi
  rw [h2] at j1
  injection j1 with j1
  injection j1 with j1
  subst j1
  exact pairs_off h.row (slice_ns h.g) (slice_ns h.o) k3 hi h2 (hX _ hc j2)
theorem RdrAt.bar {W W':World} {b:Nat} {s:List UInt8} {st:RSt} {np lp:Option Addr} {gv ov:Value} (h:RdrAt W b s st np lp gv ov) {X:List Nat} (hB:Bar W.heap.size X W W') (hX:∀ x∈X,x<W.heap.size→x=b) {a:Nat}
  (hr:W'.heap[b]?=some (.cells (rdrC s a np lp gv ov) 82 (0,0))):RdrAt W' b s { st with at_:=a } np lp gv ov :=
 ⟨hr,h.nm.bar (n:=0) hB hX,h.lk.bar (n:=0) hB hX,h.slice hB hX h.g,h.slice hB hX h.o⟩
theorem RdrAt.below {W W':World} {b:Nat} {s:List UInt8} {st:RSt} {np lp:Option Addr} {gv ov:Value} (h:RdrAt W b s st np lp gv ov) (hB:Below W.heap.size W W'):RdrAt W' b s st np lp gv ov :=
 h.bar (X:=[]) (.of_below hB) (fun x hx=>by cases hx) ((hB.block b h.lt).trans h.row)
end Go.Proofs.YtdjcjaidklgamaaGreatDoor
end
section
namespace Go.Proofs.YtdjcjaidklgamaaGreatDoor.St
open Go.RowKit Go.Joins
theorem drop_nil {p:UInt8→Bool}:∀ (l:List UInt8),l.dropWhile p=[]↔l.all p=true
 | []=>by simp
 | c :: l=>by
  cases hc:p c with
  | true=>simp [hc,drop_nil l]
  | false=>simp [hc]
theorem trim_nil (p:UInt8→Bool) (l:List UInt8):((l.reverse.dropWhile p).reverse).dropWhile p=[]↔l.all p=true:=by
 rw [drop_nil,List.all_reverse]
 constructor
 ·intro h
  have h1:l.reverse=l.reverse.takeWhile p++l.reverse.dropWhile p:=(List.takeWhile_append_dropWhile).symm
  have h2:(l.reverse.takeWhile p).all p=true:=List.all_takeWhile
  have h3:l.reverse.all p=true:=by rw [h1,List.all_append,h2,h];rfl
  rwa [List.all_reverse] at h3
 ·intro h
  have h1:l.reverse.all p=true:=by rw [List.all_reverse];exact h
  rw [(drop_nil _).2 h1]
  rfl
def digitsL:List UInt8:=[48,49,50,51,52,53,54,55,56,57]
theorem digitsL_dig (c:UInt8):digitsL.contains c=dig c:=by
 have h:∀ n:Fin 256,digitsL.contains (UInt8.ofNat n.1)=dig (UInt8.ofNat n.1):=by decide +kernel
 have:=h ⟨c.toNat,c.toNat_lt⟩
 simpa using this
theorem trimS_nil (l:List UInt8):Lib.trimS l digitsL=[]↔l.all dig=true:=by
 have h:=trim_nil (digitsL.contains ·) l
 rw [show (fun x=>digitsL.contains x)=dig from funext digitsL_dig] at h
 unfold Lib.trimS Lib.trimLeftS Lib.trimRightS
 rw [show (fun x=>digitsL.contains x)=dig from funext digitsL_dig]
 exact h
theorem trimDigits_any (l:List UInt8) (w:World) (hl:l.length≤1000) :
  Calls Tryz.prog 66 #[.string (mkS l),.string { data:=#[48,49,50,51,52,53,54,55,56,57] }] w fun e w'=>e=.returned (.string (mkS (Lib.trimS l digitsL)))∧Below w.heap.size w w':=by
 have h:=Any.strings_Trim_laid Tryz.lays160 Tryz.infoSet (mkS l) ⟨#[48,49,50,51,52,53,54,55,56,57]⟩ w (by rw [mkS_size];omega) (by decide) (ascii_of_all (by decide))
 rw [mkS_list] at h
 exact h
end Go.Proofs.YtdjcjaidklgamaaGreatDoor.St
end
