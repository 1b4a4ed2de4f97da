import Derived.Test.YtdjcjaidklgamaaGreatDoorQBr
import Derived.Test.YtdjcjaidklgamaaGreatDoorQPe
import Derived.RangeFuncBox
set_option linter.unusedSimpArgs false
set_option linter.unusedVariables false
section
namespace Go.Proofs.YtdjcjaidklgamaaGreatDoor
open Go.RowKit Go.Joins
set_option linter.unusedVariables false
set_option linter.unusedSimpArgs false
def RecAt (n0 b:Nat) (L:List PrL) (W:World):Prop:=∃ v,Boxed W b 36 v∧W.ownsRow n0 43 2 v L.length (Px.pairCells L)
theorem RecAt.new (W:World) (n0:Nat):RecAt n0 W.heap.size [] (W.alloc (.cells #[.slice none 0 0] 36)):=⟨_,Boxed.new _ _ _,World.ownsRow_nil _ _ _ _⟩
def KpR2 (b:Nat) (W W':World):Prop:=∀ j cs t fr,W.heap[j]?=some (.cells cs t fr)→j≠b→t≠43→W'.heap[j]?=some (.cells cs t fr)
theorem RecAt.of_kept {n0 b:Nat} {L:List PrL} {W W':World} (h:RecAt n0 b L W) (hk:∀ (j:Nat) (o:Obj),W.heap[j]?=some o→(∃ cs t fr,o=Obj.cells cs t fr∧(t=43∨t=36))→W'.heap[j]?=some o):RecAt n0 b L W':=by
 obtain ⟨v,hb,hr⟩:=h
 refine ⟨v,hk b _ hb ⟨_,_,_,rfl,.inr rfl⟩,hr.1,?_⟩
 rcases hr.2 with h0|⟨g,cap,cur,h1,h2,h3,h4⟩
 ·exact Or.inl h0
 ·exact Or.inr ⟨g,cap,cur,h1,h2,hk g _ h3 ⟨_,_,_,rfl,.inl rfl⟩,h4⟩
theorem RecAt.below {n0 b:Nat} {L:List PrL} {W W':World} (h:RecAt n0 b L W) (hb:Below W.heap.size W W'):RecAt n0 b L W' :=
 h.of_kept fun j o ho _=>(hb.block j (Array.getElem?_eq_some_iff.1 ho).1).trans ho
theorem RecAt.slice {n0 b:Nat} {L:List PrL} {W:World} (h:RecAt n0 b L W):∃ ad cap,W.cell? ⟨b,0,none⟩=some (.slice ad L.length cap)∧Px.PairsAt W ad L:=by
 obtain ⟨v,hb,hr⟩:=h
 obtain ⟨ad,cap,rfl,_,hM⟩:=Px.sliceIs_of_row hr
 exact ⟨ad,cap,hb.cell,hM⟩
set_option maxRecDepth 100000 in
set_option maxHeartbeats 8000000 in
theorem tell_any (n0 b:Nat) (L:List PrL) (hL:L.length≤1000) (k v:List UInt8) (W:World) (h:RecAt n0 b L W) (hn:n0≤W.heap.size) (hb:n0≤b) :
  Calls Tryz.prog 76 #[.string (mkS k),.string (mkS v),.pointer (some ⟨b,0,none⟩)] W fun e w'=>e=.returned (.tuple #[])∧RecAt n0 b (L++[(k,v)]) w'∧Below n0 W w'∧KpR2 b W w':=by
 obtain ⟨s,hbox,hrow⟩:=h
 obtain ⟨i0,hi⟩:∃ i0,Tryz.prog.info? 43=some i0:=by
  have:=Px.Tryz.infoPair
  cases hh:Tryz.prog.info? 43 with
  | none=>rw [hh] at this;cases this
  | some i0=>exact ⟨i0,rfl⟩
 have hip:=Px.Tryz.infoPair
 rw [hi] at hip
 simp only [Option.map_some,Option.some.injEq,Prod.mk.injEq] at hip
 obtain ⟨hz0,hz1,hz2⟩:=hip
 obtain ⟨dl,hdl⟩:∃ dl,L.length=dl:=⟨_,rfl⟩
 rw [hdl] at hrow hL
 have bc:=hbox.cell
 have HBX:=Lib.hid (And.intro hbox (And.intro hrow hdl))
 have HC2:=Lib.hid (Px.cell_two_new W 43 (.string (mkS k)) (.string (mkS v)))
 have hI2:=Lib.hid (And.intro hi (And.intro hz0 (And.intro hz1 hz2)))
 clear hbox hrow hdl hi hz0 hz1 hz2
 go_enter Tryz.func76,Tryz.ntmps76
 go_wp2_with (at_builtin;refine wpList_append_own _ rfl _ _ 36 rfl n0 43 i0 (.agg #[.string { data:=#[] },.string { data:=#[] }]) 2 32 Tryz.underlying36 hI2.out.1 hI2.out.2.1 hI2.out.2.2.1 hI2.out.2.2.2 rfl (by decide) _ _ _ rfl (HBX.out.2.1.alloc _) ⟨W.heap.size,0,none⟩ 1 1 [.string (mkS k),.string (mkS v)] rfl rfl HC2.out (by simp [Value.oneCell']) (by unfold maxLen;omega) (by omega) (by simp;omega) ?_;intro v' w4 hown' hgrow _;obtain ⟨g4,cap4,hv4⟩:=ownsRow_succ hown';subst hv4;have HAP:=Lib.hid (Boxed.appended HBX.out.1 (by decide) HBX.out.2.1 hn hb hown' hgrow);have HGR:=Lib.hid (show (W.alloc (.cells #[.string (mkS k),.string (mkS v)] 43)).grownBy w4 s.ownBlock from hgrow);have bc4:=HAP.out.1.cell;have bf4:=HAP.out.1.frozen;clear hown' hgrow)
 first|go_end0|go_ret2|go_ret
 refine ⟨rfl,⟨_,HAP.out.2.1,?_⟩,HAP.out.2.2.2.2,?_⟩
 ·rw [Px.pairCells_append,List.length_append,HBX.out.2.2]
  exact HAP.out.2.2.1
 ·intro j cs t fr hj hne ht
  refine (Below.heap_setCell w4 ⟨b,0,none⟩ _ j hne).trans ?_
  have h1:(W.alloc (.cells #[.string (mkS k),.string (mkS v)] 43)).heap[j]?=some (.cells cs t fr):=(Below.heap_alloc W _ j (Array.getElem?_eq_some_iff.1 hj).1).trans hj
  refine (HGR.out.block j (Array.getElem?_eq_some_iff.1 h1).1 (fun e=>?_)).trans h1
  rcases HBX.out.2.1.2 with ⟨rfl,_⟩|⟨g,cap,cur,rfl,hb2,hgb,_⟩
  ·exact absurd e (by simp [Value.ownBlock])
  ·obtain rfl:j=g:=by simpa [Value.ownBlock] using e
   rw [hgb] at hj
   simp only [Option.some.injEq,Obj.cells.injEq] at hj
   exact ht hj.2.1.symm
theorem paxWrite_all (ad:Option Addr) (cap:Nat) (l:List PrL) (hl:l≠[]) (h20:l.length≤20) (hr:∀ p∈l,Px.rightP p.1 p.2=true) (W:World) (hp:Px.PowLaid W) (hM:Px.PairsAt W ad l) :
  Calls Tryz.prog 99 #[.slice ad l.length cap] W fun e w'=>e=.returned (.tuple #[.string (mkS (Px.recsL l)),.nilIface])∧Below W.heap.size W w':=by
 rcases hM.cases with rfl|⟨b,off,rfl,hlt,hRow⟩
 ·exact absurd rfl hl
 ·refine (Px.write_row b off cap l h20 (fun p hp=>?_) l.length (Nat.le_refl _) (fun j p _ hp=>hr p (List.mem_of_getElem? hp)) (fun p hp=>by simp at hp) W hp hlt hRow).mono fun e w' ⟨h1,h2⟩=>⟨?_,h2⟩
  ·have:=(Px.rightP_true p.1 p.2 (hr p hp)).2.2
   omega
  ·rcases h1 with ⟨_,h1⟩|⟨h1,_⟩
   ·exact h1
   ·omega
theorem paxWhole_len (d:Nat) (R:RawL) (n link data:List UInt8):(wholeF d R n link data).1.length≤data.length+1100:=by
 unfold wholeF
 split
 ·next h =>
  have h1:=write_length h.2
  have h2:=fillL_le data
  show (writeL _ _++fillL data).length≤_
  rw [List.length_append,h1]
  omega
 ·simp
theorem wholeExt (n:Int) (h0:0≤n) (h1:n≤100000) (data:List UInt8):wholeF 4 (rawK 120 n) extName [] data=(writeL 4 (rawExt n)++fillL data,0):=by
 have h:namedF 4 (rawK 120 n) extName=(rawExt n,true):=by
  unfold namedF
  rw [if_pos (by decide),show halfF extName=([],extName,true) by decide]
  rfl
 unfold wholeF
 rw [h]
 have h2:({ rawExt n with link:=[] }:RawL)=rawExt n:=rfl
 rw [h2,if_pos ⟨rfl,goodExt n h0 h1⟩]
set_option maxRecDepth 100000 in
set_option maxHeartbeats 8000000 in
theorem writeRecords_any (ad:Option Addr) (cap:Nat) (l:List PrL) (h8:l.length≤8) (hr:∀ p∈l,Px.rightP p.1 p.2=true) (w:World) (hp:Px.PowLaid w) (hM:Px.PairsAt w ad l) :
  Calls Tryz.prog 83 #[.slice ad l.length cap] w fun e w'=>e=.returned (.tuple #[.string (mkS (extF l)),.nilIface])∧Below w.heap.size w w':=by
 by_cases hl:l=[]
 ·subst hl
  show Calls _ _ #[.slice ad 0 cap] _ fun e w'=>e=.returned (.tuple #[.string ⟨#[]⟩,.nilIface])∧Below w.heap.size w w'
  clear hM hp
  go_enter Tryz.func83,Tryz.ntmps83
  go_wp2_with fail
  try go_ret2
  exact ⟨rfl,Below.refl _ _⟩
 ·have hb:=Px.recsL_bound l hr
  have CP:=Lib.hid (paxWrite_all ad cap l hl (by omega) hr w hp hM)
  have HX:extF l=writeL 4 (rawExt (Px.recsL l).length)++fillL (Px.recsL l):=by unfold extF;rw [if_neg hl]
  have CW:=Lib.hid (fun W=>show Calls Tryz.prog 71 #[.int .i64 4,.agg #[.string ⟨#[]⟩,.string ⟨#[]⟩,.string ⟨#[]⟩,.string ⟨#[]⟩,.string ⟨#[]⟩,.int .u8 120,.int .i64 0,.int .i64 0,.int .i64 0,.int .i64 ((Px.recsL l).length:Int),.int .i64 0,.int .i64 0,.int .i64 0],.string ⟨#[80,97,120,72,101,97,100,101,114]⟩,.string ⟨#[]⟩,.string (mkS (Px.recsL l))] W fun e w'=>e=.returned (.tuple #[.string (mkS (extF l)),.nilIface])∧Below W.heap.size W w' by
   have h:=written_at 4 4 rfl (by decide) (rawK 120 ((Px.recsL l).length:Int)) extName [] (Px.recsL l) (show (120:UInt8)≠0 by decide) (by decide) (by decide) (show ([]:List UInt8).length≤1000000 by decide) (show ([]:List UInt8).length≤1000000 by decide) (by omega) (by unfold intsL rawK i64;dsimp only;omega) W
   rw [wholeExt _ (by omega) (by omega),← HX] at h
   exact h)
  have hn:¬ ((l.length:Int)=0):=by have:=List.length_pos_iff.2 hl;omega
  have hne:((l.length:Int)==0)=false:=by simpa using hl
  have hz:=mkS_size (Px.recsL l)
  have hzl:(Px.recsL l).length≤20000:=by omega
  clear HX hM hp hr hl
  generalize extF l=X at *
  generalize Px.recsL l=R at *
  generalize l.length=n at *
  go_enter Tryz.func83,Tryz.ntmps83
  go_wp2_with (first
   |(go_at_call 99;(with_reducible refine CP.out.mono ?_);rintro e w2 ⟨rfl,h2⟩;have H2:=Lib.hid h2;clear h2)
   |(go_at_call 71;(with_reducible refine (CW.out _).mono ?_);rintro e w3 ⟨rfl,h3⟩;have H3:=Lib.hid (H2.out.trans (h3.mono H2.out.size));clear h3)
   | fail)
  try go_ret2
  exact ⟨rfl,H3.out⟩
end Go.Proofs.YtdjcjaidklgamaaGreatDoor
end
