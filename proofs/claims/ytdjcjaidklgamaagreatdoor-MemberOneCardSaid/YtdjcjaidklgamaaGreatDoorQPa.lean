import Derived.Test.YtdjcjaidklgamaaGreatDoorQBa
import Derived.Test.YtdjcjaidklgamaaGreatDoorQShelf
import Derived.Laws.RangeAny
import Derived.Laws.Runes
import Derived.Lib.OthersKept
import Derived.Shelf.Strings.IndexAnyAll
import Derived.Deep.LoopGhost
import Derived.Laws.Cells
import Derived.Lib.LaidTab
import Derived.Lib.LaidU8
import Derived.Lib.ItoaMem
import Derived.SizedLaws
import Derived.Deep.SlicePairs
import Derived.Carry
import Derived.ChangeMaps5
set_option linter.unusedSimpArgs false
set_option linter.unusedVariables false
section
namespace Go.Proofs.YtdjcjaidklgamaaGreatDoor.Px
open Go.RowKit Go.Joins
theorem validRune_any (r:Int) (w:World):Calls Tryz.prog 146 #[.int .i32 r] w fun e w'=>(∃ b,e=.returned (.bool b))∧w'=w :=
 (Tryz.utf8_ValidRune r w).mono fun _ _ ⟨h1,h2⟩=>⟨⟨_,h1⟩,h2⟩
theorem enc_two (r:Int) (h1:128≤r) (h:(Utf8.encode r).size=2):∃ a b:UInt8,Utf8.encode r=⟨#[a,b]⟩∧128≤b.toNat:=by
 unfold Utf8.encode at h ⊢
 have hc:128≤(if Utf8.valid r then r.toNat else Utf8.runeError):=by split <;> (try unfold Utf8.runeError) <;> omega
 generalize (if Utf8.valid r then r.toNat else Utf8.runeError)=c at *
 simp only at h ⊢
 rw [if_neg (by omega)] at h ⊢
 by_cases h2:c<2048
 ·rw [if_pos h2]
  exact ⟨_,_,rfl,by simp only [UInt8.toNat_ofNat'];omega⟩
 ·rw [if_neg h2] at h
  by_cases h3:c<65536
  ·rw [if_pos h3] at h;simp [ByteArray.size] at h
  ·rw [if_neg h3] at h;simp [ByteArray.size] at h
theorem enc_more (r:Int) (h1:128≤r):2≤(Utf8.encode r).size∧(Utf8.encode r).size≤4:=by
 unfold Utf8.encode
 have hc:128≤(if Utf8.valid r then r.toNat else Utf8.runeError):=by split <;> (try unfold Utf8.runeError) <;> omega
 generalize (if Utf8.valid r then r.toNat else Utf8.runeError)=c at *
 simp only
 rw [if_neg (by omega)]
 split
 ·simp [ByteArray.size]
 ·split <;> simp [ByteArray.size]
set_option maxRecDepth 100000 in
set_option maxHeartbeats 2000000 in
theorem runeErr_two (w:World) :
  Calls Tryz.prog 103 #[.string ⟨#[61,10]⟩,.int .i32 65533] w fun e w'=>e=.returned (.int .i64 (-1))∧Below w.heap.size w w':=by
 have i0:∀ ty,(Instr.next (.pointer (some ⟨w.heap.size,0,none⟩)) true ty).run Tryz.prog (w.iter ⟨#[61,10]⟩ 0)=.ok (.tuple #[.bool true,.int .i64 0,.int .i32 61]) (w.iter ⟨#[61,10]⟩ 1):=fun ty=>run_next_ascii w ⟨#[61,10]⟩ 0 ty (by decide) (by decide)
 have i1:∀ ty,(Instr.next (.pointer (some ⟨w.heap.size,0,none⟩)) true ty).run Tryz.prog (w.iter ⟨#[61,10]⟩ 1)=.ok (.tuple #[.bool true,.int .i64 1,.int .i32 10]) (w.iter ⟨#[61,10]⟩ 2):=fun ty=>run_next_ascii w ⟨#[61,10]⟩ 1 ty (by decide) (by decide)
 have i2:∀ ty,(Instr.next (.pointer (some ⟨w.heap.size,0,none⟩)) true ty).run Tryz.prog (w.iter ⟨#[61,10]⟩ 2)=.ok (.tuple #[.bool false]) (w.iter ⟨#[61,10]⟩ 2):=fun ty=>run_next_end w ⟨#[61,10]⟩ 2 ty (by decide)
 go_enter Tryz.func103,Tryz.ntmps103
 go_wp2
 refine wp_loop_rounds 3 ?_
 rw [rounds_succ]
 go_wp2
 rw [rounds_succ]
 go_wp2
 rw [rounds_succ]
 go_wp2
 go_ret
 exact ⟨rfl,(Below.refl _ w).alloc (Nat.le_refl _) _⟩
set_option maxRecDepth 100000 in
set_option maxHeartbeats 2000000 in
theorem rune_two (r:Int) (w:World) (h1:128≤r) (h2:r≤1114111) (h3:r≠65533) :
  Calls Tryz.prog 103 #[.string ⟨#[61,10]⟩,.int .i32 r] w fun e w'=>e=.returned (.int .i64 (-1))∧Below w.heap.size w w':=by
 have V:=Lib.hid (fun w=>validRune_any r w)
 have n1:¬ r<128:=by omega
 have hE:=enc_more r h1
 have hT:=enc_two r h1
 have cv:∀ w,(convert 21 9 (.int .i32 r)).run Tryz.prog w=.ok (.string (Utf8.encode r)) w:=fun w=>run_convert_int_string w 21 9 .i32 r (by rw [Tryz.underlying21];rfl) Tryz.underlying9
 have HT:=Lib.hid hT
 clear hT
 by_cases hz:(Utf8.encode r).size=2
 ·obtain ⟨a,b,hq,hb⟩:=HT.out hz
  clear hz hE
  rw [hq] at cv
  clear hq
  have x1:∀ w,(Instr.index 9 (.string ⟨#[61,10]⟩) (.int .i64 1)).run Tryz.prog w=.ok (.int .u8 10) w:=fun w=>by kernel_rfl
  have x2:∀ w,(Instr.index 9 (.string ⟨#[a,b]⟩) (.int .i64 1)).run Tryz.prog w=.ok (.int .u8 b.toNat) w:=fun w=>by kernel_rfl
  have x3:∀ w,(Instr.slice 9 (.string ⟨#[61,10]⟩) (some (.int .i64 2)) none none).run Tryz.prog w=.ok (.string ⟨#[]⟩) w:=fun w=>by kernel_rfl
  have x4:Hid (∀ w,Calls Tryz.prog 145 #[.string { data:=#[] },.int .u8 (b.toNat:Int)] w fun e w'=>e=.returned (.int .i64 (-1))∧w'=w):=Lib.hid (fun w=>Tryz.strings_IndexByte ⟨#[]⟩ b.toNat w)
  have b1:¬ (10:Int)=(b.toNat:Int):=by omega
  go_enter Tryz.func103,Tryz.ntmps103
  go_wp2_with (go_at_call 146;refine (V.out _).mono ?_;rintro e w' ⟨⟨vb,rfl⟩,hw⟩;replace hw:=hw.symm;subst hw)
  ·go_ret
   exact ⟨rfl,Below.refl _ _⟩
  ·go_step3
   go_wp2
   refine wp_loop_rounds 1 ?_
   rw [rounds_succ]
   go_wp2
   go_step3
   go_wp2
   go_region
   go_wp2
   have hb0:Below w.heap.size w w.drew:=(Below.refl _ w).drew
   generalize w.drew=W at hb0 ⊢
   go_quiet ((go_at_call 145;exact Calls.quiet_of_same (x4.out _)))
   go_wp2
   rw [Exit.noGoto_ret]
   go_wp2
   rw [Exit.noGoto_ret]
   go_ret
   exact ⟨rfl,hb0.trans (below_draws _ _ _)⟩
 ·generalize Utf8.encode r=E at *
  have hs3:(E.size:Int) - 1 ≥ 2:=by omega
  have hs4:(E.size:Int) - 1≤3:=by omega
  go_enter Tryz.func103,Tryz.ntmps103
  go_wp2_with (go_at_call 146;refine (V.out _).mono ?_;rintro e w' ⟨⟨vb,rfl⟩,hw⟩;replace hw:=hw.symm;subst hw)
  ·go_ret
   exact ⟨rfl,Below.refl _ _⟩
  ·go_step3
   go_wp2
   refine wp_loop_rounds 1 ?_
   rw [rounds_succ]
   go_wp2
   rw [Exit.noGoto_ret]
   go_ret
   exact ⟨rfl,Below.refl _ _⟩
theorem rune_ascii (b:UInt8) (hb:b.toNat<128) (w:World) :
  Calls Tryz.prog 103 #[.string ⟨#[61,10]⟩,.int .i32 b.toNat] w fun e w'=>e=.returned (.int .i64 (Lib.indexByte [61,10] b))∧w'=w:=by
 have h:=Tryz.strings_IndexRune_ascii ⟨#[61,10]⟩ b.toNat w (by omega) (by omega)
 have e:((b.toNat:Int)).toNat.toUInt8=b:=by simp
 rwa [e] at h
def hasBad (k:List UInt8):Bool:=k.any fun c=>c==61 || c==10
theorem hasBad_cons (c:UInt8) (k:List UInt8):hasBad (c :: k)=((c==61 || c==10) || hasBad k):=rfl
theorem idx2 (c:UInt8):decide (0≤Lib.indexByte [61,10] c)=(c==61 || c==10):=by
 by_cases h:c=61
 ·subst h;rfl
 ·by_cases h2:c=10
  ·subst h2;rfl
  ·have h':(61==c)=false:=by rw [beq_eq_false_iff_ne];exact fun e=>h e.symm
   have h2':(10==c)=false:=by rw [beq_eq_false_iff_ne];exact fun e=>h2 e.symm
   have e1:(c==61)=false:=by simpa using h
   have e2:(c==10)=false:=by simpa using h2
   simp [Lib.indexByte,h',h2',e1,e2]
def badFrom (l:List UInt8) (pos:Nat):Bool:=hasBad (l.drop pos)
theorem decode_w (s:ByteArray) (pos:Nat) (h:pos<s.size) (ha:128≤(s.get! (pos+0)).toNat) :
  ∃ k,(Utf8.decode s pos).2=k+1∧pos+k<s.size∧∀ j,j≤k→128≤(s.get! (pos+j)).toNat:=by
 have one:∀ j,j≤0→128≤(s.get! (pos+j)).toNat:=fun j hj=>by
  obtain rfl:j=0:=by omega
  exact ha
 simp only [Utf8.decode]
 rw [if_neg (by omega)]
 split
 ·next h1 =>
  simp only [Bool.and_eq_true,decide_eq_true_eq,beq_iff_eq] at h1
  split
  ·refine ⟨1,rfl,h1.2.1,fun j hj=>?_⟩
   rcases (show j=0∨j=1 by omega) with rfl|rfl
   ·exact ha
   ·have:=h1.2.2;omega
  ·exact ⟨0,rfl,h,one⟩
 ·split
  ·next h1 =>
   simp only [Bool.and_eq_true,decide_eq_true_eq,beq_iff_eq] at h1
   split
   ·refine ⟨2,rfl,h1.2.1,fun j hj=>?_⟩
    rcases (show j=0∨j=1∨j=2 by omega) with rfl|rfl|rfl
    ·exact ha
    ·have:=h1.1.2.2;omega
    ·have:=h1.2.2;omega
   ·exact ⟨0,rfl,h,one⟩
  ·split
   ·next h1 =>
    simp only [Bool.and_eq_true,decide_eq_true_eq,beq_iff_eq] at h1
    split
    ·refine ⟨3,rfl,h1.2.1,fun j hj=>?_⟩
     rcases (show j=0∨j=1∨j=2∨j=3 by omega) with rfl|rfl|rfl|rfl
     ·exact ha
     ·have:=h1.1.1.2.2;omega
     ·have:=h1.1.2.2;omega
     ·have:=h1.2.2;omega
    ·exact ⟨0,rfl,h,one⟩
   ·exact ⟨0,rfl,h,one⟩
theorem mkS_get (l:List UInt8) (i:Nat) (h:i<l.length):(mkS l).get! i=l[i]:=by
 show l.toArray[i]! = _
 simp [getElem!_pos,h]
theorem badFrom_step (l:List UInt8) (p:Nat) (h:p<l.length):badFrom l p=((l[p]==61 || l[p]==10) || badFrom l (p+1)):=by
 unfold badFrom
 rw [List.drop_eq_getElem_cons h,hasBad_cons]
theorem high_good (c:UInt8) (h:128≤c.toNat):(c==61 || c==10)=false:=by
 have h1:c≠61:=by rintro rfl;exact absurd h (by decide)
 have h2:c≠10:=by rintro rfl;exact absurd h (by decide)
 simp [h1,h2]
theorem badFrom_run (l:List UInt8) (p:Nat):∀ k,p+k≤l.length→(∀ j,j<k→∀ h:p+j<l.length,128≤l[p+j].toNat)→badFrom l (p+k)=badFrom l p
 | 0,_,_=>rfl
 | k+1,hk,hj=>by
  rw [← badFrom_run l p k (by omega) (fun j h1=>hj j (by omega)),badFrom_step l (p+k) (by omega),high_good _ (hj k (by omega) (by omega))]
  rfl
theorem decode_skip (l:List UInt8) (pos:Nat) (h:pos<l.length) (ha:128≤l[pos].toNat) :
  1≤(Utf8.decode (mkS l) pos).2∧pos+(Utf8.decode (mkS l) pos).2≤l.length∧badFrom l (pos+(Utf8.decode (mkS l) pos).2)=badFrom l pos:=by
 obtain ⟨k,h1,h2,h3⟩:=decode_w (mkS l) pos (by rw [mkS_size];exact h) (by rw [Nat.add_zero,mkS_get l pos h];exact ha)
 rw [mkS_size] at h2
 rw [h1]
 exact ⟨by omega,by omega,badFrom_run l pos (k+1) (by omega) fun j hj hl=>by have:=h3 j (by omega);rwa [mkS_get l _ hl] at this⟩
theorem rune_bound (s:ByteArray) (pos:Nat):(Utf8.decode s pos).1≤1114111:=by
 have hb:∀ k,(s.get! (pos+k)).toNat<256:=fun k=>(s.get! (pos+k)).toNat_lt
 have h0:=hb 0;have h1:=hb 1;have h2:=hb 2;have h3:=hb 3
 simp only [Utf8.decode]
 repeat' split
 all_goals simp_all [Utf8.runeError,Utf8.valid]
 all_goals omega
theorem rune_at (l:List UInt8) (pos:Nat) (h:pos<l.length) (w:World) :
  Calls Tryz.prog 103 #[.string ⟨#[61,10]⟩,.int .i32 ((Utf8.decode (mkS l) pos).1:Int)] w fun e w'=>(∃ v:Int,e=.returned (.int .i64 v) ∧
   ((0≤v∧badFrom l pos=true)∨(v<0∧1≤(Utf8.decode (mkS l) pos).2∧pos+(Utf8.decode (mkS l) pos).2≤l.length∧badFrom l (pos+(Utf8.decode (mkS l) pos).2)=badFrom l pos)))∧Below w.heap.size w w':=by
 by_cases ha:l[pos].toNat<128
 ·have hd:Utf8.decode (mkS l) pos=(l[pos].toNat,1):=decode_ascii (mkS l) pos (by rw [mkS_size];exact h) ha
  rw [hd]
  refine (rune_ascii l[pos] ha w).mono fun e w' ⟨he,hw⟩=>⟨⟨_,he,?_⟩,hw ▸ Below.refl _ _⟩
  have h2:=idx2 l[pos]
  rw [badFrom_step l pos h]
  by_cases h3:0≤Lib.indexByte [61,10] l[pos]
  ·left
   rw [← h2,decide_eq_true h3]
   exact ⟨h3,rfl⟩
  ·right
   rw [← h2,decide_eq_false h3]
   exact ⟨by omega,by show 1≤1;omega,h,rfl⟩
 ·have hk:=decode_skip l pos h (by omega)
  have hh:=decode_high (mkS l) pos (by rw [mkS_size];exact h) (show 128≤l[pos].toNat by omega)
  have hb:=rune_bound (mkS l) pos
  generalize Utf8.decode (mkS l) pos=q at *
  by_cases he:(q.1:Int)=65533
  ·rw [he]
   exact (runeErr_two w).mono fun e w' ⟨h1,h2⟩=>⟨⟨_,h1,Or.inr ⟨by omega,hk⟩⟩,h2⟩
  ·exact (rune_two q.1 w (by omega) (by omega) he).mono fun e w' ⟨h1,h2⟩=>⟨⟨_,h1,Or.inr ⟨by omega,hk⟩⟩,h2⟩
end Go.Proofs.YtdjcjaidklgamaaGreatDoor.Px
end
section
namespace Go.Proofs.YtdjcjaidklgamaaGreatDoor.Px
open Go.RowKit Go.Joins
theorem below_iterAt {w wx:World} (h:Below w.heap.size w wx) (k:Nat) (hk:w.heap.size≤k) (s:ByteArray) (p:Nat):Below w.heap.size w (wx.iterAt k s p):=by
 obtain ⟨h1,h2,h3,h4,h5⟩:=h
 refine ⟨h1,h2,h3,by simpa [World.iterAt] using h4,fun j hj=>?_⟩
 have:=h5 j hj
 simp only [World.iterAt,Array.getElem?_setIfInBounds]
 rw [if_neg (by omega)]
 exact this
theorem anyTwo:∀ l:List UInt8,decide (0≤Lib.indexAny l [61,10])=hasBad l
 | []=>rfl
 | c :: l=>by
  have ih:=anyTwo l
  rw [hasBad_cons,← ih,Lib.indexAny]
  have e:([61,10]:List UInt8).contains c=(c==61 || c==10):=by
   show (match c==61 with|true=>true|false=>(match c==10 with|true=>true|false=>false))=_
   cases c==61 <;> cases c==10 <;> rfl
  rw [e]
  cases h:(c==61 || c==10)
  ·have hg:=Lib.indexAny_ge [61,10] l
   simp only [Bool.false_eq_true,if_false,Bool.false_or]
   by_cases h1:Lib.indexAny l [61,10]=-1
   ·rw [h1];rfl
   ·have h2:(Lib.indexAny l [61,10]==-1)=false:=by simpa using h1
    rw [h2]
    simp only [Bool.false_eq_true,if_false]
    exact (decide_eq_true (show 0≤Lib.indexAny l [61,10]+1 by omega)).trans (decide_eq_true (show 0≤Lib.indexAny l [61,10] by omega)).symm
  ·rfl
theorem zero_set:∀ w,(zeroValue 90).run Tryz.prog w=.ok (.agg (Array.replicate 256 (.bool false))) w:=fun w=>by kernel_rfl
set_option maxHeartbeats 2000000 in
theorem indexAny_short (l:List UInt8) (h8:l.length≤8) (w:World) :
  Calls Tryz.prog 64 #[.string (mkS l),.string ⟨#[61,10]⟩] w fun e w'=>(∃ v:Int,e=.returned (.int .i64 v)∧decide (0≤v)=hasBad l)∧Below w.heap.size w w':=by
 have hsz:=mkS_size l
 have h8z:¬ (8:Int)<(l.length:Int):=by omega
 go_enter Tryz.func64,Tryz.ntmps64
 go_wp2_with (go_at_call 104;refine (Tryz.strings_shouldUseASCIISet _ _).mono ?_;rintro e w' ⟨rfl,hw⟩;rw [hw,decide_eq_false h8z])
 go_loopg [9,10] l.length (fun g _ _ wx=>∃ i:Nat,i≤l.length∧l.length - i≤g∧wx.heap[w.heap.size]?=some (.stringIter (mkS l) i)∧Aside (Below w.heap.size w wx∧badFrom l i=badFrom l 0))
 case atStart=>exact ⟨0,by omega,by omega,World.iter_heap w (mkS l) 0,(show Aside _ from ⟨(Below.refl _ w).alloc (Nat.le_refl _) _,rfl⟩)⟩
 case round =>
  obtain ⟨i,hil,hig,hx,A⟩:=hrel
  by_cases hlt:i<l.length
  ·have hnx:=fun ty=>Lib.run_next_any_at (P:=Tryz.prog) wr w.heap.size (mkS l) i ty hx (by rw [mkS_size];exact hlt)
   have R:=Lib.hid (rune_at l i hlt)
   have hk:=Lib.iterAt_heap wr w.heap.size (mkS l) i (i+(Utf8.decode (mkS l) i).2) hx
   have hb1:=below_iterAt A.out.1 w.heap.size (Nat.le_refl _) (mkS l) (i+(Utf8.decode (mkS l) i).2)
   have A2:Aside (badFrom l i=badFrom l 0):=A.out.2
   clear A
   generalize wr.iterAt w.heap.size (mkS l) (i+(Utf8.decode (mkS l) i).2)=W1 at *
   generalize Utf8.decode (mkS l) i=q at *
   have HB:Aside (W1.heap[w.heap.size]?=some (.stringIter (mkS l) (i+q.2))∧Below w.heap.size w W1):=⟨hk,hb1⟩
   clear hk hb1 hx
   go_wp2_with (go_at_call 103;refine (R.out _).mono ?_;rintro e w' ⟨⟨v,rfl,hv⟩,hb2⟩;rcases hv with ⟨hv0,hv1⟩|⟨hv0,hv1,hv2,hv3⟩)
   ·go_ret
    refine ⟨⟨_,rfl,?_⟩,HB.out.2.trans (hb2.mono HB.out.2.size)⟩
    rw [decide_eq_true (show (0:Int)≤(i:Int) by omega)]
    exact (hv1.symm.trans A2.out).trans rfl
   ·go_roundg (l.length - (i+q.2))
    case measure=>omega
    case rel =>
     refine ⟨i+q.2,by omega,by omega,?_,(show Aside _ from ⟨HB.out.2.trans (hb2.mono HB.out.2.size),hv3.trans A2.out⟩)⟩
     have hlt:=(Array.getElem?_eq_some_iff.1 HB.out.1).1
     rw [hb2.block _ hlt];exact HB.out.1
  ·have hnx:=fun ty=>Lib.run_next_end_at (P:=Tryz.prog) wr w.heap.size (mkS l) i ty hx (by rw [mkS_size];exact hlt)
   go_wp2
   go_ret
   refine ⟨⟨_,rfl,?_⟩,A.out.1⟩
   have h0:badFrom l i=hasBad l:=A.out.2
   rw [← h0]
   unfold badFrom
   rw [List.drop_eq_nil_of_le (by omega)]
   rfl
theorem indexAny_any (l:List UInt8) (hl:l.length<4294967281) (w:World) :
  Calls Tryz.prog 64 #[.string (mkS l),.string ⟨#[61,10]⟩] w fun e w'=>(∃ v:Int,e=.returned (.int .i64 v)∧decide (0≤v)=hasBad l)∧Below w.heap.size w w':=by
 by_cases h8:l.length≤8
 ·exact indexAny_short l h8 w
 ·have h:=Tryz.strings_IndexAny_long zero_set (mkS l) ⟨#[61,10]⟩ w (by decide) (by rw [mkS_size];omega) (by rw [mkS_size];omega) (by decide) (fun j b hj=>by
   rcases j with _|_|j
   ·cases hj;decide
   ·cases hj;decide
   ·simp at hj)
  rw [mkS_list] at h
  exact h.mono fun e w' ⟨h1,h2⟩=>⟨⟨_,h1,anyTwo l⟩,h2 ▸ below_alloc2 _ _ _⟩
theorem containsAny_any (l:List UInt8) (hl:l.length<4294967281) (w:World) :
  Calls Tryz.prog 33 #[.string (mkS l),.string ⟨#[61,10]⟩] w fun e w'=>e=.returned (.bool (hasBad l))∧Below w.heap.size w w':=by
 have H:=Lib.hid (indexAny_any l hl)
 go_enter Tryz.func33,Tryz.ntmps33
 go_wp2_with (go_at_call 64;refine (H.out _).mono ?_;rintro e w' ⟨⟨v,rfl,hv⟩,hb⟩)
 go_ret
 rw [← hv]
 exact ⟨rfl,hb⟩
end Go.Proofs.YtdjcjaidklgamaaGreatDoor.Px
end
section
namespace Go.Proofs.YtdjcjaidklgamaaGreatDoor.Px
open Go.RowKit Go.Joins
abbrev prV (k v:List UInt8):Value:=.agg #[.string (mkS k),.string (mkS v)]
def rightP (k v:List UInt8):Bool:=!k.isEmpty&&(!hasBad k&&decide (k.length+v.length≤200))
theorem rightP_true (k v:List UInt8) (h:rightP k v=true):k≠[]∧hasBad k=false∧k.length+v.length≤200:=by
 simpa [rightP,Bool.and_eq_true] using h
set_option maxHeartbeats 1000000 in
theorem right_any (k v:List UInt8) (hk:k.length≤100000) (hv:v.length≤100000) (w:World) :
  Calls Tryz.prog 162 #[prV k v] w fun e w'=>e=.returned (.bool (rightP k v))∧Below w.heap.size w w':=by
 have s1:=mkS_size k
 have s2:=mkS_size v
 unfold rightP
 cases k with
 | nil =>
  have e1:=mkS_emp_nil
  go_enter Tryz.func162,Tryz.ntmps162
  go_wp2
  go_ret
  exact ⟨rfl,below_alloc1 _ _⟩
 | cons c l =>
  have C:=Lib.hid (fun w=>containsAny_any (c :: l) (by omega) w)
  have e1:=mkS_emp (c :: l) (by simp)
  rw [show (c :: l).isEmpty=false from rfl]
  generalize c :: l=k at *
  cases hb:hasBad k
  ·have hb1:=below_alloc1 w (.cells #[.string (mkS k),.string (mkS v)] 43)
   have hc1:(w.alloc (.cells #[.string (mkS k),.string (mkS v)] 43)).cell? ⟨w.heap.size,0,none⟩=some (.string (mkS k)):=by simp
   have hc2:(w.alloc (.cells #[.string (mkS k),.string (mkS v)] 43)).cell? ⟨w.heap.size,1,none⟩=some (.string (mkS v)):=by simp
   have hz:w.heap.size<(w.alloc (.cells #[.string (mkS k),.string (mkS v)] 43)).heap.size:=by simp
   rw [hb] at C
   clear hb
   have Z:=Lib.hid (show ∀ w',Below (w.alloc (.cells #[.string (mkS k),.string (mkS v)] 43)).heap.size (w.alloc (.cells #[.string (mkS k),.string (mkS v)] 43)) w'→w'.cell? ⟨w.heap.size,0,none⟩=some (.string (mkS k))∧w'.cell? ⟨w.heap.size,1,none⟩=some (.string (mkS v))∧Below w.heap.size w w' from fun w' h=>⟨(h.cell (p:=⟨w.heap.size,0,none⟩) hz).trans hc1,(h.cell (p:=⟨w.heap.size,1,none⟩) hz).trans hc2,hb1.trans (h.mono hb1.size)⟩)
   clear hc1 hc2 hz hb1
   go_enter Tryz.func162,Tryz.ntmps162
   go_wp2_with (go_at_call 33;refine (C.out _).mono ?_;rintro e w' ⟨rfl,hb⟩;obtain ⟨z1,z2,z3⟩:=Z.out _ hb)
   go_ret
   refine ⟨?_,z3⟩
   rw [show decide (k.length+v.length≤200)=decide ((k.length:Int)+(v.length:Int)≤200) from by rw [decide_eq_decide];omega]
   rfl
  ·rw [hb] at C
   clear hb
   go_enter Tryz.func162,Tryz.ntmps162
   go_wp2_with (go_at_call 33;refine (C.out _).mono ?_;rintro e w' ⟨rfl,hb⟩)
   go_ret
   exact ⟨rfl,(below_alloc1 w _).trans (hb.mono (below_alloc1 w _).size)⟩
theorem hasBad_eq:∀ k:List UInt8,hasBad k=(k.contains 61 || k.contains 10)
 | []=>rfl
 | c :: k=>by
  rw [hasBad_cons,hasBad_eq k,List.contains_cons,List.contains_cons,show (61==c)=(c==61) from Bool.beq_comm,show (10==c)=(c==10) from Bool.beq_comm]
  cases c==61 <;> cases c==10 <;> cases k.contains 61 <;> rfl
end Go.Proofs.YtdjcjaidklgamaaGreatDoor.Px
end
section
namespace Go.Proofs.YtdjcjaidklgamaaGreatDoor.Px
abbrev Pr:=List UInt8 × List UInt8
end Go.Proofs.YtdjcjaidklgamaaGreatDoor.Px
end
section
namespace Go.Proofs.YtdjcjaidklgamaaGreatDoor.Px
open Go.RowKit Go.Joins
theorem tabIs_of_reads {P:Program} {W:World} {name:String} {k:IntKind} {zs:List Int} {g:Nat} {t e:TypeId} {n:Nat}
  (hg:P.globalNamed name=some g) (hty:(P.globals[g]?).map (·.type)=some t) (ht:P.underlying t=some (.array n e)) (he:P.underlying e=some (.int k)) (hce:P.cellsOf e=1) (hct:P.cellsOf t=n)
  (h:Lib.VarReads P W name (Lib.tabData k zs)):Lib.TabIs P W name k zs:=by
 obtain ⟨g',t',cs,fuel,p,hg',ht',hvar,hd⟩:=h
 obtain rfl:=Option.some.inj (hg.symm.trans hg')
 obtain rfl:=Option.some.inj (hty.symm.trans ht')
 unfold Lib.TabIs
 rw [hvar,← Lib.cells_of_tab ht he hce hct hd]
def PowLaid (w : World) : Prop := Lib.TabIs Tryz.prog w "internal/strconv.uint64pow10" .u64 Lib.pow10Tab
theorem PowLaid.below {w w':World} (h:PowLaid w) (hb:Below w.heap.size w w'):PowLaid w' :=
 tab_stays (g:=4) (by kernel_rfl) h hb (Nat.le_refl _)
theorem powLaid_of {W : World} (h : Lib.VarReads Tryz.prog W "internal/strconv.uint64pow10" (Lib.tabData .u64 Lib.pow10Tab)) : PowLaid W :=
 tabIs_of_reads (g:=4) (by kernel_rfl) (by kernel_rfl) Tryz.underlying268 Tryz.underlying198 (by kernel_rfl) (by kernel_rfl) h
end Go.Proofs.YtdjcjaidklgamaaGreatDoor.Px
end
section
namespace Go.Proofs.YtdjcjaidklgamaaGreatDoor.Px
open Go.RowKit Go.Joins
theorem itoa_mk (n:Int) (h0:-9223372036854775808≤n) (h1:n≤9223372036854775807) (w:World) (hp:PowLaid w) :
  Calls Tryz.prog 77 #[.int .i64 n] w fun e w'=>e=.returned (.string (mkS (Lib.itoa n)))∧Below w.heap.size w w' :=
 (Tryz.strconv_Itoa n h0 h1 w hp).mono fun e w' ⟨he,k,os,hw⟩=>⟨he,hw ▸ ⟨rfl,rfl,rfl,by simp [Sort.grow],fun k hk=>by simp [Sort.grow,World.drewN,Array.getElem?_append,hk]⟩⟩
theorem itoa_dec (n:Nat) (h:n≤1000000) (w:World) (hp:PowLaid w) :
  Calls Tryz.prog 77 #[.int .i64 (n:Int)] w fun e w'=>e=.returned (.string (mkS (Lib.decDigits n)))∧Below w.heap.size w w':=by
 have h:=itoa_mk (n:Int) (by omega) (by omega) w hp
 rwa [itoa_nat _ (by omega),Int.toNat_natCast] at h
theorem dec_len1 (n:Nat) (h:n<10):(Lib.decDigits n).length=1:=by rw [dec_small n h];rfl
theorem dec_len2 (n:Nat) (h0:10≤n) (h:n<100):(Lib.decDigits n).length=2:=by
 rw [dec_step n (by omega),List.length_append,dec_len1 _ (by omega)];rfl
theorem dec_len3 (n:Nat) (h0:100≤n) (h:n<1000):(Lib.decDigits n).length=3:=by
 rw [dec_step n (by omega),List.length_append,dec_len2 _ (by omega) (by omega)];rfl
def lenOf (r:Nat):Nat:=if r≤8 then r+1 else if r≤97 then r+2 else r+3
theorem lenOf_fits (r:Nat) (h:r≤900):(Lib.decDigits (lenOf r)).length+r=lenOf r:=by
 unfold lenOf
 split
 ·rw [dec_len1 _ (by omega)];omega
 ·split
  ·rw [dec_len2 _ (by omega) (by omega)];omega
  ·rw [dec_len3 _ (by omega) (by omega)];omega
theorem lenOf_bound (r:Nat):lenOf r≤r+3∧r<lenOf r:=by unfold lenOf;split <;> (try split) <;> omega
def restL (k v:List UInt8):List UInt8:=32 :: (k++61 :: (v++[10]))
theorem restL_length (k v:List UInt8):(restL k v).length=k.length+v.length+3:=by simp [restL];omega
def recL (k v:List UInt8):List UInt8:=Lib.decDigits (lenOf (k.length+v.length+3))++restL k v
theorem recL_length (k v:List UInt8) (h:k.length+v.length≤200):(recL k v).length=lenOf (k.length+v.length+3):=by
 unfold recL
 rw [List.length_append,restL_length]
 exact lenOf_fits _ (by omega)
set_option maxHeartbeats 1000000 in
theorem ahead_any (r:Nat) (hr:r≤900) (w:World) (hp:PowLaid w) :
  Calls Tryz.prog 173 #[.int .i64 (r:Int)] w fun e w'=>e=.returned (.string (mkS (Lib.decDigits (lenOf r))))∧Below w.heap.size w w':=by
 have I1:∀ w,PowLaid w→Calls Tryz.prog 77 #[.int .i64 ((r:Int)+1)] w fun e w'=>e=.returned (.string (mkS (Lib.decDigits (r+1))))∧Below w.heap.size w w':=fun w hp=>itoa_dec (r+1) (by omega) w hp
 have I2:∀ w,PowLaid w→Calls Tryz.prog 77 #[.int .i64 ((r:Int)+2)] w fun e w'=>e=.returned (.string (mkS (Lib.decDigits (r+2))))∧Below w.heap.size w w':=fun w hp=>itoa_dec (r+2) (by omega) w hp
 have I3:∀ w,PowLaid w→Calls Tryz.prog 77 #[.int .i64 ((r:Int)+3)] w fun e w'=>e=.returned (.string (mkS (Lib.decDigits (r+3))))∧Below w.heap.size w w':=fun w hp=>itoa_dec (r+3) (by omega) w hp
 have HP:=Lib.hid (show ∀ w1,Below w.heap.size w w1→PowLaid w1 from fun w1 h=>hp.below h)
 have H1:=Lib.hid I1
 have H2:=Lib.hid I2
 have H3:=Lib.hid I3
 clear I1 I2 I3 hp
 unfold lenOf
 by_cases h8:r≤8
 ·rw [if_pos h8]
  have s1:=mkS_size (Lib.decDigits (r+1))
  rw [dec_len1 _ (by omega)] at s1
  generalize Lib.decDigits (r+1)=D1 at *
  go_enter Tryz.func173,Tryz.ntmps173
  go_wp2
  refine wp_loop_rounds 1 ?_
  rw [rounds_succ]
  go_wp2_with (go_at_call 77;with_reducible refine (H1.out _ (HP.out _ (Below.refl _ _))).mono ?_;rintro e w1 ⟨rfl,hb1⟩)
  go_ret
  exact ⟨rfl,hb1⟩
 ·rw [if_neg h8]
  have s1:=mkS_size (Lib.decDigits (r+1))
  have s2:=mkS_size (Lib.decDigits (r+2))
  have s3:=mkS_size (Lib.decDigits (r+3))
  by_cases h97:r≤97
  ·rw [if_pos h97]
   have t1:(Lib.decDigits (r+1)).length≠1:=by
    by_cases h:r+1<100
    ·rw [dec_len2 _ (by omega) h];omega
    ·rw [dec_len3 _ (by omega) (by omega)];omega
   have t2:¬ ((Lib.decDigits (r+1)).length:Int)=1:=by omega
   rw [dec_len2 (r+2) (by omega) (by omega)] at s2
   clear t1 s3 H3
   generalize Lib.decDigits (r+1)=D1 at *
   generalize Lib.decDigits (r+2)=D2 at *
   go_enter Tryz.func173,Tryz.ntmps173
   go_wp2
   refine wp_loop_rounds 2 ?_
   rw [rounds_succ]
   go_wp2_with (go_at_call 77;with_reducible refine (H1.out _ (HP.out _ (Below.refl _ _))).mono ?_;rintro e w1 ⟨rfl,hb1⟩)
   rw [rounds_succ]
   go_wp2_with (go_at_call 77;with_reducible refine (H2.out _ (HP.out _ hb1)).mono ?_;rintro e w2 ⟨rfl,hb2⟩)
   go_ret
   exact ⟨rfl,hb1.trans (hb2.mono hb1.size)⟩
  ·rw [if_neg h97]
   have t1:(Lib.decDigits (r+1)).length≠1:=by
    by_cases h:r+1<100
    ·rw [dec_len2 _ (by omega) h];omega
    ·rw [dec_len3 _ (by omega) (by omega)];omega
   have t2:¬ ((Lib.decDigits (r+1)).length:Int)=1:=by omega
   clear t1
   rw [dec_len3 (r+2) (by omega) (by omega)] at s2
   rw [dec_len3 (r+3) (by omega) (by omega)] at s3
   generalize Lib.decDigits (r+1)=D1 at *
   generalize Lib.decDigits (r+2)=D2 at *
   generalize Lib.decDigits (r+3)=D3 at *
   go_enter Tryz.func173,Tryz.ntmps173
   go_wp2
   refine wp_loop_rounds 3 ?_
   rw [rounds_succ]
   go_wp2_with (go_at_call 77;with_reducible refine (H1.out _ (HP.out _ (Below.refl _ _))).mono ?_;rintro e w1 ⟨rfl,hb1⟩)
   rw [rounds_succ]
   go_wp2_with (go_at_call 77;with_reducible refine (H2.out _ (HP.out _ hb1)).mono ?_;rintro e w2 ⟨rfl,hb2⟩)
   have hb12:=hb1.trans (hb2.mono hb1.size)
   rw [rounds_succ]
   go_wp2_with (go_at_call 77;with_reducible refine (H3.out _ (HP.out _ hb12)).mono ?_;rintro e w3 ⟨rfl,hb3⟩)
   go_ret
   exact ⟨rfl,hb12.trans (hb3.mono hb12.size)⟩
theorem record_bad (k v:List UInt8) (hk:k.length≤100000) (hv:v.length≤100000) (h:rightP k v=false) (w:World) :
  Calls Tryz.prog 140 #[prV k v] w fun e w'=>e=.returned (.tuple #[.string (mkS []),.iface 68 (.int .i64 1)])∧Below w.heap.size w w':=by
 have R:=Lib.hid (fun w=>right_any k v hk hv w)
 rw [h] at R
 clear h
 have hb0:=below_alloc1 w (.cells #[.string (mkS k),.string (mkS v)] 43)
 go_enter Tryz.func140,Tryz.ntmps140
 go_wp2_with (go_at_call 162;with_reducible refine (R.out _).mono ?_;rintro e w1 ⟨rfl,hb1⟩)
 go_ret2
 exact ⟨rfl,hb0.trans (hb1.mono hb0.size)⟩
set_option maxHeartbeats 1000000 in
theorem record_ok (k v:List UInt8) (h:rightP k v=true) (w:World) (hp:PowLaid w) :
  Calls Tryz.prog 140 #[prV k v] w fun e w'=>e=.returned (.tuple #[.string (mkS (recL k v)),.nilIface])∧Below w.heap.size w w':=by
 obtain ⟨_,_,hl⟩:=rightP_true k v h
 have R:=Lib.hid (fun w=>right_any k v (by omega) (by omega) w)
 rw [h] at R
 have hb0:=below_alloc1 w (.cells #[.string (mkS k),.string (mkS v)] 43)
 have hz:w.heap.size<(w.alloc (.cells #[.string (mkS k),.string (mkS v)] 43)).heap.size:=by simp
 have hc1:(w.alloc (.cells #[.string (mkS k),.string (mkS v)] 43)).cell? ⟨w.heap.size,0,none⟩=some (.string (mkS k)):=by simp
 have hc2:(w.alloc (.cells #[.string (mkS k),.string (mkS v)] 43)).cell? ⟨w.heap.size,1,none⟩=some (.string (mkS v)):=by simp
 have Z:=Lib.hid (show ∀ w',Below (w.alloc (.cells #[.string (mkS k),.string (mkS v)] 43)).heap.size (w.alloc (.cells #[.string (mkS k),.string (mkS v)] 43)) w'→w'.cell? ⟨w.heap.size,0,none⟩=some (.string (mkS k))∧w'.cell? ⟨w.heap.size,1,none⟩=some (.string (mkS v))∧Below w.heap.size w w' from fun w' h=>⟨(h.cell (p:=⟨w.heap.size,0,none⟩) hz).trans hc1,(h.cell (p:=⟨w.heap.size,1,none⟩) hz).trans hc2,hb0.trans (h.mono hb0.size)⟩)
 have HA:=Lib.hid (show ∀ w1,Below w.heap.size w w1→Calls Tryz.prog 173 #[.int .i64 ((k.length+v.length+3:Nat):Int)] w1 fun e w'=>e=.returned (.string (mkS (Lib.decDigits (lenOf (k.length+v.length+3)))))∧Below w1.heap.size w1 w' from fun w1 h1=>ahead_any _ (by omega) w1 (hp.below h1))
 have x1:∀ w,(Op.stringOp .add { data:=#[32] } (mkS k)).run Tryz.prog w=.ok (.string (mkS (32 :: k))) w:=fun w=>mkS_cat [32] k (by simp;omega) w
 have x2:∀ w,(Op.stringOp .add (mkS (32 :: k)) { data:=#[61] }).run Tryz.prog w=.ok (.string (mkS (32 :: k++[61]))) w:=fun w=>mkS_cat (32 :: k) [61] (by simp;omega) w
 have x3:∀ w,(Op.stringOp .add (mkS (32 :: k++[61])) (mkS v)).run Tryz.prog w=.ok (.string (mkS (32 :: k++[61]++v))) w:=fun w=>mkS_cat (32 :: k++[61]) v (by simp;omega) w
 have x4:∀ w,(Op.stringOp .add (mkS (32 :: k++[61]++v)) { data:=#[10] }).run Tryz.prog w=.ok (.string (mkS (restL k v))) w:=fun w=>by
  have h:=mkS_cat (32 :: k++[61]++v) [10] (by simp;omega) w
  rwa [show 32 :: k++[61]++v++[10]=restL k v by simp [restL]] at h
 have x5:∀ w,(Op.stringOp .add (mkS (Lib.decDigits (lenOf (k.length+v.length+3)))) (mkS (restL k v))).run Tryz.prog w=.ok (.string (mkS (recL k v))) w:=fun w=>mkS_cat _ _ (by
  have h1:=lenOf_fits (k.length+v.length+3) (by omega)
  have h2:=lenOf_bound (k.length+v.length+3)
  rw [restL_length];omega) w
 have sz:((mkS (restL k v)).size:Int)=((k.length+v.length+3:Nat):Int):=by rw [mkS_size,restL_length]
 clear hc1 hc2 hz h hp
 generalize k.length+v.length+3=r at *
 generalize recL k v=T at *
 generalize restL k v=B at *
 generalize Lib.decDigits (lenOf r)=D at *
 generalize 32 :: k++[61]++v=X3 at *
 generalize 32 :: k++[61]=X2 at *
 generalize 32 :: k=X1 at *
 clear hl
 go_enter Tryz.func140,Tryz.ntmps140
 go_wp2_with (first
  |(go_at_call 162;with_reducible refine (R.out _).mono ?_;rintro e w1 ⟨rfl,hb1⟩;obtain ⟨z1,z2,z3⟩:=Z.out _ hb1)
  |(go_at_call 173;with_reducible refine (HA.out _ z3).mono ?_;rintro e w2 ⟨rfl,hb2⟩))
 go_ret2
 exact ⟨rfl,z3.trans (hb2.mono z3.size)⟩
end Go.Proofs.YtdjcjaidklgamaaGreatDoor.Px
end
section
namespace Go.Proofs.YtdjcjaidklgamaaGreatDoor.Px
open Go.RowKit Go.Joins
end Go.Proofs.YtdjcjaidklgamaaGreatDoor.Px
end
section
namespace Go.Proofs.YtdjcjaidklgamaaGreatDoor.Px
open Go.RowKit Go.Joins
set_option linter.unusedVariables false
def PairsAt (W:World) (ad:Option Addr) (l:List (List UInt8 × List UInt8)):Prop :=
 ∀ (i:Nat) (p:List UInt8 × List UInt8),l[i]?=some p→∃ b off,ad=some ⟨b,off,none⟩∧b<W.heap.size∧W.cell? ⟨b,off+i * 2,none⟩=some (.string (mkS p.1))∧W.cell? ⟨b,off+i * 2+1,none⟩=some (.string (mkS p.2))
theorem PairsAt.below {W W':World} {ad:Option Addr} {l:List (List UInt8 × List UInt8)} (h:PairsAt W ad l) (hb:Below W.heap.size W W'):PairsAt W' ad l:=fun i p hi=>by
 obtain ⟨b,off,h1,h2,h3,h4⟩:=h i p hi
 exact ⟨b,off,h1,Nat.lt_of_lt_of_le h2 hb.size,(hb.cell (p:=⟨b,off+i * 2,none⟩) h2).trans h3,(hb.cell (p:=⟨b,off+i * 2+1,none⟩) h2).trans h4⟩
section
variable {H:Type} {P:Program} {ts:List TypeId} {ds:List (DataW H)}
end
theorem spot_of_cell {w:World} {a:Addr} {v:Value} (h:w.cell? a=some v):a.spot=none:=by
 unfold World.cell? at h
 split at h
 ·cases hs:a.spot with
  | none=>rfl
  | some x=>rw [hs] at h;simp at h
 ·cases h
end Go.Proofs.YtdjcjaidklgamaaGreatDoor.Px
end
section
namespace Go.Proofs.YtdjcjaidklgamaaGreatDoor.Px
open Go.RowKit Go.Joins
def RowAt (W:World) (b off:Nat) (l:List (List UInt8 × List UInt8)):Prop :=
 ∀ (i:Nat) (p:List UInt8 × List UInt8),l[i]?=some p→W.cell? ⟨b,off+i * 2,none⟩=some (.string (mkS p.1))∧W.cell? ⟨b,off+i * 2+1,none⟩=some (.string (mkS p.2))
theorem RowAt.below {W W':World} {b off:Nat} {l:List (List UInt8 × List UInt8)} (hlt:b<W.heap.size) (h:RowAt W b off l) (hb:Below W.heap.size W W'):RowAt W' b off l:=fun i p hi=>by
 obtain ⟨h3,h4⟩:=h i p hi
 exact ⟨(hb.cell (p:=⟨b,off+i * 2,none⟩) hlt).trans h3,(hb.cell (p:=⟨b,off+i * 2+1,none⟩) hlt).trans h4⟩
theorem PairsAt.cases {W:World} {ad:Option Addr} {l:List (List UInt8 × List UInt8)} (h:PairsAt W ad l):l=[]∨∃ b off,ad=some ⟨b,off,none⟩∧b<W.heap.size∧RowAt W b off l:=by
 cases l with
 | nil=>exact Or.inl rfl
 | cons q l =>
  right
  obtain ⟨b,off,h1,h2,_⟩:=h 0 q rfl
  refine ⟨b,off,h1,h2,fun i p hi=>?_⟩
  obtain ⟨b',off',h1',_,h3,h4⟩:=h i p hi
  rw [h1] at h1'
  cases h1'
  exact ⟨h3,h4⟩
end Go.Proofs.YtdjcjaidklgamaaGreatDoor.Px
end
section
namespace Go.Proofs.YtdjcjaidklgamaaGreatDoor.Px
open Go.RowKit Go.Joins
end Go.Proofs.YtdjcjaidklgamaaGreatDoor.Px
end
