import Derived.Test.YtdjcjaidklgamaaGreatDoorQBa
import Derived.Test.YtdjcjaidklgamaaGreatDoorProg
import Derived.WalkKit
import Derived.ProofKit
import Derived.OpenShut
import Derived.LoopTactic
import Derived.Lib.Hide
import Derived.Lib.SmallJoins
import Derived.BigRegion
import Derived.BigQuiet
import Derived.Deep.QuietTactic
import Derived.Lib.LaidTab
import Derived.Lib.LaidU8
import Derived.Lib.ItoaMem
import Derived.Test.YtdjcjaidklgamaaGreatDoorQShelf
import Derived.Laws.Concat
import Derived.Lib.QuietBelow
set_option linter.unusedSimpArgs false
set_option linter.unusedVariables false
section
namespace Go.Proofs.YtdjcjaidklgamaaGreatDoor.St
open Go.RowKit Go.Joins
abbrev tmV (s n:Int):Value:=.agg #[.int .i64 s,.int .i64 n]
def rightB (s n:Int):Bool:=decide (-1099511627776≤s)&&(decide (s≤1099511627776)&&(decide (0≤n)&&decide (n<1000000000)))
theorem rightB_true (s n:Int) (h:rightB s n=true):-1099511627776≤s∧s≤1099511627776∧0≤n∧n<1000000000:=by
 simpa [rightB] using h
theorem right_ex (s n:Int) (w:World) :
  Calls Tryz.prog 93 #[tmV s n] w fun e w'=>e=.returned (.bool (rightB s n))∧w'=w.alloc (.cells #[.int .i64 s,.int .i64 n] 23):=by
 unfold rightB
 by_cases h1:-1099511627776≤s
 ·by_cases h2:s≤1099511627776
  ·by_cases h3:0≤n
   ·simp only [h1,h2,h3,decide_true,Bool.true_and]
    go_enter Tryz.func93,Tryz.ntmps93
    go_wp2
    go_ret
    exact ⟨rfl,rfl⟩
   ·have h3':decide (0≤n)=false:=by simpa using h3
    simp only [h1,h2,h3',decide_true,Bool.true_and,Bool.false_and]
    clear h3
    go_enter Tryz.func93,Tryz.ntmps93
    go_wp2
    go_ret
    exact ⟨rfl,rfl⟩
  ·have h3':decide (s≤1099511627776)=false:=by simpa using h2
   simp only [h1,h3',decide_true,Bool.true_and,Bool.false_and]
   clear h2
   go_enter Tryz.func93,Tryz.ntmps93
   go_wp2
   go_ret
   exact ⟨rfl,rfl⟩
 ·have h3':decide (-1099511627776≤s)=false:=by simpa using h1
  simp only [h3',Bool.false_and]
  clear h1
  go_enter Tryz.func93,Tryz.ntmps93
  go_wp2
  go_ret
  exact ⟨rfl,rfl⟩
theorem right_any (s n:Int) (w:World) :
  Calls Tryz.prog 93 #[tmV s n] w fun e w'=>e=.returned (.bool (rightB s n))∧Below w.heap.size w w' :=
 (right_ex s n w).mono fun _ _ ⟨he,hw⟩=>⟨he,hw ▸ below_alloc1 _ _⟩
def ahead (s n s' n':Int):Bool:=decide (s<s') || (decide (s=s')&&decide (n<n'))
end Go.Proofs.YtdjcjaidklgamaaGreatDoor.St
end
section
namespace Go.Proofs.YtdjcjaidklgamaaGreatDoor.St
open Go.RowKit Go.Joins
theorem tabIs_of_reads {P:Program} {W:World} {name:String} {k:IntKind} {zs:List Int} {g:Nat} {t e:TypeId} {n:Nat}
  (hg:P.globalNamed name=some g) (hty:(P.globals[g]?).map (·.type)=some t) (ht:P.underlying t=some (.array n e)) (he:P.underlying e=some (.int k)) (hce:P.cellsOf e=1) (hct:P.cellsOf t=n)
  (h:Lib.VarReads P W name (Lib.tabData k zs)):Lib.TabIs P W name k zs:=by
 obtain ⟨g',t',cs,fuel,p,hg',ht',hvar,hd⟩:=h
 obtain rfl:=Option.some.inj (hg.symm.trans hg')
 obtain rfl:=Option.some.inj (hty.symm.trans ht')
 unfold Lib.TabIs
 rw [hvar,← Lib.cells_of_tab ht he hce hct hd]
def PowLaid (w : World) : Prop := Lib.TabIs Tryz.prog w "internal/strconv.uint64pow10" .u64 Lib.pow10Tab
theorem PowLaid.below {w w':World} (h:PowLaid w) (hb:Below w.heap.size w w'):PowLaid w' :=
 tab_stays (g:=4) (by kernel_rfl) h hb (Nat.le_refl _)
theorem powLaid_of {W : World} (h : Lib.VarReads Tryz.prog W "internal/strconv.uint64pow10" (Lib.tabData .u64 Lib.pow10Tab)) : PowLaid W :=
 tabIs_of_reads (g:=4) (by kernel_rfl) (by kernel_rfl) Tryz.underlying268 Tryz.underlying198 (by kernel_rfl) (by kernel_rfl) h
end Go.Proofs.YtdjcjaidklgamaaGreatDoor.St
end
section
namespace Go.Proofs.YtdjcjaidklgamaaGreatDoor.St
open Go.RowKit Go.Joins
theorem trimLeft0 (l:List UInt8) (w:World) :
  Calls Tryz.prog 160 #[.string (mkS l),.string ⟨#[48]⟩] w fun e w'=>e=.returned (.string (mkS (Lib.trimLeftB l 48)))∧w'=w:=by
 have h:=Tryz.strings_TrimLeft_one (mkS l) 48 (by decide) w
 rwa [mkS_list] at h
theorem trimRight0 (l:List UInt8) (w:World) (hl:l.length≤1000000) :
  Calls Tryz.prog 24 #[.string (mkS l),.string ⟨#[48]⟩] w fun e w'=>e=.returned (.string (mkS (Lib.trimRightB l 48)))∧w'=w:=by
 have h:=Tryz.strings_TrimRight_one (mkS l) 48 (by decide) w (by rw [mkS_size];omega)
 rwa [mkS_list] at h
theorem itoa_mk (n:Int) (h0:-9223372036854775808≤n) (h1:n≤9223372036854775807) (w:World) (hp:PowLaid w) :
  Calls Tryz.prog 77 #[.int .i64 n] w fun e w'=>e=.returned (.string (mkS (Lib.itoa n)))∧Below w.heap.size w w' :=
 (Tryz.strconv_Itoa n h0 h1 w hp).mono fun e w' ⟨he,k,os,hw⟩=>⟨he,hw ▸ ⟨rfl,rfl,rfl,by simp [Sort.grow],fun k hk=>by simp [Sort.grow,World.drewN,Array.getElem?_append,hk]⟩⟩
end Go.Proofs.YtdjcjaidklgamaaGreatDoor.St
end
section
namespace Go.Proofs.YtdjcjaidklgamaaGreatDoor.St
open Go.RowKit Go.Joins
def fracL (P:Nat):List UInt8:=if P=0 then [] else 46 :: Lib.trimRightB (digs 9 P) 48
def textL (s n:Int):List UInt8 :=
 if 0≤s then Lib.decDigits s.toNat++fracL n.toNat
 else if n=0 then 45 :: Lib.decDigits (-s).toNat
 else 45 :: (Lib.decDigits (-s - 1).toNat++fracL (1000000000 - n).toNat)
theorem trimRightB_length (l:List UInt8) (c:UInt8):(Lib.trimRightB l c).length≤l.length:=by
 unfold Lib.trimRightB
 rw [List.length_reverse]
 exact Nat.le_trans (List.dropWhile_sublist _).length_le (by rw [List.length_reverse];exact Nat.le_refl _)
theorem fracL_length (P:Nat):(fracL P).length≤10:=by
 unfold fracL
 split
 ·simp
 ·have:=trimRightB_length (digs 9 P) 48
  rw [digs_length] at this
  simp;omega
theorem dec_length (u:Nat) (h:u<10 ^ 20):(Lib.decDigits u).length≤20:=(digs_pad 19 u h).1
theorem frac_zero (w:World) :
  Calls Tryz.prog 123 #[.int .i64 0] w fun e w'=>e=.returned (.string (mkS (fracL 0)))∧w'=w:=by
 go_enter Tryz.func123,Tryz.ntmps123
 go_wp2
 go_ret
 exact ⟨rfl,rfl⟩
theorem frac_any (P:Nat) (w:World) (hp:PowLaid w) (hP:P<1000000000) :
  Calls Tryz.prog 123 #[.int .i64 (P:Int)] w fun e w'=>e=.returned (.string (mkS (fracL P)))∧Below w.heap.size w w':=by
 rcases Nat.eq_zero_or_pos P with rfl|h0
 ·exact (frac_zero w).mono fun e w' ⟨he,hw⟩=>⟨he,hw ▸ Below.refl _ _⟩
 ·have h0':¬ (P:Int)=0:=by omega
  have hI:∀ w,PowLaid w→Calls Tryz.prog 77 #[.int .i64 (1000000000+(P:Int))] w fun e w'=>e=.returned (.string (mkS (49 :: digs 9 P)))∧Below w.heap.size w w':=fun w hp=>by
   have h:=itoa_mk (1000000000+(P:Int)) (by omega) (by omega) w hp
   rw [itoa_nat _ (by omega),show (1000000000+(P:Int)).toNat=10 ^ 9+P by omega,dec_ahead 9 P (by omega)] at h
   exact h
  have hS:∀ w,(Instr.slice 9 (.string (mkS (49 :: digs 9 P))) (some (.int .i64 1)) none none).run Tryz.prog w=.ok (.string (mkS (digs 9 P))) w:=fun w=>mkS_onward (49 :: digs 9 P) 1 (by simp) w
  have hT:∀ w,Calls Tryz.prog 24 #[.string (mkS (digs 9 P)),.string ⟨#[48]⟩] w fun e w'=>e=.returned (.string (mkS (Lib.trimRightB (digs 9 P) 48)))∧w'=w:=fun w=>trimRight0 _ w (by rw [digs_length];omega)
  have hL:(Lib.trimRightB (digs 9 P) 48).length≤9:=by have:=trimRightB_length (digs 9 P) 48;rwa [digs_length] at this
  have hf:fracL P=46 :: Lib.trimRightB (digs 9 P) 48:=by unfold fracL;rw [if_neg (by omega)]
  rw [hf]
  generalize Lib.trimRightB (digs 9 P) 48=T at hT hL
  generalize digs 9 P=D at hI hS hT
  have hC:∀ w,(Op.stringOp .add { data:=#[46] } (mkS T)).run Tryz.prog w=.ok (.string (mkS (46 :: T))) w:=fun w=>mkS_cat [46] T (by simp;omega) w
  have HI:=Lib.hid (hI w hp)
  have HT:=Lib.hid hT
  clear hI hT hf hL hp h0
  go_enter Tryz.func123,Tryz.ntmps123
  go_wp2_with (first
   |(go_at_call 77;refine HI.out.mono ?_;rintro e w1 ⟨rfl,hb1⟩)
   |(go_at_call 24;refine (HT.out _).mono ?_;rintro e w2 ⟨rfl,hw⟩;replace hw:=hw.symm;subst hw))
  go_ret
  exact ⟨rfl,hb1⟩
theorem negate_0 (s:Int) (w:World) (h1:-1099511627776≤s) (h2:s≤1099511627776) :
  Calls Tryz.prog 122 #[.int .i64 s,.int .i64 0] w fun e w'=>e=.returned (.tuple #[.int .i64 (-s),.int .i64 0])∧w'=w:=by
 go_enter Tryz.func122,Tryz.ntmps122
 go_wp2
 go_ret2
 exact ⟨rfl,rfl⟩
theorem negate_n (s n:Int) (w:World) (h1:-1099511627776000≤s) (h2:s≤1099511627776000) (h3:-1099511627776≤n) (h4:n≤1099511627776) (hn:n≠0) :
  Calls Tryz.prog 122 #[.int .i64 s,.int .i64 n] w fun e w'=>e=.returned (.tuple #[.int .i64 (-s - 1),.int .i64 (1000000000 - n)])∧w'=w:=by
 go_enter Tryz.func122,Tryz.ntmps122
 go_wp2
 go_ret2
 exact ⟨rfl,rfl⟩
theorem text_plus (s n:Nat) (w:World) (hp:PowLaid w) (hr:rightB s n=true) :
  Calls Tryz.prog 81 #[tmV s n] w fun e w'=>e=.returned (.tuple #[.string (mkS (Lib.decDigits s++fracL n)),.nilIface])∧Below w.heap.size w w':=by
 have hb:=rightB_true s n hr
 have R:=Lib.hid (fun w=>right_ex s n w)
 rw [hr] at R
 have hI:∀ w,PowLaid w→Calls Tryz.prog 77 #[.int .i64 (s:Int)] w fun e w'=>e=.returned (.string (mkS (Lib.decDigits s)))∧Below w.heap.size w w':=fun w hp=>by
  have h:=itoa_mk (s:Int) (by omega) (by omega) w hp
  rwa [itoa_nat _ (by omega),Int.toNat_natCast] at h
 have hF:∀ w,PowLaid w→Calls Tryz.prog 123 #[.int .i64 (n:Int)] w fun e w'=>e=.returned (.string (mkS (fracL n)))∧Below w.heap.size w w':=fun w hp=>frac_any n w hp (by omega)
 have hL1:=dec_length s (by omega)
 have hL2:=fracL_length n
 have hs:¬ (s:Int)<0:=by omega
 generalize Lib.decDigits s=D at hI hL1 ⊢
 generalize fracL n=F at hF hL2 ⊢
 have hC1:∀ w,(Op.stringOp .add { data:=#[] } (mkS D)).run Tryz.prog w=.ok (.string (mkS D)) w:=fun w=>mkS_cat [] D (by simp;omega) w
 have hC2:∀ w,(Op.stringOp .add (mkS D) (mkS F)).run Tryz.prog w=.ok (.string (mkS (D++F))) w:=fun w=>mkS_cat D F (by omega) w
 have hp1:∀ w1,Below w.heap.size w w1→PowLaid w1:=fun w1 h=>hp.below h
 have HI:=Lib.hid hI
 have HF:=Lib.hid hF
 have HP:=Lib.hid hp1
 clear hI hF hp1 hp hr hL1 hL2 hb
 go_enter Tryz.func81,Tryz.ntmps81
 go_wp2_with (go_at_call 93;refine (R.out _).mono ?_;rintro e w' ⟨rfl,hw⟩;replace hw:=hw.symm;subst hw)
 go_quiet (fail)
 have hq:Below w.heap.size w (((w.alloc (.cells #[.int .i64 (s:Int),.int .i64 (n:Int)] 23)).alloc (.cells #[.int .i64 (s:Int),.int .i64 (n:Int)] 23)).drewN nq):=(below_alloc2 _ _ _).trans (below_draws _ _ _)
 generalize ((w.alloc (.cells #[.int .i64 (s:Int),.int .i64 (n:Int)] 23)).alloc (.cells #[.int .i64 (s:Int),.int .i64 (n:Int)] 23)).drewN nq=W at hq
 go_wp2_with (first
  |(go_at_call 77;refine (HI.out _ (HP.out _ hq)).mono ?_;rintro e w1 ⟨rfl,hb1⟩)
  |(go_at_call 123;refine (HF.out _ (HP.out _ (hq.trans (hb1.mono hq.size)))).mono ?_;rintro e w2 ⟨rfl,hb2⟩))
 go_ret2
 exact ⟨rfl,hq.trans ((hb1.trans (hb2.mono hb1.size)).mono hq.size)⟩
theorem text_minus (s n S N:Nat) (w:World) (hp:PowLaid w) (hr:rightB (-(s:Int)) n=true) (hs1:0<s) (hN:(n=0∧N=0∧S=s)∨(n≠0∧N+n=1000000000∧S+1=s)) :
  Calls Tryz.prog 81 #[tmV (-(s:Int)) n] w fun e w'=>e=.returned (.tuple #[.string (mkS (45 :: (Lib.decDigits S++fracL N))),.nilIface])∧Below w.heap.size w w':=by
 have hb:=rightB_true _ n hr
 have R:=Lib.hid (fun w=>right_ex (-(s:Int)) n w)
 rw [hr] at R
 have hI:∀ w,PowLaid w→Calls Tryz.prog 77 #[.int .i64 (S:Int)] w fun e w'=>e=.returned (.string (mkS (Lib.decDigits S)))∧Below w.heap.size w w':=fun w hp=>by
  have h:=itoa_mk (S:Int) (by omega) (by omega) w hp
  rwa [itoa_nat _ (by omega),Int.toNat_natCast] at h
 have hG:∀ w,Calls Tryz.prog 122 #[.int .i64 (-(s:Int)),.int .i64 (n:Int)] w fun e w'=>e=.returned (.tuple #[.int .i64 (S:Int),.int .i64 (N:Int)])∧w'=w:=fun w=>by
  rcases hN with ⟨h1,h2,h3⟩|⟨h1,h2,h3⟩
  ·subst h1 h2 h3
   have h:=negate_0 (-(S:Int)) w (by omega) (by omega)
   rwa [Int.neg_neg] at h
  ·have h:=negate_n (-(s:Int)) n w (by omega) (by omega) (by omega) (by omega) (by omega)
   rwa [show - -(s:Int) - 1=(S:Int) by omega,show 1000000000 - (n:Int)=(N:Int) by omega] at h
 have hF:∀ w,PowLaid w→Calls Tryz.prog 123 #[.int .i64 (N:Int)] w fun e w'=>e=.returned (.string (mkS (fracL N)))∧Below w.heap.size w w':=fun w hp=>frac_any N w hp (by omega)
 have hL1:=dec_length S (by omega)
 have hL2:=fracL_length N
 have hs:-(s:Int)<0:=by omega
 generalize -(s:Int)=s' at *
 generalize Lib.decDigits S=D at hI hL1 ⊢
 generalize fracL N=F at hF hL2 ⊢
 have hC1:∀ w,(Op.stringOp .add { data:=#[45] } (mkS D)).run Tryz.prog w=.ok (.string (mkS (45 :: D))) w:=fun w=>mkS_cat [45] D (by simp;omega) w
 have hC2:∀ w,(Op.stringOp .add (mkS (45 :: D)) (mkS F)).run Tryz.prog w=.ok (.string (mkS (45 :: (D++F)))) w:=fun w=>mkS_cat (45 :: D) F (by simp;omega) w
 have hp1:∀ w1,Below w.heap.size w w1→PowLaid w1:=fun w1 h=>hp.below h
 have HI:=Lib.hid hI
 have HF:=Lib.hid hF
 have HG:=Lib.hid hG
 have HP:=Lib.hid hp1
 clear hI hF hG hp1 hp hr hL1 hL2 hb hN hs1
 go_enter Tryz.func81,Tryz.ntmps81
 go_wp2_with (go_at_call 93;refine (R.out _).mono ?_;rintro e w' ⟨rfl,hw⟩;replace hw:=hw.symm;subst hw)
 go_quiet (fail)
 have hq:Below w.heap.size w (((w.alloc (.cells #[.int .i64 s',.int .i64 (n:Int)] 23)).alloc (.cells #[.int .i64 s',.int .i64 (n:Int)] 23)).drewN nq):=(below_alloc2 _ _ _).trans (below_draws _ _ _)
 generalize ((w.alloc (.cells #[.int .i64 s',.int .i64 (n:Int)] 23)).alloc (.cells #[.int .i64 s',.int .i64 (n:Int)] 23)).drewN nq=W at hq
 go_wp2_with (first
  |(go_at_call 122;refine (HG.out _).mono ?_;rintro e w' ⟨rfl,hw⟩;replace hw:=hw.symm;subst hw)
  |(go_at_call 77;refine (HI.out _ (HP.out _ hq)).mono ?_;rintro e w1 ⟨rfl,hb1⟩)
  |(go_at_call 123;refine (HF.out _ (HP.out _ (hq.trans (hb1.mono hq.size)))).mono ?_;rintro e w2 ⟨rfl,hb2⟩))
 go_ret2
 exact ⟨rfl,hq.trans ((hb1.trans (hb2.mono hb1.size)).mono hq.size)⟩
theorem text_ok (s n:Int) (w:World) (hp:PowLaid w) (hr:rightB s n=true) :
  Calls Tryz.prog 81 #[tmV s n] w fun e w'=>e=.returned (.tuple #[.string (mkS (textL s n)),.nilIface])∧Below w.heap.size w w':=by
 have hb:=rightB_true s n hr
 obtain ⟨m,rfl⟩:=Int.eq_ofNat_of_zero_le hb.2.2.1
 unfold textL
 by_cases h0:0≤s
 ·obtain ⟨k,rfl⟩:=Int.eq_ofNat_of_zero_le h0
  rw [if_pos h0]
  exact text_plus k m w hp hr
 ·obtain ⟨k,hk⟩:=Int.eq_ofNat_of_zero_le (show 0≤-s by omega)
  obtain rfl:s=-(k:Int):=by omega
  rw [if_neg h0]
  by_cases hm:(m:Int)=0
  ·have h:=text_minus k m k 0 w hp hr (by omega) (Or.inl ⟨by omega,rfl,rfl⟩)
   rw [if_pos hm,show (- -(k:Int)).toNat=k by omega]
   rwa [show fracL 0=[] from rfl,List.append_nil] at h
  ·have h:=text_minus k m (k - 1) (1000000000 - m) w hp hr (by omega) (Or.inr ⟨by omega,by omega,by omega⟩)
   rwa [if_neg hm,show (- -(k:Int) - 1).toNat=k - 1 by omega,show (1000000000 - (m:Int)).toNat=1000000000 - m by omega]
end Go.Proofs.YtdjcjaidklgamaaGreatDoor.St
end
section
namespace Go.Proofs.YtdjcjaidklgamaaGreatDoor.St
open Go.RowKit Go.Joins
end Go.Proofs.YtdjcjaidklgamaaGreatDoor.St
end
