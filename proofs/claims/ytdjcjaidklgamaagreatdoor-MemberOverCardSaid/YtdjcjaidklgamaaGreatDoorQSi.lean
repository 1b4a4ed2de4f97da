import Derived.Test.YtdjcjaidklgamaaGreatDoorQSb
import Derived.Test.YtdjcjaidklgamaaGreatDoorQOo
set_option linter.unusedSimpArgs false
set_option linter.unusedVariables false
section
namespace Go.Proofs.YtdjcjaidklgamaaGreatDoor.St
open Go.RowKit Go.Joins
end Go.Proofs.YtdjcjaidklgamaaGreatDoor.St
end
section
namespace Go.Proofs.YtdjcjaidklgamaaGreatDoor.St
theorem dig_not (c d:UInt8) (h:dig c=true) (hd:dig d=false):c≠d:=by rintro rfl;rw [h] at hd;cases hd
theorem split_at (F:List UInt8):∀ (A:List UInt8),A.all dig=true→wholeOf (A++46 :: F)=A∧fracOf (A++46 :: F)=F∧pointOf (A++46 :: F)=true
 | [],_=>⟨rfl,rfl,rfl⟩
 | c :: A,h=>by
  simp only [List.all_cons,Bool.and_eq_true] at h
  have hc:=dig_not c 46 h.1 (by decide)
  obtain ⟨i1,i2,i3⟩:=split_at F A h.2
  refine ⟨?_,?_,?_⟩
  ·simpa [wholeOf,hc] using i1
  ·simpa [fracOf,hc] using i2
  ·simp [pointOf]
theorem no_point (A:List UInt8) (h:A.all dig=true):A.contains 46=false:=by
 rw [List.contains_eq_mem,decide_eq_false_iff_not]
 intro hm
 exact absurd (List.all_eq_true.1 h 46 hm) (by decide)
def sgL (neg:Bool):List UInt8:=if neg then [45] else []
theorem sign_off (neg:Bool) (A:List UInt8) (X:List UInt8) (h:isDig A=true):Lib.hasPrefix (sgL neg++A++X) [45]=neg∧Lib.trimPrefix (sgL neg++A++X) [45]=A++X:=by
 have ha:=Bool.and_eq_true_iff.1 (show (A.all dig&&!decide (A=[]))=true from h)
 cases neg
 ·cases A with
  | nil=>simp at ha
  | cons c A =>
   have hc:dig c=true:=by have:=ha.1;simp only [List.all_cons,Bool.and_eq_true] at this;exact this.1
   have hc2:=dig_not c 45 hc (by decide)
   have:Lib.hasPrefix (sgL false++c :: A++X) [45]=false:=by
    simp [Lib.hasPrefix,sgL,List.isPrefixOf,Ne.symm hc2]
   exact ⟨this,by unfold Lib.trimPrefix;rw [this];rfl⟩
 ·have:Lib.hasPrefix (sgL true++A++X) [45]=true:=by simp [Lib.hasPrefix,sgL,List.isPrefixOf]
  exact ⟨this,by unfold Lib.trimPrefix;rw [this];rfl⟩
theorem parse_whole (neg:Bool) (A:List UInt8) (h:isDig A=true) (hl:(Lib.trimLeftB A 48).length≤15) :
  parseF (sgL neg++A)=timeF neg (valD (Lib.trimLeftB A 48)) 0 false:=by
 obtain ⟨h1,h2⟩:=sign_off neg A [] h
 rw [List.append_nil] at h1 h2
 have ha:=(Bool.and_eq_true_iff.1 (show (A.all dig&&!decide (A=[]))=true from h)).1
 obtain ⟨e1,e2⟩:=whole_no A (no_point A ha)
 have e3:pointOf A=false:=no_point A ha
 unfold parseF
 rw [h1,h2,List.append_nil]
 simp only [e1,e2,e3,h,Bool.not_false,Bool.true_or,Bool.true_and,if_true]
 rw [if_neg (by omega)]
 rfl
theorem parse_point (neg:Bool) (A F:List UInt8) (h:isDig A=true) (hF:isDig F=true) (hl:(Lib.trimLeftB A 48).length≤15) :
  parseF (sgL neg++A++46 :: F)=timeF neg (valD (Lib.trimLeftB A 48)) (nanoD F) (moreD F):=by
 obtain ⟨h1,h2⟩:=sign_off neg A (46 :: F) h
 have ha:=(Bool.and_eq_true_iff.1 (show (A.all dig&&!decide (A=[]))=true from h)).1
 obtain ⟨e1,e2,e3⟩:=split_at F A ha
 unfold parseF
 rw [h1,h2]
 simp only [e1,e2,e3,h,hF,Bool.not_true,Bool.false_or,Bool.true_and,if_true]
 rw [if_neg (by omega)]
theorem valD_zeros (l:List UInt8):valD (Lib.trimLeftB l 48)=valD l:=by
 unfold Lib.trimLeftB
 induction l with
 | nil=>rfl
 | cons c l ih =>
  by_cases hc:c=48
  ·subst hc
   rw [List.dropWhile_cons_of_pos (by rfl),ih]
   rfl
  ·rw [List.dropWhile_cons_of_neg (by simpa using hc)]
theorem valD_dec:∀ (u:Nat),valD (Lib.decDigits u)=(u:Int):=by
 intro u
 induction u using Nat.strongRecOn with
 | ind u ih =>
  by_cases h:u<10
  ·rw [dec_small u h]
   simp only [valD,List.foldl_cons,List.foldl_nil,UInt8.toNat_ofNat'];omega
  ·rw [dec_step u h,valD_snoc,ih (u / 10) (by omega)]
   simp only [UInt8.toNat_ofNat'];omega
theorem valD_digs:∀ (k u:Nat),u<10 ^ k→valD (digs k u)=(u:Int)
 | 0,u,h=>by obtain rfl:u=0:=by simpa using h
             rfl
 | k+1,u,h=>by
  have hp:10 ^ (k+1)=10 * 10 ^ k:=Nat.pow_succ'
  rw [digs,valD_snoc,valD_digs k (u / 10) (by omega)]
  simp only [UInt8.toNat_ofNat'];omega
theorem valD_noughts (x:List UInt8):∀ j,valD (x++List.replicate j 48)=valD x * ((10 ^ j:Nat):Int)
 | 0=>by simp
 | j+1=>by
  rw [List.replicate_succ',← List.append_assoc,valD_snoc,valD_noughts x j,Nat.pow_succ]
  push_cast
  rw [Int.add_zero,Int.mul_comm 10,Int.mul_assoc]
theorem trimR_split:∀ (n:Nat) (x:List UInt8),x.length=n→∃ j,x=Lib.trimRightB x 48++List.replicate j 48
 | 0,x,h=>by obtain rfl:=List.eq_nil_of_length_eq_zero h;exact ⟨0,rfl⟩
 | n+1,x,h=>by
  rcases List.eq_nil_or_concat x with rfl|⟨y,c,rfl⟩
  ·cases h
  ·rw [List.concat_eq_append] at *
   by_cases hc:c=48
   ·subst hc
    obtain ⟨j,hj⟩:=trimR_split n y (by simpa using h)
    have:Lib.trimRightB (y++[48]) 48=Lib.trimRightB y 48:=by unfold Lib.trimRightB;rw [List.reverse_append];rfl
    rw [this]
    exact ⟨j+1,by rw [List.replicate_succ',← List.append_assoc,← hj]⟩
   ·refine ⟨0,?_⟩
    unfold Lib.trimRightB
    rw [List.reverse_append]
    have:(c==48)=false:=by simpa using hc
    simp [this]
theorem all_dec (u:Nat):(Lib.decDigits u).all dig=true:=List.all_eq_true.2 fun c hc=>(dig_iff c).2 (dec_range u c hc)
theorem all_digs (k u:Nat):(digs k u).all dig=true:=List.all_eq_true.2 fun c hc=>(dig_iff c).2 (digs_range k u c hc)
theorem isDig_dec (u:Nat):isDig (Lib.decDigits u)=true:=by
 have h:=dec_pos u
 rw [isDig,all_dec,Bool.true_and]
 cases hd:Lib.decDigits u with
 | nil=>rw [hd] at h;simp at h
 | cons c l=>rfl
theorem trimL_len (l:List UInt8):(Lib.trimLeftB l 48).length≤l.length:=(List.dropWhile_sublist _).length_le
theorem dec_len15 (u:Nat) (h:u≤1099511627776):(Lib.decDigits u).length≤13:=(digs_pad 12 u (by omega)).1
theorem nano_frac (P:Nat) (h:P<1000000000):nanoD (Lib.trimRightB (digs 9 P) 48)=(P:Int)∧moreD (Lib.trimRightB (digs 9 P) 48)=false:=by
 obtain ⟨j,hj⟩:=trimR_split 9 (digs 9 P) (digs_length 9 P)
 have hv:=valD_digs 9 P (by omega)
 have hl:=digs_length 9 P
 generalize digs 9 P=x at *
 generalize Lib.trimRightB x 48=F at *
 have hF:F.length+j=9:=by rw [hj,List.length_append,List.length_replicate] at hl;exact hl
 refine ⟨?_,?_⟩
 ·unfold nanoD
  rw [List.take_of_length_le (by omega),show 9 - F.length=j by omega,← valD_noughts,← hj,hv]
 ·unfold moreD
  rw [List.drop_eq_nil_of_le (by omega)];rfl
theorem trimR_all (x:List UInt8) (h:x.all dig=true):(Lib.trimRightB x 48).all dig=true:=by
 rw [List.all_eq_true] at h ⊢
 intro c hc
 unfold Lib.trimRightB at hc
 exact h c (List.mem_reverse.1 ((List.dropWhile_sublist _).subset (List.mem_reverse.1 hc)))
theorem isDig_frac (P:Nat) (h0:0<P) (h:P<1000000000):isDig (Lib.trimRightB (digs 9 P) 48)=true:=by
 rw [isDig,trimR_all _ (all_digs 9 P),Bool.true_and]
 have hn:=(nano_frac P h).1
 cases hd:Lib.trimRightB (digs 9 P) 48 with
 | nil=>rw [hd] at hn;have:nanoD []=0:=by decide
        omega
 | cons c l=>rfl
theorem parse_made (neg:Bool) (S P:Nat) (hS:S≤1099511627776) (hP:P<1000000000) :
  parseF (sgL neg++Lib.decDigits S++fracL P)=timeF neg S P false:=by
 have hl:(Lib.trimLeftB (Lib.decDigits S) 48).length≤15:=Nat.le_trans (trimL_len _) (by have:=dec_len15 S hS;omega)
 rcases Nat.eq_zero_or_pos P with rfl|h0
 ·have h:=parse_whole neg (Lib.decDigits S) (isDig_dec S) hl
  rw [valD_zeros,valD_dec] at h
  rw [show fracL 0=[] from rfl,List.append_nil]
  exact h
 ·have h:=parse_point neg (Lib.decDigits S) (Lib.trimRightB (digs 9 P) 48) (isDig_dec S) (isDig_frac P h0 hP) hl
  rw [valD_zeros,valD_dec,(nano_frac P hP).1,(nano_frac P hP).2] at h
  unfold fracL
  rw [if_neg (by omega)]
  exact h
theorem text_parts (s n:Int) (hr:rightB s n=true):∃ (neg:Bool) (S P:Nat),S≤1099511627776∧P<1000000000∧textL s n=sgL neg++Lib.decDigits S++fracL P ∧
  ((neg=false∧s=S∧n=P)∨(neg=true∧s<0∧P=0∧n=0∧s=-(S:Int))∨(neg=true∧s<0∧0<P∧n=1000000000 - (P:Int)∧s=-(S:Int) - 1)):=by
 have hb:=rightB_true s n hr
 unfold textL
 by_cases h0:0≤s
 ·rw [if_pos h0]
  exact ⟨false,s.toNat,n.toNat,by omega,by omega,rfl,Or.inl ⟨rfl,by omega,by omega⟩⟩
 ·rw [if_neg h0]
  by_cases hm:n=0
  ·rw [if_pos hm]
   exact ⟨true,(-s).toNat,0,by omega,by omega,by rw [show fracL 0=[] from rfl,List.append_nil];rfl,Or.inr (Or.inl ⟨rfl,by omega,rfl,hm,by omega⟩)⟩
  ·rw [if_neg hm]
   exact ⟨true,(-s - 1).toNat,(1000000000 - n).toNat,by omega,by omega,rfl,Or.inr (Or.inr ⟨rfl,by omega,by omega,by omega,by omega⟩)⟩
theorem parse_text (s n:Int) (hr:rightB s n=true):parseF (textL s n)=(0,s,n):=by
 obtain ⟨neg,S,P,hS,hP,ht,hc⟩:=text_parts s n hr
 rw [ht,parse_made neg S P hS hP]
 unfold timeF
 rcases hc with ⟨rfl,rfl,rfl⟩|⟨rfl,h1,rfl,rfl,rfl⟩|⟨rfl,h1,h2,rfl,rfl⟩
 ·simp [hr]
 ·simp only [Bool.and_false,Bool.false_eq_true,if_false,if_true]
  rw [show negS (S:Int) ((0:Nat):Int)=-(S:Int) from rfl,show negN ((0:Nat):Int)=0 from rfl,if_pos hr]
 ·simp only [Bool.and_false,Bool.false_eq_true,if_false,if_true]
  rw [show negS (S:Int) (P:Int)=-(S:Int) - 1 by unfold negS;rw [if_neg (by omega)],show negN (P:Int)=1000000000 - (P:Int) by unfold negN;rw [if_neg (by omega)],if_pos hr]
end Go.Proofs.YtdjcjaidklgamaaGreatDoor.St
end
