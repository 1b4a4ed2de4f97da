import Derived.Test.YtdjcjaidklgamaaGreatDoorQPb
import Derived.Test.YtdjcjaidklgamaaGreatDoorQShelf
import Derived.Lib.Bytealg
import Derived.Lib.AtoiErrMem
import Derived.Lib.AtoiAllCases
import Derived.RangeFuncNested
import Derived.RangeFuncBox
import Derived.RangeFuncBound
import Derived.RangeFuncCalls
import Derived.RangeFuncLeaves
import Derived.Shelf.Abstract
import Derived.OwnWalkIn
import Derived.TacticsInMore
import Derived.LoopNIn
import Derived.LoopIn
import Derived.Maps.AppendAt
set_option linter.unusedSimpArgs false
set_option linter.unusedVariables false
section
namespace Go.Proofs.YtdjcjaidklgamaaGreatDoor.Px
open Go.RowKit Go.Joins
theorem dec_inj:∀ (a b:Nat),Lib.decDigits a=Lib.decDigits b→a=b:=by
 intro a
 induction a using Nat.strongRecOn with
 | ind a ih =>
  intro b h
  by_cases ha:a<10
  ·by_cases hb:b<10
   ·rw [dec_small a ha,dec_small b hb] at h
    have:=congrArg UInt8.toNat (List.cons.inj h).1
    simp only [UInt8.toNat_ofNat'] at this
    omega
   ·rw [dec_small a ha,dec_step b hb] at h
    have:=congrArg List.length h
    simp at this
    have:=dec_pos (b / 10)
    simp_all
  ·by_cases hb:b<10
   ·rw [dec_small b hb,dec_step a ha] at h
    have:=congrArg List.length h
    simp at this
    have:=dec_pos (a / 10)
    simp_all
   ·rw [dec_step a ha,dec_step b hb] at h
    obtain ⟨h1,h2⟩:=List.append_inj' h rfl
    have h3:=ih (a / 10) (by omega) (b / 10) h1
    have h4:=congrArg UInt8.toNat (List.cons.inj h2).1
    simp only [UInt8.toNat_ofNat'] at h4
    omega
theorem dec_no (c:UInt8) (hc:c.toNat<48∨57<c.toNat) (n:Nat):∀ x∈Lib.decDigits n,(x != c)=true:=fun x hx=>by
 have:=dec_range n x hx
 simp only [bne_iff_ne,ne_eq]
 rintro rfl
 omega
theorem takeWhile_stop (p:UInt8→Bool) (c:UInt8) (hc:p c=false):∀ (a b:List UInt8),(∀ x∈a,p x=true)→(a++c :: b).takeWhile p=a∧(a++c :: b).dropWhile p=c :: b
 | [],b,_=>by simp [hc]
 | x :: a,b,h=>by
  obtain ⟨h1,h2⟩:=takeWhile_stop p c hc a b fun y hy=>h y (List.mem_cons_of_mem _ hy)
  simp [h x (List.mem_cons_self ..),h1,h2]
theorem key_no (k v:List UInt8) (h:rightP k v=true):∀ x∈k,(x != 61)=true:=fun x hx=>by
 have h2:=(rightP_true k v h).2.1
 rw [hasBad_eq,Bool.or_eq_false_iff] at h2
 simp only [bne_iff_ne,ne_eq]
 rintro rfl
 have:=List.contains_iff_mem.2 hx
 rw [h2.1] at this
 cases this
def Begins (u k v:List UInt8):Prop:=rightP k v=true∧recL k v <+: u
def Nx (u:List UInt8):Prop:=∃ k v,Begins u k v
theorem begins_head (u k v:List UInt8) (h:Begins u k v):u.takeWhile (· != 32)=Lib.decDigits (lenOf (k.length+v.length+3)):=by
 obtain ⟨r,hr⟩:=h.2
 rw [← hr]
 unfold recL restL
 rw [List.append_assoc,List.cons_append]
 exact (takeWhile_stop _ 32 rfl _ _ (dec_no 32 (by decide) _)).1
theorem begins_one (u k v k' v':List UInt8) (h:Begins u k v) (h':Begins u k' v'):k=k'∧v=v':=by
 have e1:=dec_inj _ _ ((begins_head u k v h).symm.trans (begins_head u k' v' h'))
 have l1:=recL_length k v (rightP_true k v h.1).2.2
 have l2:=recL_length k' v' (rightP_true k' v' h'.1).2.2
 have e2:recL k v=recL k' v':=(List.prefix_of_prefix_length_le h.2 h'.2 (by omega)).eq_of_length (by omega)
 unfold recL at e2
 rw [e1] at e2
 have e3:=List.append_cancel_left e2
 unfold restL at e3
 have e4:=(List.cons.inj e3).2
 have t1:=takeWhile_stop (· != 61) 61 rfl k (v++[10]) (key_no k v h.1)
 have t2:=takeWhile_stop (· != 61) 61 rfl k' (v'++[10]) (key_no k' v' h'.1)
 rw [e4] at t1
 have hk:k=k':=t1.1.symm.trans t2.1
 have e5:=t1.2.symm.trans t2.2
 exact ⟨hk,List.append_cancel_right (List.cons.inj e5).2⟩
theorem recL_pos (k v:List UInt8):1≤(recL k v).length:=by
 unfold recL;rw [List.length_append,restL_length];omega
def ReadIs (s:List UInt8) (M:List (List UInt8 × List UInt8)) (bad:Bool):Prop :=
 (∀ p∈M,rightP p.1 p.2=true)∧recsL M <+: s∧(bad=false→recsL M=s)∧(bad=true→(recsL M).length<s.length∧¬ Nx (s.drop (recsL M).length))
theorem recsL_cons (p:List UInt8 × List UInt8) (M:List (List UInt8 × List UInt8)):recsL (p :: M)=recL p.1 p.2++recsL M:=by
 unfold recsL;rw [List.flatMap_cons]
theorem read_is:∀ (n:Nat) (s:List UInt8),s.length≤n→∃ M bad,ReadIs s M bad:=by
 intro n
 induction n with
 | zero =>
  intro s hs
  obtain rfl:s=[]:=List.length_eq_zero_iff.1 (by omega)
  exact ⟨[],false,fun p hp=>by simp at hp,List.prefix_refl _,fun _=>rfl,fun h=>by cases h⟩
 | succ n ih =>
  intro s hs
  by_cases hN:Nx s
  ·obtain ⟨k,v,hr,r,rfl⟩:=hN
   have hp:=recL_pos k v
   obtain ⟨M,bad,h1,h2,h3,h4⟩:=ih r (by rw [List.length_append] at hs;omega)
   refine ⟨(k,v) :: M,bad,fun p hp=>?_,?_,fun hb=>?_,fun hb=>?_⟩
   ·rcases List.mem_cons.1 hp with rfl|hp
    ·exact hr
    ·exact h1 p hp
   ·rw [recsL_cons];exact (List.prefix_append_right_inj _).2 h2
   ·rw [recsL_cons,h3 hb]
   ·obtain ⟨h5,h6⟩:=h4 hb
    rw [recsL_cons,List.length_append,List.length_append]
    refine ⟨by show (recL k v).length+_<_;omega,?_⟩
    show ¬ Nx (((recL k v)++r).drop ((recL k v).length+(recsL M).length))
    rw [← List.drop_drop,List.drop_left]
    exact h6
  ·cases s with
   | nil=>exact ⟨[],false,fun p hp=>by simp at hp,List.prefix_refl _,fun _=>rfl,fun h=>by cases h⟩
   | cons c s=>exact ⟨[],true,fun p hp=>by simp at hp,List.nil_prefix,fun h=>by (cases h),fun _=>⟨by simp [recsL],by simpa [recsL] using hN⟩⟩
def offL (M:List (List UInt8 × List UInt8)) (i:Nat):Nat:=(recsL (M.take i)).length
theorem offL_succ (M:List (List UInt8 × List UInt8)) (i:Nat) (p:List UInt8 × List UInt8) (h:M[i]?=some p):offL M (i+1)=offL M i+(recL p.1 p.2).length:=by
 unfold offL;rw [recsL_take M i p h,List.length_append]
theorem read_at (s:List UInt8) (M:List (List UInt8 × List UInt8)) (bad:Bool) (h:ReadIs s M bad) (i:Nat) (p:List UInt8 × List UInt8) (hp:M[i]?=some p):Begins (s.drop (offL M i)) p.1 p.2∧offL M i<s.length:=by
 obtain ⟨h1,h2,_⟩:=h
 have hM:M=M.take i++p :: M.drop (i+1):=by
  obtain ⟨hi,hpe⟩:=List.getElem?_eq_some_iff.1 hp
  rw [← hpe,← List.drop_eq_getElem_cons hi,List.take_append_drop]
 have hR:recsL M=recsL (M.take i)++(recL p.1 p.2++recsL (M.drop (i+1))):=by
  rw [← recsL_cons]
  conv=>lhs;rw [hM]
  unfold recsL;rw [List.flatMap_append]
 obtain ⟨r,hr⟩:=h2
 rw [hR] at hr
 have hpos:=recL_pos p.1 p.2
 refine ⟨⟨h1 p (List.mem_of_getElem? hp),⟨recsL (M.drop (i+1))++r,?_⟩⟩,?_⟩
 ·unfold offL
  rw [← hr,List.append_assoc,List.drop_left,List.append_assoc]
 ·unfold offL
  rw [← hr]
  simp only [List.length_append]
  omega
theorem offL_all (M:List (List UInt8 × List UInt8)):offL M M.length=(recsL M).length:=by unfold offL;rw [List.take_length]
end Go.Proofs.YtdjcjaidklgamaaGreatDoor.Px
end
section
namespace Go.Proofs.YtdjcjaidklgamaaGreatDoor.Px
open Go.RowKit Go.Joins
def wholeOf (c:UInt8) (u:List UInt8):List UInt8:=u.takeWhile (· != c)
def fracOf (c:UInt8) (u:List UInt8):List UInt8:=(u.dropWhile (· != c)).drop 1
def pointOf (c:UInt8) (u:List UInt8):Bool:=u.contains c
theorem index_no (c:UInt8):∀ (u:List UInt8),u.contains c=false→Lib.indexByte u c=-1
 | [],_=>rfl
 | b :: u,h=>by
  rw [List.contains_cons,Bool.or_eq_false_iff] at h
  have hb:(b==c)=false:=by rw [Bool.beq_comm];exact h.1
  rw [Lib.indexByte,hb,index_no c u h.2];rfl
theorem index_yes (c:UInt8):∀ (u:List UInt8),u.contains c=true→Lib.indexByte u c=((wholeOf c u).length:Int)∧u=wholeOf c u++c :: fracOf c u
 | [],h=>by cases h
 | b :: u,h=>by
  by_cases hb:b=c
  ·subst hb
   exact ⟨by simp [wholeOf,Lib.indexByte],by simp [wholeOf,fracOf]⟩
  ·have hb':(b==c)=false:=by simpa using hb
   rw [List.contains_cons,show (c==b)=false by rw [Bool.beq_comm];exact hb',Bool.false_or] at h
   obtain ⟨i1,i2⟩:=index_yes c u h
   have e1:wholeOf c (b :: u)=b :: wholeOf c u:=by simp [wholeOf,hb]
   have e2:fracOf c (b :: u)=fracOf c u:=by simp [fracOf,hb]
   rw [e1,e2,Lib.indexByte,hb',i1]
   refine ⟨?_,by rw [List.cons_append,← i2]⟩
   rw [if_neg (by simp),if_neg (by simp)]
   rfl
theorem whole_no (c:UInt8):∀ (u:List UInt8),u.contains c=false→wholeOf c u=u∧fracOf c u=[]
 | [],_=>⟨rfl,rfl⟩
 | b :: u,h=>by
  rw [List.contains_cons,Bool.or_eq_false_iff] at h
  have hb:¬ b=c:=by intro e;subst e;simp at h
  obtain ⟨i1,i2⟩:=whole_no c u h.2
  exact ⟨by simp [wholeOf,hb];exact i1,by simp [fracOf,hb];simpa [fracOf] using i2⟩
theorem indexLite (c:UInt8) (u:List UInt8) (w:World) :
  Calls Tryz.prog 171 #[.string (mkS u),.string { data:=#[c] }] w fun e w'=>e=.returned (.int .i64 (Lib.indexByte u c))∧w'=w:=by
 have h:=Tryz.stringslite_Index_one (mkS u) c w
 rwa [mkS_list] at h
theorem cutLite (c:UInt8) (u:List UInt8) (w:World) (hl:u.length≤6000) :
  Calls Tryz.prog 157 #[.string (mkS u),.string { data:=#[c] }] w fun e w'=>e=.returned (.tuple #[.string (mkS (wholeOf c u)),.string (mkS (fracOf c u)),.bool (pointOf c u)])∧∃ n,w'=w.drewN n:=by
 have hI:=Lib.hid (fun w=>indexLite c u w)
 cases hp:u.contains c
 ·rw [index_no c u hp] at hI
  obtain ⟨e1,e2⟩:=whole_no c u hp
  have e3:pointOf c u=false:=hp
  rw [e1,e2,e3]
  clear e1 e2 e3 hp
  go_enter Tryz.func157,Tryz.ntmps157
  go_wp2_with (go_at_call 171;refine (hI.out _).mono ?_;rintro e w' ⟨rfl,hw⟩;replace hw:=hw.symm;subst hw)
  refine bodyPost_ret (results_tmp3 rfl _ _ _) rfl ?_
  exact ⟨rfl,0,rfl⟩
 ·obtain ⟨i1,i2⟩:=index_yes c u hp
  rw [i1] at hI
  have e3:pointOf c u=true:=hp
  rw [e3]
  have hlen:(wholeOf c u).length+1+(fracOf c u).length=u.length:=by
   have:=congrArg List.length i2
   simp at this;omega
  have t1:u.take (wholeOf c u).length=wholeOf c u:=by
   have:=congrArg (List.take (wholeOf c u).length) i2
   rwa [List.take_left'] at this;rfl
  have t2:u.drop ((wholeOf c u).length+1)=fracOf c u:=by
   have:=congrArg (List.drop ((wholeOf c u).length+1)) i2
   rw [this,← List.drop_drop,List.drop_left']
   ·rfl
   ·rfl
  have s1:=fun w=>mkS_upto u (wholeOf c u).length (by omega) w
  have s2:=fun w=>mkS_onward u ((wholeOf c u).length+1) (by omega) w
  rw [t1] at s1
  rw [t2] at s2
  clear i1 i2 e3 hp t1 t2
  generalize hk:(wholeOf c u).length=k at *
  generalize wholeOf c u=a at *
  generalize fracOf c u=b at *
  have hk1:k+1≤6000:=by omega
  simp only [Int.natCast_add,Int.natCast_one] at s2
  clear hk hlen hl
  go_enter Tryz.func157,Tryz.ntmps157
  go_wp2_with (go_at_call 171;refine (hI.out _).mono ?_;rintro e w' ⟨rfl,hw⟩;replace hw:=hw.symm;subst hw)
  go_quiet (fail)
  go_wp2
  refine bodyPost_ret (results_tmp3 rfl _ _ _) rfl ?_
  exact ⟨rfl,nq,rfl⟩
theorem cut_any (c:UInt8) (u:List UInt8) (w:World) (hl:u.length≤6000) :
  Calls Tryz.prog 127 #[.string (mkS u),.string { data:=#[c] }] w fun e w'=>e=.returned (.tuple #[.string (mkS (wholeOf c u)),.string (mkS (fracOf c u)),.bool (pointOf c u)])∧∃ n,w'=w.drewN n:=by
 have hC:=Lib.hid (cutLite c u w hl)
 go_enter Tryz.func127,Tryz.ntmps127
 go_wp2_with (go_at_call 157;refine hC.out.mono ?_;rintro e w' ⟨rfl,n,rfl⟩)
 refine bodyPost_ret (results_tmp3 rfl _ _ _) rfl ?_
 exact ⟨rfl,n,rfl⟩
end Go.Proofs.YtdjcjaidklgamaaGreatDoor.Px
end
section
namespace Go.Proofs.YtdjcjaidklgamaaGreatDoor.Px
open Go.RowKit Go.Joins
def AtoiLaid (w:World):Prop:=(∃ te pe,w.cell? ⟨7,0,none⟩=some (.iface te pe))∧(∃ te pe,w.cell? ⟨8,0,none⟩=some (.iface te pe))
theorem lt_of_cell {w:World} {b o:Nat} {v:Value} (h:w.cell? ⟨b,o,none⟩=some v):b<w.heap.size:=by
 rcases Nat.lt_or_ge b w.heap.size with h0|h0
 ·exact h0
 ·simp [World.cell?,Array.getElem?_eq_none h0] at h
theorem AtoiLaid.below {w w':World} (h:AtoiLaid w) (hb:Below w.heap.size w w'):AtoiLaid w':=by
 obtain ⟨⟨t1,p1,h1⟩,t2,p2,h2⟩:=h
 exact ⟨⟨t1,p1,(hb.cell (p:=⟨7,0,none⟩) (lt_of_cell h1)).trans h1⟩,t2,p2,(hb.cell (p:=⟨8,0,none⟩) (lt_of_cell h2)).trans h2⟩
theorem atoi_any (l:List UInt8) (hl:l.length≤100000) (w:World) (hA:AtoiLaid w) :
  Calls Tryz.prog 190 #[.string (mkS l)] w fun e w'=>((∃ v,Lib.atoiAll l=.ok v∧e=.returned (.tuple #[.int .i64 v,.nilIface]))∨((∀ v,Lib.atoiAll l≠.ok v)∧∃ v te pe,e=.returned (.tuple #[.int .i64 v,.iface te pe])))∧Below w.heap.size w w':=by
 have hs:=mkS_size l
 have hd:=mkS_list l
 obtain ⟨⟨t1,p1,h1⟩,t2,p2,h2⟩:=hA
 cases hc:Lib.atoiAll l
 ·rename_i v
  refine (Any.strconv_Atoi_ok Tryz.laysC172 (mkS l) (by omega) v (by rw [hd];exact hc) w).mono fun e w' ⟨he,hw⟩=>⟨Or.inl ⟨v,rfl,he⟩,?_⟩
  rcases hw with rfl|⟨t,rfl⟩
  ·exact Below.refl _ _
  ·exact Go.Joins.below_bytesWorld _ _ _ _ (Nat.le_refl _)
 ·exact (Any.strconv_Atoi_syntax Tryz.laysC172 (mkS l) (by omega) (by rw [hd];exact hc) (.iface t1 p1) w h1 (Or.inr ⟨_,_,rfl⟩)).mono fun e w' ⟨_,he,_,_,hb⟩=>⟨Or.inr ⟨(fun v h=>nomatch h),_,_,_,he⟩,hb⟩
 ·exact (Any.strconv_Atoi_range Tryz.laysC172 (mkS l) (by omega) (by rw [hd];exact hc) (.iface t2 p2) w h2 (Or.inr ⟨_,_,rfl⟩)).mono fun e w' ⟨_,he,_,_,hb⟩=>⟨Or.inr ⟨(fun v h=>nomatch h),_,_,_,he⟩,hb⟩
theorem parse_snoc (d:UInt8) (h1:48≤d.toNat) (h2:d.toNat≤57):∀ (a:List UInt8) (acc u:Nat),Lib.parseUint10 acc a=.ok u→u<1000000000000→Lib.parseUint10 acc (a++[d])=.ok (u * 10+(d.toNat - 48))
 | [],acc,u,h,hu=>by
  simp only [Lib.parseUint10] at h
  injection h with h
  subst h
  simp only [List.nil_append,Lib.parseUint10]
  rw [if_pos ⟨h1,h2⟩,if_neg (by omega),if_neg (by omega)]
 | c :: r,acc,u,h,hu=>by
  simp only [Lib.parseUint10] at h
  simp only [List.cons_append,Lib.parseUint10]
  split at h
  ·next hc =>
   rw [if_pos hc]
   split at h
   ·cases h
   ·next h3 =>
    rw [if_neg h3]
    split at h
    ·cases h
    ·next h4 =>
     rw [if_neg h4]
     exact parse_snoc d h1 h2 r _ u h hu
  ·cases h
theorem dec_parse:∀ (n:Nat),n<1000000→Lib.parseUint10 0 (Lib.decDigits n)=.ok n:=by
 intro n
 induction n using Nat.strongRecOn with
 | ind n ih =>
  intro hn
  by_cases h:n<10
  ·rw [dec_small n h]
   have e:(UInt8.ofNat (48+n)).toNat=48+n:=by simp only [UInt8.toNat_ofNat'];omega
   simp only [Lib.parseUint10,e]
   rw [if_pos ⟨by omega,by omega⟩,if_neg (by omega),if_neg (by omega)]
   congr 1;omega
  ·rw [dec_step n h]
   have e:(UInt8.ofNat (48+n % 10)).toNat=48+n % 10:=by simp only [UInt8.toNat_ofNat'];omega
   rw [parse_snoc _ (by omega) (by omega) _ 0 (n / 10) (ih (n / 10) (by omega) (by omega)) (by omega),e]
   congr 1;omega
theorem dec_atoi (n:Nat) (h:n<1000000):Lib.atoiAll (Lib.decDigits n)=.ok (n:Int):=by
 have hp:=dec_parse n h
 have hr:=dec_range n
 have hl:=dec_pos n
 cases hd:Lib.decDigits n with
 | nil=>rw [hd] at hl;simp at hl
 | cons c r =>
  rw [hd] at hp hr
  have hc:=hr c (List.mem_cons_self ..)
  rw [Lib.atoiAll_plain c r (by omega) (by omega)]
  unfold Lib.parseMag
  rw [if_neg (by simp),hp]
  simp only [Lib.signless]
  rw [if_neg (by omega)]
def FirstIs (u:List UInt8) (e:Ending):Prop :=
 (∃ k v,Begins u k v∧e=.returned (.tuple #[prV k v,.int .i64 ((recL k v).length:Int)]))∨(¬ Nx u∧e=.returned (.tuple #[prV [] [],.int .i64 0]))
def PairRow (W:World) (b:Nat):Prop:=b<W.heap.size∧W.cell? ⟨b,0,none⟩=some (.string { data:=#[] })∧W.cell? ⟨b,1,none⟩=some (.string { data:=#[] })∧W.frozen? ⟨b,0,none⟩=false∧W.frozen? ⟨b,1,none⟩=false
theorem PairRow.new (w:World):PairRow (w.alloc (.cells #[.string { data:=#[] },.string { data:=#[] }] 43)) w.heap.size:=⟨by simp,by simp,by simp,by simp,by simp⟩
theorem PairRow.below {W W':World} {b:Nat} (h:PairRow W b) (hb:Below W.heap.size W W'):PairRow W' b :=
 ⟨Nat.lt_of_lt_of_le h.1 hb.size,(hb.cell (p:=⟨b,0,none⟩) h.1).trans h.2.1,(hb.cell (p:=⟨b,1,none⟩) h.1).trans h.2.2.1,(hb.frozen (p:=⟨b,0,none⟩) h.1).trans h.2.2.2.1,(hb.frozen (p:=⟨b,1,none⟩) h.1).trans h.2.2.2.2⟩
theorem PairRow.put {W:World} {b:Nat} (h:PairRow W b) (x y:ByteArray) :
  ((W.setCell ⟨b,0,none⟩ (.string x)).setCell ⟨b,1,none⟩ (.string y)).cell? ⟨b,0,none⟩=some (.string x)∧((W.setCell ⟨b,0,none⟩ (.string x)).setCell ⟨b,1,none⟩ (.string y)).cell? ⟨b,1,none⟩=some (.string y):=by
 obtain ⟨h0,h1,h2,_⟩:=h
 have e1:(W.setCell ⟨b,0,none⟩ (.string x)).cell? ⟨b,0,none⟩=some (.string x):=World.cell?_setCell_same' _ _ _ (by rw [h1];rfl)
 have e2:(W.setCell ⟨b,0,none⟩ (.string x)).cell? ⟨b,1,none⟩=some (.string { data:=#[] }):=by rw [World.cell?_setCell_other _ _ _ _ (by simp)];exact h2
 exact ⟨by rw [World.cell?_setCell_other _ _ _ _ (by simp)];exact e1,World.cell?_setCell_same' _ _ _ (by rw [e2];rfl)⟩
theorem PairRow.base {w W:World} (hb:Below (w.alloc (.cells #[.string { data:=#[] },.string { data:=#[] }] 43)).heap.size (w.alloc (.cells #[.string { data:=#[] },.string { data:=#[] }] 43)) W):PairRow W w.heap.size∧Below w.heap.size w W :=
 ⟨(PairRow.new w).below hb,(below_alloc1 w _).trans (hb.mono (below_alloc1 w _).size)⟩
abbrev baseW (w:World):World:=w.alloc (.cells #[.string { data:=#[] },.string { data:=#[] }] 43)
set_option maxRecDepth 100000 in
set_option maxHeartbeats 4000000 in
theorem first_err (u:List UInt8) (hu:u.length≤6000) (w:World) (hA:AtoiLaid w) (hv:∀ v,Lib.atoiAll (wholeOf 32 u)≠.ok v) :
  Calls Tryz.prog 182 #[.string (mkS u)] w fun e w'=>e=.returned (.tuple #[prV [] [],.int .i64 0])∧Below w.heap.size w w':=by
 have C1:=Lib.hid (fun w=>cut_any 32 u w (by omega))
 have hD:(wholeOf 32 u).length≤u.length:=(List.takeWhile_sublist _).length_le
 have A1:=Lib.hid (show ∀ W,Below (baseW w).heap.size (baseW w) W→Calls Tryz.prog 190 #[.string (mkS (wholeOf 32 u))] W fun e w'=>(∃ v te pe,e=.returned (.tuple #[.int .i64 v,.iface te pe]))∧(PairRow w' w.heap.size∧Below w.heap.size w w') from fun W hb =>
  (atoi_any (wholeOf 32 u) (by omega) W (hA.below (PairRow.base hb).2)).mono fun e w' ⟨h1,h2⟩=>by
   refine ⟨?_,PairRow.base (hb.trans (h2.mono hb.size))⟩
   rcases h1 with ⟨v,h,_⟩|⟨_,h⟩
   ·exact absurd h (hv v)
   ·exact h)
 clear hA hv hD
 generalize wholeOf 32 u=D at *
 go_enter Tryz.func182,Tryz.ntmps182
 go_wp2_with (first
  |(go_at_call 127;with_reducible refine (C1.out _).mono ?_;rintro e w1 ⟨rfl,n1,rfl⟩)
  |(go_at_call 190;refine (A1.out _ (below_draws _ _ _)).mono ?_;rintro e w2 ⟨⟨v,te,pe,rfl⟩,hF,hB⟩;obtain ⟨f0,f1,f2,f3,f4⟩:=id hF))
 obtain ⟨g0,g1⟩:=hF.put { data:=#[] } { data:=#[] }
 refine bodyPost_ret (v:=.tuple #[prV [] [],.int .i64 0]) (by simp [results,Tryz.results182,go_sem,g0,g1];rfl) rfl ⟨rfl,below_store (below_store hB _ _ (Nat.le_refl _) _) _ _ (Nat.le_refl _) _⟩
set_option maxRecDepth 100000 in
set_option maxHeartbeats 4000000 in
theorem first_short (u:List UInt8) (hu:u.length≤6000) (w:World) (hA:AtoiLaid w) (v:Int) (hv:Lib.atoiAll (wholeOf 32 u)=.ok v) (hs:v<((wholeOf 32 u).length:Int)+2∨(u.length:Int)<v) :
  Calls Tryz.prog 182 #[.string (mkS u)] w fun e w'=>e=.returned (.tuple #[prV [] [],.int .i64 0])∧Below w.heap.size w w':=by
 have C1:=Lib.hid (fun w=>cut_any 32 u w (by omega))
 have hD:(wholeOf 32 u).length≤u.length:=(List.takeWhile_sublist _).length_le
 have z1:=mkS_size u
 have z2:=mkS_size (wholeOf 32 u)
 have A1:=Lib.hid (show ∀ W,Below (baseW w).heap.size (baseW w) W→Calls Tryz.prog 190 #[.string (mkS (wholeOf 32 u))] W fun e w'=>e=.returned (.tuple #[.int .i64 v,.nilIface])∧(PairRow w' w.heap.size∧Below w.heap.size w w') from fun W hb =>
  (atoi_any (wholeOf 32 u) (by omega) W (hA.below (PairRow.base hb).2)).mono fun e w' ⟨h1,h2⟩=>by
   refine ⟨?_,PairRow.base (hb.trans (h2.mono hb.size))⟩
   rcases h1 with ⟨v',h,he⟩|⟨h,_⟩
   ·rw [hv] at h;cases h;exact he
   ·exact absurd hv (h v))
 clear hA hv
 generalize wholeOf 32 u=D at *
 by_cases h1:v<(D.length:Int)+2
 ·clear hs
  go_enter Tryz.func182,Tryz.ntmps182
  go_wp2_with (first
   |(go_at_call 127;with_reducible refine (C1.out _).mono ?_;rintro e w1 ⟨rfl,n1,rfl⟩)
   |(go_at_call 190;refine (A1.out _ (below_draws _ _ _)).mono ?_;rintro e w2 ⟨rfl,hF,hB⟩;obtain ⟨f0,f1,f2,f3,f4⟩:=id hF))
  obtain ⟨g0,g1⟩:=hF.put { data:=#[] } { data:=#[] }
  refine bodyPost_ret (v:=.tuple #[prV [] [],.int .i64 0]) (by simp [results,Tryz.results182,go_sem,g0,g1];rfl) rfl ⟨rfl,below_store (below_store hB _ _ (Nat.le_refl _) _) _ _ (Nat.le_refl _) _⟩
 ·have h2:(u.length:Int)<v:=by omega
  clear hs
  go_enter Tryz.func182,Tryz.ntmps182
  go_wp2_with (first
   |(go_at_call 127;with_reducible refine (C1.out _).mono ?_;rintro e w1 ⟨rfl,n1,rfl⟩)
   |(go_at_call 190;refine (A1.out _ (below_draws _ _ _)).mono ?_;rintro e w2 ⟨rfl,hF,hB⟩;obtain ⟨f0,f1,f2,f3,f4⟩:=id hF))
  obtain ⟨g0,g1⟩:=hF.put { data:=#[] } { data:=#[] }
  refine bodyPost_ret (v:=.tuple #[prV [] [],.int .i64 0]) (by simp [results,Tryz.results182,go_sem,g0,g1];rfl) rfl ⟨rfl,below_store (below_store hB _ _ (Nat.le_refl _) _) _ _ (Nat.le_refl _) _⟩
def midL (u:List UInt8) (n:Nat):List UInt8:=(u.drop ((wholeOf 32 u).length+1)).take (n - 1 - ((wholeOf 32 u).length+1))
set_option maxRecDepth 100000 in
set_option maxHeartbeats 4000000 in
theorem first_go (u:List UInt8) (hu:u.length≤6000) (w:World) (hp:PowLaid w) (hA:AtoiLaid w) (n:Nat) (hv:Lib.atoiAll (wholeOf 32 u)=.ok (n:Int)) (h1:(wholeOf 32 u).length+2≤n) (h2:n≤u.length) :
  Calls Tryz.prog 182 #[.string (mkS u)] w fun e w' =>
   ((rightP (wholeOf 61 (midL u n)) (fracOf 61 (midL u n))=true∧recL (wholeOf 61 (midL u n)) (fracOf 61 (midL u n))=u.take n∧e=.returned (.tuple #[prV (wholeOf 61 (midL u n)) (fracOf 61 (midL u n)),.int .i64 n])) ∨
    (¬ (rightP (wholeOf 61 (midL u n)) (fracOf 61 (midL u n))=true∧recL (wholeOf 61 (midL u n)) (fracOf 61 (midL u n))=u.take n)∧e=.returned (.tuple #[prV [] [],.int .i64 0])))∧Below w.heap.size w w':=by
 have C1:=Lib.hid (fun w=>cut_any 32 u w (by omega))
 have hm:(midL u n).length≤6000:=by unfold midL;simp only [List.length_take,List.length_drop];omega
 have C2:=Lib.hid (fun w=>cut_any 61 (midL u n) w hm)
 have z1:=mkS_size u
 have z2:=mkS_size (wholeOf 32 u)
 have A1:=Lib.hid (show ∀ W,Below (baseW w).heap.size (baseW w) W→Calls Tryz.prog 190 #[.string (mkS (wholeOf 32 u))] W fun e w'=>e=.returned (.tuple #[.int .i64 (n:Int),.nilIface])∧Below (baseW w).heap.size (baseW w) w' from fun W hb =>
  (atoi_any (wholeOf 32 u) (by omega) W (hA.below (PairRow.base hb).2)).mono fun e w' ⟨h1,h2⟩=>by
   refine ⟨?_,hb.trans (h2.mono hb.size)⟩
   rcases h1 with ⟨v',h,he⟩|⟨h,_⟩
   ·rw [hv] at h;cases h;exact he
   ·exact absurd hv (h n))
 have S1:∀ W,(Instr.slice 9 (.string (mkS u)) (some (.int .i64 (((wholeOf 32 u).length:Int)+1))) (some (.int .i64 ((n:Int) - 1))) none).run Tryz.prog W=.ok (.string (mkS (midL u n))) W:=fun W=>by
  have h:=mkS_mid u ((wholeOf 32 u).length+1) (n - 1) (by omega) (by omega) W
  rwa [show (((n - 1:Nat):Int))=(n:Int) - 1 by omega,show ((((wholeOf 32 u).length+1:Nat)):Int)=((wholeOf 32 u).length:Int)+1 by omega] at h
 have S2:∀ W,(Instr.slice 9 (.string (mkS u)) none (some (.int .i64 (n:Int))) none).run Tryz.prog W=.ok (.string (mkS (u.take n))) W:=fun W=>mkS_upto u n h2 W
 have HP:=Lib.hid (show ∀ W,Below (baseW w).heap.size (baseW w) W→PowLaid W from fun W hb=>hp.below (PairRow.base hb).2)
 have hk:(wholeOf 61 (midL u n)).length≤6000:=Nat.le_trans (List.takeWhile_sublist _).length_le hm
 have hf:(fracOf 61 (midL u n)).length≤6000:=by unfold fracOf;rw [List.length_drop];have:=(List.dropWhile_sublist (p:=(· != 61)) (l:=midL u n)).length_le;omega
 have i1:¬ (n:Int)<((wholeOf 32 u).length:Int)+2:=by omega
 have i2:¬ (u.length:Int)<(n:Int):=by omega
 have B0:=Lib.hid (show ∀ W W',Below (baseW w).heap.size (baseW w) W→Below (W.alloc (.cells #[.string (mkS (wholeOf 61 (midL u n))),.string (mkS (fracOf 61 (midL u n)))] 43)).heap.size (W.alloc (.cells #[.string (mkS (wholeOf 61 (midL u n))),.string (mkS (fracOf 61 (midL u n)))] 43)) W' →
   W'.cell? ⟨W.heap.size,0,none⟩=some (.string (mkS (wholeOf 61 (midL u n))))∧W'.cell? ⟨W.heap.size,1,none⟩=some (.string (mkS (fracOf 61 (midL u n))))∧PairRow W' w.heap.size∧Below w.heap.size w W' from fun W W' h h'=>by
  have h3:=h.alloc h.size (.cells #[.string (mkS (wholeOf 61 (midL u n))),.string (mkS (fracOf 61 (midL u n)))] 43)
  exact ⟨(h'.cell (p:=⟨W.heap.size,0,none⟩) (by simp)).trans (by simp),(h'.cell (p:=⟨W.heap.size,1,none⟩) (by simp)).trans (by simp),PairRow.base (h3.trans (h'.mono h3.size))⟩)
 have q1:((mkS (recL (wholeOf 61 (midL u n)) (fracOf 61 (midL u n)))).toList==(mkS (u.take n)).toList)=(decide (recL (wholeOf 61 (midL u n)) (fracOf 61 (midL u n))=u.take n)):=by
  rw [ByteArray.toList_eq,ByteArray.toList_eq,mkS_list,mkS_list]
  by_cases h:recL (wholeOf 61 (midL u n)) (fracOf 61 (midL u n))=u.take n
  ·rw [h];simp
  ·simp [h]
 cases hr:rightP (wholeOf 61 (midL u n)) (fracOf 61 (midL u n))
 ·have R:=Lib.hid (fun W=>record_bad (wholeOf 61 (midL u n)) (fracOf 61 (midL u n)) (by omega) (by omega) hr W)
  clear hA hv hp hr q1 h1 h2 hk hf hm
  generalize wholeOf 61 (midL u n)=K at *
  generalize fracOf 61 (midL u n)=V at *
  generalize midL u n=M at *
  generalize wholeOf 32 u=D at *
  go_enter Tryz.func182,Tryz.ntmps182
  go_wp2_with (first
   |(go_at_call 127;with_reducible refine (C1.out _).mono ?_;rintro e w1 ⟨rfl,n1,rfl⟩)
   |(go_at_call 190;refine (A1.out _ (below_draws _ _ _)).mono ?_;rintro e w2 ⟨rfl,hB2⟩)
   |(go_at_call 127;with_reducible refine (C2.out _).mono ?_;rintro e w3 ⟨rfl,n3,hw3⟩;have hB3:=(show Below (baseW w).heap.size (baseW w) w3 from hw3 ▸ hB2.trans (below_draws _ _ _));clear hw3)
   |(go_at_call 140;refine (R.out _).mono ?_;rintro e w4 ⟨rfl,h4⟩;obtain ⟨_,_,hF,hB⟩:=B0.out _ _ hB3 h4;obtain ⟨f0,f1,f2,f3,f4⟩:=id hF))
  obtain ⟨g0,g1⟩:=hF.put { data:=#[] } { data:=#[] }
  refine bodyPost_ret (v:=.tuple #[prV [] [],.int .i64 0]) (by simp [results,Tryz.results182,go_sem,g0,g1];rfl) rfl ⟨Or.inr ⟨(fun h=>Bool.noConfusion h.1),rfl⟩,below_store (below_store hB _ _ (Nat.le_refl _) _) _ _ (Nat.le_refl _) _⟩
 ·have R:=Lib.hid (fun W hp=>record_ok (wholeOf 61 (midL u n)) (fracOf 61 (midL u n)) hr W hp)
  clear hA hv hp hr h1 h2 hk hf hm
  generalize hT:recL (wholeOf 61 (midL u n)) (fracOf 61 (midL u n))=T at *
  clear hT
  generalize wholeOf 61 (midL u n)=K at *
  generalize fracOf 61 (midL u n)=V at *
  generalize midL u n=M at *
  generalize wholeOf 32 u=D at *
  generalize hU:u.take n=U at *
  clear hU
  by_cases ht:T=U
  ·rw [decide_eq_true ht] at q1
   have HT:=Lib.hid ht
   clear ht
   go_enter Tryz.func182,Tryz.ntmps182
   go_wp2_with (first
    |(go_at_call 127;with_reducible refine (C1.out _).mono ?_;rintro e w1 ⟨rfl,n1,rfl⟩)
    |(go_at_call 190;refine (A1.out _ (below_draws _ _ _)).mono ?_;rintro e w2 ⟨rfl,hB2⟩)
    |(go_at_call 127;with_reducible refine (C2.out _).mono ?_;rintro e w3 ⟨rfl,n3,hw3⟩;have hB3:=(show Below (baseW w).heap.size (baseW w) w3 from hw3 ▸ hB2.trans (below_draws _ _ _));clear hw3)
    |(go_at_call 140;refine (R.out _ (HP.out _ (hB3.alloc hB3.size _))).mono ?_;rintro e w4 ⟨rfl,h4⟩;obtain ⟨b1,b2,hF,hB⟩:=B0.out _ _ hB3 h4;obtain ⟨f0,f1,f2,f3,f4⟩:=id hF))
   obtain ⟨g0,g1⟩:=hF.put (mkS K) (mkS V)
   refine bodyPost_ret (v:=.tuple #[prV K V,.int .i64 n]) (by simp [results,Tryz.results182,go_sem,g0,g1]) rfl ⟨Or.inl ⟨trivial,HT.out,rfl⟩,below_store (below_store hB _ _ (Nat.le_refl _) _) _ _ (Nat.le_refl _) _⟩
  ·rw [decide_eq_false ht] at q1
   have HT:=Lib.hid ht
   clear ht
   go_enter Tryz.func182,Tryz.ntmps182
   go_wp2_with (first
    |(go_at_call 127;with_reducible refine (C1.out _).mono ?_;rintro e w1 ⟨rfl,n1,rfl⟩)
    |(go_at_call 190;refine (A1.out _ (below_draws _ _ _)).mono ?_;rintro e w2 ⟨rfl,hB2⟩)
    |(go_at_call 127;with_reducible refine (C2.out _).mono ?_;rintro e w3 ⟨rfl,n3,hw3⟩;have hB3:=(show Below (baseW w).heap.size (baseW w) w3 from hw3 ▸ hB2.trans (below_draws _ _ _));clear hw3)
    |(go_at_call 140;refine (R.out _ (HP.out _ (hB3.alloc hB3.size _))).mono ?_;rintro e w4 ⟨rfl,h4⟩;obtain ⟨b1,b2,hF,hB⟩:=B0.out _ _ hB3 h4;obtain ⟨f0,f1,f2,f3,f4⟩:=id hF))
   obtain ⟨g0,g1⟩:=hF.put { data:=#[] } { data:=#[] }
   refine bodyPost_ret (v:=.tuple #[prV [] [],.int .i64 0]) (by simp [results,Tryz.results182,go_sem,g0,g1];rfl) rfl ⟨Or.inr ⟨fun h=>HT.out h.2,rfl⟩,below_store (below_store hB _ _ (Nat.le_refl _) _) _ _ (Nat.le_refl _) _⟩
end Go.Proofs.YtdjcjaidklgamaaGreatDoor.Px
end
section
namespace Go.Proofs.YtdjcjaidklgamaaGreatDoor.Px
open Go.RowKit Go.Joins
theorem begins_parts (u k v:List UInt8) (h:Begins u k v) :
  wholeOf 32 u=Lib.decDigits (recL k v).length∧(wholeOf 32 u).length+2≤(recL k v).length∧(recL k v).length≤u.length∧(recL k v).length≤206∧recL k v=u.take (recL k v).length∧wholeOf 61 (midL u (recL k v).length)=k∧fracOf 61 (midL u (recL k v).length)=v:=by
 have hl:=(rightP_true k v h.1).2.2
 have h1:=recL_length k v hl
 have h2:=begins_head u k v h
 have h3:=lenOf_fits (k.length+v.length+3) (by omega)
 have h4:=lenOf_bound (k.length+v.length+3)
 have h5:=h.2.length_le
 have h6:wholeOf 32 u=Lib.decDigits (recL k v).length:=by rw [h1];exact h2
 have h7:(wholeOf 32 u).length+(k.length+v.length+3)=(recL k v).length:=by rw [h6,h1];exact h3
 have h8:recL k v=u.take (recL k v).length:=List.prefix_iff_eq_take.1 h.2
 have h9:midL u (recL k v).length=k++61 :: v:=by
  obtain ⟨r,hr⟩:=h.2
  have e1:u=wholeOf 32 u++(32 :: (k++61 :: (v++[10])))++r:=by
   conv=>lhs;rw [← hr]
   rw [h6,h1];rfl
  have e2:u.drop ((wholeOf 32 u).length+1)=k++61 :: (v++[10])++r:=by
   conv=>lhs;arg 2;rw [e1]
   rw [← List.drop_drop,List.append_assoc,List.drop_left]
   rfl
  unfold midL
  rw [e2,show (recL k v).length - 1 - ((wholeOf 32 u).length+1)=(k++61 :: v).length by simp;omega]
  rw [show k++61 :: (v++[10])++r=(k++61 :: v)++([10]++r) by simp,List.take_left]
 have t:=takeWhile_stop (· != 61) 61 rfl k v (key_no k v h.1)
 refine ⟨h6,by omega,h5,by omega,h8,?_,?_⟩
 ·rw [h9];exact t.1
 ·rw [h9];unfold fracOf;rw [t.2];rfl
theorem first_any (u:List UInt8) (hu:u.length≤6000) (w:World) (hp:PowLaid w) (hA:AtoiLaid w) :
  Calls Tryz.prog 182 #[.string (mkS u)] w fun e w'=>FirstIs u e∧Below w.heap.size w w':=by
 by_cases hN:Nx u
 ·obtain ⟨k,v,hb⟩:=hN
  obtain ⟨h1,h2,h3,h4,h5,h6,h7⟩:=begins_parts u k v hb
  refine (first_go u hu w hp hA (recL k v).length (by rw [h1];exact dec_atoi _ (by omega)) h2 h3).mono fun e w' ⟨he,hw⟩=>⟨?_,hw⟩
  rw [h6,h7] at he
  rcases he with ⟨_,_,he⟩|⟨he,_⟩
  ·exact Or.inl ⟨k,v,hb,he⟩
  ·exact absurd ⟨hb.1,h5⟩ he
 ·by_cases hv:∃ v,Lib.atoiAll (wholeOf 32 u)=.ok v
  ·obtain ⟨v,hv⟩:=hv
   by_cases hs:v<((wholeOf 32 u).length:Int)+2∨(u.length:Int)<v
   ·exact (first_short u hu w hA v hv hs).mono fun e w' ⟨he,hw⟩=>⟨Or.inr ⟨hN,he⟩,hw⟩
   ·obtain ⟨n,rfl⟩:=Int.eq_ofNat_of_zero_le (show 0≤v by omega)
    refine (first_go u hu w hp hA n hv (by omega) (by omega)).mono fun e w' ⟨he,hw⟩=>⟨?_,hw⟩
    rcases he with ⟨h1,h2,_⟩|⟨_,he⟩
    ·exact absurd ⟨_,_,h1,by rw [h2];exact List.take_prefix _ _⟩ hN
    ·exact Or.inr ⟨hN,he⟩
  ·exact (first_err u hu w hA fun v h=>hv ⟨v,h⟩).mono fun e w' ⟨he,hw⟩=>⟨Or.inr ⟨hN,he⟩,hw⟩
end Go.Proofs.YtdjcjaidklgamaaGreatDoor.Px
end
section
namespace Go.Proofs.YtdjcjaidklgamaaGreatDoor.Px
open Go.RowKit Go.Shelf Go.Joins
set_option linter.unusedVariables false
attribute [local go_sem] Oper.semAt_some
def upto {α:Type} (f:Nat→α) (k:Nat):List α:=(List.range k).map f
theorem upto_succ {α:Type} (f:Nat→α) (k:Nat):upto f (k+1)=upto f k++[f k]:=by simp [upto,List.range_succ]
theorem upto_length {α:Type} (f:Nat→α) (k:Nat):(upto f k).length=k:=by simp [upto]
abbrev It:={ x:Nat × Pr // x.1≤6000∧x.2.1.length≤6000∧x.2.2.length≤6000 }
def mkIt (a:Nat) (p:Pr):It:=if h:a≤6000∧p.1.length≤6000∧p.2.length≤6000 then ⟨(a,p),h⟩ else ⟨(0,([],[])),by simp⟩
theorem mkIt_val (a:Nat) (p:Pr) (h1:a≤6000) (h2:p.1.length≤6000) (h3:p.2.length≤6000):(mkIt a p).1=(a,p):=by unfold mkIt;rw [dif_pos ⟨h1,h2,h3⟩]
def itF (M:List Pr) (i:Nat):It:=mkIt (offL M i) (M[i]?.getD ([],[]))
def items (M:List Pr) (bad:Bool):List It:=upto (itF M) (M.length+bad.toNat)
abbrev encB (x:It):Array Value:=#[.int .i64 (x.1.1:Int),prV x.1.2.1 x.1.2.2]
theorem itF_end (M:List Pr) (h:offL M M.length≤6000):(itF M M.length).1=(offL M M.length,([],[])):=by
 unfold itF;rw [List.getElem?_eq_none (Nat.le_refl _)];exact mkIt_val _ _ h (by simp) (by simp)
theorem itF_at (M:List Pr) (i:Nat) (p:Pr) (h:M[i]?=some p) (h1:offL M i≤6000) (h2:rightP p.1 p.2=true):(itF M i).1=(offL M i,p):=by
 have:=(rightP_true p.1 p.2 h2).2.2
 unfold itF;rw [h];exact mkIt_val _ _ h1 (by show p.1.length≤6000;omega) (by show p.2.length≤6000;omega)
def KpR (n₀ Bs:Nat) (W W':World):Prop:=Below n₀ W W'∧∀ o:Obj,W.heap[Bs]?=some o→o.isCells=true→W'.heap[Bs]?=some o
theorem KpR.refl (n₀ Bs:Nat) (W:World):KpR n₀ Bs W W:=⟨Below.refl _ _,fun _ h _=>h⟩
theorem KpR.trans {n₀ Bs:Nat} {A B C:World} (h:KpR n₀ Bs A B) (k:KpR n₀ Bs B C):KpR n₀ Bs A C:=⟨h.1.trans k.1,fun o h1 h2=>k.2 o (h.2 o h1 h2) h2⟩
theorem KpR.of_below {n₀ Bs:Nat} {W W':World} (h:Below W.heap.size W W') (hn:n₀≤W.heap.size):KpR n₀ Bs W W':=⟨h.mono hn,fun o h1 _=>(h.block Bs (Array.getElem?_eq_some_iff.1 h1).1).trans h1⟩
theorem KpR.boxed {n₀ Bs:Nat} {W W':World} {t:TypeId} {v:Value} (h:KpR n₀ Bs W W') (b:Boxed W Bs t v):Boxed W' Bs t v:=h.2 _ b rfl
theorem kpR_b {n₀ Bs:Nat} {w:World} (hn:n₀≤w.heap.size):∀ (W:World) (l:Nat) (o o':Obj),w.heap.size≤l→W.heap[l]?=some o→o.isCells=false→o.isWalk=false→KpR n₀ Bs W (W.putObj l o'):=fun W l o o' hl ho hc hw =>
 ⟨belowK_b (w:=w) hn W l o o' hl ho hc hw,fun o2 h2 hc2=>by
  by_cases he:l=Bs
  ·subst he
   rw [ho] at h2;cases h2;rw [hc] at hc2;cases hc2
  ·exact ((grownBy_putObj' W l o').block Bs (Array.getElem?_eq_some_iff.1 h2).1 (fun e=>he (by cases e;rfl))).trans h2⟩
set_option maxRecDepth 100000 in
set_option maxHeartbeats 4000000 in
theorem records1_in (n:Nat) (hn:2≤n) (l Bs n₀:Nat) (s:List UInt8) (hs:s.length≤6000) (M:List Pr) (bad:Bool) (hR:ReadIs s M bad) (J Jx:List It→World→Prop)
  (hY:∀ pre x W,J pre W→pre.length<(items M bad).length→YieldAt Fence.wide (n - 1) Tryz.prog l (encB x) W fun e W' =>
   (e=.returned (.bool true)∧J (pre++[x]) W'∧KpR n₀ Bs W W')∨(e=.returned (.bool false)∧Jx (pre++[x]) W'))
  (W:World) (hJ:AbidesFrom W.heap.size J) (hBs:Boxed W Bs 9 (.string (mkS s))) (hn₀:n₀≤W.heap.size) (hp:∀ W',Below n₀ W W'→PowLaid W'∧AtoiLaid W') (h0:J [] W) :
  CallsIn Fence.wide n Tryz.prog 181 #[.func (.yield l) #[] #[],.pointer (some ⟨Bs,0,none⟩)] W fun e W'=>(∃ v,e=.returned v) ∧
   ((∃ ys,ys=items M bad∧J ys W')∨(∃ pre,(∃ k,k≤(items M bad).length∧pre=upto (itF M) k)∧Jx pre W')):=by
 have hlen:(items M bad).length=M.length+bad.toNat:=by unfold items;rw [upto_length]
 refine callsIn_of_wp Tryz.func181 rfl trivial ?_ rfl
 simp only [Tryz.ntmps181,List.size_toArray,List.length_cons,List.length_nil,Nat.reduceAdd,Nat.reduceSub,Array.replicate_succ,Array.replicate_zero,List.push_toArray,List.append_toArray,List.nil_append,List.cons_append]
 gi_wp2
 gi_loopw [3] (fun i wr=>∃ k:Nat,k≤M.length∧i=.int .i64 (offL M k)∧J (upto (itF M) k) wr∧KpR n₀ Bs W wr)
  (fun i _=>s.length - (intOf i).toNat)
 case atStart=>exact ⟨0,by omega,rfl,h0,KpR.refl _ _ _⟩
 case round =>
  obtain ⟨k,hk,rfl,hJs,hnx⟩:=hrel
  have hbs:=(hnx.boxed hBs).cell
  obtain ⟨hp1,hp2⟩:=hp wr hnx.1
  have z1:=mkS_size s
  by_cases hkM:k<M.length
  ·obtain ⟨p,hpk⟩:∃ p,M[k]?=some p:=⟨_,List.getElem?_eq_getElem hkM⟩
   obtain ⟨hbg,hlt⟩:=read_at s M bad hR k p hpk
   have HF:=Lib.hid (show Calls Tryz.prog 182 #[.string (mkS (s.drop (offL M k)))] wr fun e w'=>e=.returned (.tuple #[prV p.1 p.2,.int .i64 ((recL p.1 p.2).length:Int)])∧Below wr.heap.size wr w' from
    (first_any (s.drop (offL M k)) (by rw [List.length_drop];omega) wr hp1 hp2).mono fun e w' ⟨he,hw⟩=>⟨by
     rcases he with ⟨k',v',hb',he⟩|⟨hN,_⟩
     ·obtain ⟨e1,e2⟩:=begins_one _ _ _ _ _ hb' hbg
      rw [he,e1,e2]
     ·exact absurd ⟨_,_,hbg⟩ hN,hw⟩)
   have hsl:=fun w=>mkS_onward s (offL M k) (by omega) w
   have hpos:=recL_pos p.1 p.2
   have hlt':((offL M k:Nat):Int)<(s.length:Int):=by omega
   have hne:¬ (((recL p.1 p.2).length:Nat):Int)=0:=by omega
   have hsum:((offL M k:Nat):Int)+(((recL p.1 p.2).length:Nat):Int)≤6000:=by
    have:=hbg.2.length_le
    rw [List.length_drop] at this
    omega
   have HX:=Lib.hid (And.intro hbg hpk)
   have HJ:=Lib.hid (show ∀ w2,Below wr.heap.size wr w2→J (upto (itF M) k) (w2.alloc (.cells #[.string (mkS p.1),.string (mkS p.2)] 43))∧KpR n₀ Bs W (w2.alloc (.cells #[.string (mkS p.1),.string (mkS p.2)] 43)) from fun w2 h2=>by
    have h3:=h2.alloc h2.size (.cells #[.string (mkS p.1),.string (mkS p.2)] 43)
    have h4:n₀≤wr.heap.size:=Nat.le_trans hn₀ hnx.1.size
    exact ⟨hJ _ _ _ none hJs ⟨h3.os,h3.tape,h3.output,h3.size,fun i hi _=>h3.block i hi⟩ (fun r e=>by cases e),hnx.trans (KpR.of_below h3 h4)⟩)
   have HN:=Lib.hid hnx
   clear hbg hpk hp1 hp2 hp hlt hJs hnx hR
   have hfn:Fence.wide.fn 182:=trivial
   have h1:1≤n:=by omega
   gi_wp2_with (gi_at_call 182;refine (callsIn_wide.2 HF.out).mono ?_;rintro e w2 ⟨rfl,h2⟩)
   obtain ⟨hJ2,hB2⟩:=HJ.out _ h2
   obtain ⟨fn,tmps,assign,body,hy,hRd⟩:=hY _ (itF M k) _ hJ2 (by rw [upto_length,hlen];omega)
   have hit:=itF_at M k p HX.out.2 (by omega) HX.out.1.1
   rw [show encB (itF M k)=#[.int .i64 (offL M k:Int),prV p.1 p.2] by unfold encB;rw [hit]] at hy
   rw [show Sem.run Tryz.prog (Instr.yield l #[.int .i64 (offL M k:Int),prV p.1 p.2]) _=_ from hy]
   gi_wp2
   have hoff:=offL_succ M k p HX.out.2
   refine hRd.mono ?_
   rintro e W3 (⟨rfl,hJ3,hk3⟩|⟨rfl,hJx3⟩)
   ·gi_wp2
    go_roundw
    case rel =>
     refine ⟨k+1,by omega,by rw [hoff];first|rfl|simp,?_,hB2.trans hk3⟩
     rw [upto_succ]
     exact hJ3
    case measure=>simp [intOf];omega
   ·gi_wp2
    refine bodyPost_ret (results_none rfl _ _ _) rfl ?_
    refine ⟨⟨_,rfl⟩,.inr ⟨_,⟨k+1,by rw [hlen];omega,?_⟩,hJx3⟩⟩
    rw [upto_succ]
  ·obtain rfl:k=M.length:=by omega
   have hoa:=offL_all M
   cases bad with
   | false =>
    have hend:recsL M=s:=hR.2.2.1 rfl
    have hge:¬ ((offL M M.length:Nat):Int)<(s.length:Int):=by rw [hoa,hend];omega
    have HJ:=Lib.hid hJs
    clear hJs hR hp hp1 hp2 hend hoa
    gi_wp2
    go_end0
    exact ⟨⟨_,rfl⟩,.inl HJ.out⟩
   | true =>
    obtain ⟨hlt,hNx⟩:=hR.2.2.2 rfl
    rw [← hoa] at hlt hNx
    have HF:=Lib.hid (show Calls Tryz.prog 182 #[.string (mkS (s.drop (offL M M.length)))] wr fun e w'=>e=.returned (.tuple #[prV [] [],.int .i64 0])∧Below wr.heap.size wr w' from
     (first_any (s.drop (offL M M.length)) (by rw [List.length_drop];omega) wr hp1 hp2).mono fun e w' ⟨he,hw⟩=>⟨by
      rcases he with ⟨k',v',hb',he⟩|⟨hN,he⟩
      ·exact absurd ⟨_,_,hb'⟩ hNx
      ·exact he,hw⟩)
    have hsl:=fun w=>mkS_onward s (offL M M.length) (by omega) w
    have hlt':((offL M M.length:Nat):Int)<(s.length:Int):=by omega
    have HJ:=Lib.hid (show ∀ w2,Below wr.heap.size wr w2→J (upto (itF M) M.length) (w2.alloc (.cells #[.string (mkS []),.string (mkS [])] 43))∧KpR n₀ Bs W (w2.alloc (.cells #[.string (mkS []),.string (mkS [])] 43)) from fun w2 h2=>by
     have h3:=h2.alloc h2.size (.cells #[.string (mkS []),.string (mkS [])] 43)
     have h4:n₀≤wr.heap.size:=Nat.le_trans hn₀ hnx.1.size
     exact ⟨hJ _ _ _ none hJs ⟨h3.os,h3.tape,h3.output,h3.size,fun i hi _=>h3.block i hi⟩ (fun r e=>by cases e),hnx.trans (KpR.of_below h3 h4)⟩)
    have hlt3:=hlt
    clear hp1 hp2 hp hlt hNx hJs hnx hR hoa
    have hfn:Fence.wide.fn 182:=trivial
    have h1:1≤n:=by omega
    gi_wp2_with (gi_at_call 182;refine (callsIn_wide.2 HF.out).mono ?_;rintro e w2 ⟨rfl,h2⟩)
    obtain ⟨hJ2,hB2⟩:=HJ.out _ h2
    obtain ⟨fn,tmps,assign,body,hy,hRd⟩:=hY _ (itF M M.length) _ hJ2 (by rw [upto_length,hlen];simp)
    have hit:=itF_end M (by omega)
    rw [show encB (itF M M.length)=#[.int .i64 (offL M M.length:Int),prV [] []] by unfold encB;rw [hit]] at hy
    rw [show Sem.run Tryz.prog (Instr.yield l #[.int .i64 (offL M M.length:Int),prV [] []]) _=_ from hy]
    gi_wp2
    refine hRd.mono ?_
    rintro e W3 (⟨rfl,hJ3,hk3⟩|⟨rfl,hJx3⟩)
    ·gi_wp2
     refine bodyPost_ret (results_none rfl _ _ _) rfl ?_
     refine ⟨⟨_,rfl⟩,.inl ⟨_,rfl,?_⟩⟩
     unfold items
     rw [show M.length+true.toNat=M.length+1 from rfl,upto_succ]
     exact hJ3
    ·gi_wp2
     refine bodyPost_ret (results_none rfl _ _ _) rfl ?_
     refine ⟨⟨_,rfl⟩,.inr ⟨_,⟨M.length+1,by rw [hlen];exact Nat.le_refl _,?_⟩,hJx3⟩⟩
     rw [upto_succ]
theorem records_in (n:Nat) (s:List UInt8) (w:World) :
  CallsIn Fence.wide n Tryz.prog 161 #[.string (mkS s)] w fun e w'=>e=.returned (.func (.func 181) #[] #[.pointer (some ⟨w.heap.size,0,none⟩)])∧w'=w.alloc (.cells #[.string (mkS s)] 9):=by
 refine callsIn_of_wp Tryz.func161 rfl trivial ?_ rfl
 simp only [Tryz.ntmps161,List.size_toArray,List.length_cons,List.length_nil,Nat.reduceAdd,Nat.reduceSub,Array.replicate_succ,Array.replicate_zero,List.push_toArray,List.append_toArray,List.nil_append,List.cons_append]
 gi_wp2
 go_ret
 exact ⟨rfl,rfl⟩
theorem records_stops (n:Nat) (hn:2≤n) (Bs n₀:Nat) (s:List UInt8) (hs:s.length≤6000) (M:List Pr) (bad:Bool) (hR:ReadIs s M bad) (w:World) (hn₀:n₀≤w.heap.size)
  (hc:Boxed w Bs 9 (.string (mkS s))) (hp:∀ W',Below n₀ w W'→PowLaid W'∧AtoiLaid W') :
  SeqStopsK Fence.wide n Tryz.prog 181 #[.pointer (some ⟨Bs,0,none⟩)] encB (KpR n₀ Bs) (fun ys=>ys=items M bad) (fun pre=>∃ k,k≤(items M bad).length∧pre=upto (itF M) k) (items M bad).length w:=fun l J Jx W hW hJ _ hY h0 =>
 records1_in n hn l Bs n₀ s hs M bad hR J Jx hY W hJ ((hW.block Bs hc.lt).trans hc) (Nat.le_trans hn₀ hW.size) (fun W' h=>hp W' ((hW.mono hn₀).trans h)) h0
end Go.Proofs.YtdjcjaidklgamaaGreatDoor.Px
end
section
namespace Go.Proofs.YtdjcjaidklgamaaGreatDoor.Px
open Go.RowKit Go.Shelf Go.Joins
set_option linter.unusedVariables false
attribute [local go_sem] Oper.semAt_some
theorem below_alloc4 (w:World) (o1 o2 o3 o4:Obj):Below w.heap.size w ((((w.alloc o1).alloc o2).alloc o3).alloc o4):=((below_alloc2 w o1 o2).alloc (by simp;omega) o3).alloc (by simp;omega) o4
def pairCells (l:List Pr):List Value:=l.flatMap fun p=>[.string (mkS p.1),.string (mkS p.2)]
theorem pairCells_length (l:List Pr):(pairCells l).length=l.length * 2:=by
 induction l with
 | nil=>rfl
 | cons p l ih=>unfold pairCells at ih ⊢;rw [List.flatMap_cons,List.length_append,ih];simp;omega
theorem pairCells_snoc (l:List Pr) (p:Pr):pairCells (l++[p])=pairCells l++[.string (mkS p.1),.string (mkS p.2)]:=by
 unfold pairCells;rw [List.flatMap_append];simp
theorem pairCells_at:∀ (l:List Pr) (i:Nat) (p:Pr),l[i]?=some p→(pairCells l)[i * 2]?=some (.string (mkS p.1))∧(pairCells l)[i * 2+1]?=some (.string (mkS p.2))
 | q :: l,0,p,h=>by
  simp at h;subst h
  exact ⟨rfl,rfl⟩
 | q :: l,i+1,p,h=>by
  have:=pairCells_at l i p (by simpa using h)
  unfold pairCells at this ⊢
  rw [List.flatMap_cons,show (i+1) * 2=(i * 2)+1+1 by omega]
  exact this
theorem Tryz.infoPair:(Tryz.prog.info? 43).map (fun i=>(i.zero,i.size,i.bytes))=some (some (.agg #[.string { data:=#[] },.string { data:=#[] }]),2,32):=by kernel_rfl
def ReadOut (M:List Pr) (bad:Bool) (e:Ending) (w':World):Prop :=
 (M.length≤20∧bad=false∧∃ ad cap,(ad=none→cap=0)∧e=.returned (.tuple #[.slice ad M.length cap,.nilIface])∧PairsAt w' ad M) ∨
 (∃ pb er at_,((M.length≤20∧bad=true∧er=3∧at_=offL M M.length)∨(20<M.length∧er=4∧at_=offL M 20)) ∧
  e=.returned (.tuple #[.slice none 0 0,.iface 85 (.pointer (some ⟨pb,0,none⟩))])∧w'.cell? ⟨pb,0,none⟩=some (.int .i64 er)∧w'.cell? ⟨pb,1,none⟩=some (.int .i64 (at_:Nat)))
theorem offL_le (s:List UInt8) (M:List Pr) (bad:Bool) (h:ReadIs s M bad) (i:Nat):offL M i≤s.length:=by
 have h1:recsL (M.take i) <+: recsL M:=by
  conv=>rhs;rw [← List.take_append_drop i M]
  unfold recsL;rw [List.flatMap_append];exact List.prefix_append _ _
 exact (h1.trans h.2.1).length_le
theorem cells_own {β:Type} (B:Nat) (f:β→Obj) (hf:∀ s,(f s).isCells=true):Own (fun s W=>W.heap[B]?=some (f s)):=fun s X Y row hs hg hrow=>by
 have hlt:B<X.heap.size:=(Array.getElem?_eq_some_iff.1 hs).1
 refine (hg.block B hlt fun e=>?_).trans hs
 obtain ⟨o,ho,hc⟩:=hrow B e.symm
 rw [hs] at ho
 cases ho
 rw [hf s] at hc
 cases hc
theorem boxed_below {W W':World} {B:Nat} {t:TypeId} {v:Value} (h:Boxed W B t v) (hb:Below W.heap.size W W'):Boxed W' B t v:=(hb.block B h.lt).trans h
abbrev pairObj (p:Pr):Obj:=.cells #[.string (mkS p.1),.string (mkS p.2)] 43 (0,0)
abbrev atObj (er:Int) (a:Nat):Obj:=.cells #[.int .i64 er,.int .i64 (a:Int)] 87 (0,0)
def RdI (w:World) (s:List UInt8) (pre:List It) (W:World):Prop :=
 ((Boxed W w.heap.size 36 (.slice none 0 0)∧Boxed W (w.heap.size+1) 31 .nilIface)∧Boxed W (w.heap.size+1+1+1) 9 (.string (mkS s))) ∧
 ((∃ v,Boxed W (w.heap.size+1+1) 36 v∧W.ownsRow w.heap.size 43 2 v pre.length (pairCells (pre.map fun x=>x.1.2))∧True) ∧
  (Below w.heap.size w W∧(pre.length≤20∧∀ x∈pre,rightP x.1.2.1 x.1.2.2=true)))
def RdX (w:World) (c:Code) (pre:List It) (W:World):Prop :=
 c=.ret∧∃ pb er x pre',((Boxed W w.heap.size 36 (.slice none 0 0)∧Boxed W (w.heap.size+1) 31 (.iface 85 (.pointer (some ⟨pb,0,none⟩))))∧W.heap[pb]?=some (atObj er (x:It).1.1)) ∧
  (Below w.heap.size w W∧(pre=pre'++[x]∧pre'.length≤20∧(∀ y∈pre',rightP y.1.2.1 y.1.2.2=true)∧((er=3∧rightP x.1.2.1 x.1.2.2=false)∨(er=4∧rightP x.1.2.1 x.1.2.2=true∧pre'.length=20))))
theorem RdI.own (w:World) (s:List UInt8) (B:Nat) (hB:w.heap.size≤B):OwnFrom B (RdI w s):=by
 unfold RdI
 exact OwnFrom.and (OwnFrom.and (OwnFrom.and (Own.from (boxed_own _ _ _) _) (Own.from (boxed_own _ _ _) _)) (Own.from (boxed_own _ _ _) _))
  (OwnFrom.and (Own.from (holdsRow_own w.heap.size _ _ _ 2 (fun pre:List It=>pre.length) (fun pre=>pairCells (pre.map fun x=>x.1.2)) (fun _ _=>True)) _) (OwnFrom.and (ownFrom_below (Nat.le_refl _) hB) (ownFrom_pure _ _)))
theorem RdX.own (w:World) (c:Code) (B:Nat) (hB:w.heap.size≤B):OwnFrom B (RdX w c):=by
 rintro pre X Y row ⟨hc,pb,er,x,pre',⟨⟨h1,h2⟩,h3⟩,h4,h5⟩ hg hr
 have hr':∀ r,row=some r→∃ o:Obj,X.heap[r]?=some o∧o.isCells=false:=fun r e=>(hr r e).2
 exact ⟨hc,pb,er,x,pre',⟨⟨boxed_own _ _ (fun (_:Unit)=>Value.slice none 0 0) () X Y row h1 hg hr',boxed_own _ _ (fun (_:Unit)=>Value.iface 85 (.pointer (some ⟨pb,0,none⟩))) () X Y row h2 hg hr'⟩,cells_own pb (fun (_:Unit)=>atObj er x.1.1) (fun _=>rfl) () X Y row h3 hg hr'⟩,ownFrom_below (β:=Unit) (Nat.le_refl _) (B:=B) hB () X Y row h4 hg hr,h5⟩
theorem RdI.below {w:World} {s:List UInt8} {pre:List It} {W W':World} (h:RdI w s pre W) (hb:Below W.heap.size W W'):RdI w s pre W':=by
 obtain ⟨⟨⟨h0,h1⟩,h3⟩,⟨v,h4,h5,_⟩,h6,h7⟩:=h
 exact ⟨⟨⟨boxed_below h0 hb,boxed_below h1 hb⟩,boxed_below h3 hb⟩,⟨v,boxed_below h4 hb,own_below h5 hb,trivial⟩,h6.trans (hb.mono h6.size),h7⟩
theorem keeps_below {W W':World} (h:Below W.heap.size W W'):KeepsOthers W W':=⟨h.size,fun k o hk _=>(h.block k (Array.getElem?_eq_some_iff.1 hk).1).trans hk⟩
theorem rdX_of {w:World} {s:List UInt8} {pre:List It} {W w2:World} (x:It) (er:Int) (hI:RdI w s pre W) (h2:Below W.heap.size W w2)
  (he:(er=3∧rightP x.1.2.1 x.1.2.2=false)∨(er=4∧rightP x.1.2.1 x.1.2.2=true∧pre.length=20)) (B:Nat) :
  KeepsFrom B W (((w2.alloc (.cells #[.int .i64 er,.int .i64 (x.1.1:Int)] 87)).setCell ⟨w.heap.size,0,none⟩ (.slice none 0 0)).setCell ⟨w.heap.size+1,0,none⟩ (.iface 85 (.pointer (some ⟨w2.heap.size,0,none⟩)))) ∧
  RdX w .ret (pre++[x]) (((w2.alloc (.cells #[.int .i64 er,.int .i64 (x.1.1:Int)] 87)).setCell ⟨w.heap.size,0,none⟩ (.slice none 0 0)).setCell ⟨w.heap.size+1,0,none⟩ (.iface 85 (.pointer (some ⟨w2.heap.size,0,none⟩)))):=by
 obtain ⟨⟨⟨h0,h1⟩,h3⟩,_,h6,h7,h8⟩:=hI.below h2
 have hlt:=h3.lt
 have hk:=((keeps_below h2).trans (KeepsOthers.alloc w2 (.cells #[.int .i64 er,.int .i64 (x.1.1:Int)] 87)))
 refine ⟨((hk.trans (KeepsOthers.setCell _ _ _)).trans (KeepsOthers.setCell _ _ _)).from _,rfl,w2.heap.size,er,x,pre,⟨⟨?_,?_⟩,?_⟩,?_,rfl,h7,h8,he⟩
 ·exact ((h0.alloc _).set _).other (by omega) _
 ·exact ((h1.alloc _).other (by omega) _).set _
 ·have hnew:(w2.alloc (.cells #[.int .i64 er,.int .i64 (x.1.1:Int)] 87)).heap[w2.heap.size]?=some (atObj er x.1.1):=World.alloc_heap_new w2 _
  exact ((grownBy_setCell' _ (w.heap.size+1) _).block _ (by simp [World.setCell]) (fun e=>by have:=Option.some.inj e;omega)).trans (((grownBy_setCell' _ w.heap.size _).block _ (by simp) (fun e=>by have:=Option.some.inj e;omega)).trans hnew)
 ·have h9:=h6.alloc h6.size (.cells #[.int .i64 er,.int .i64 (x.1.1:Int)] 87)
  exact below_store (below_store h9 _ _ (Nat.le_refl _) _) _ _ (by omega) _
theorem pairsAt_of_row {W:World} {base:Nat} {e:TypeId} {ad:Option Addr} {cap:Nat} {M:List Pr} (h:W.ownsRow base e 2 (.slice ad M.length cap) M.length (pairCells M)):PairsAt W ad M:=fun i p hi=>by
 have hil:=(List.getElem?_eq_some_iff.1 hi).1
 rcases h.2 with ⟨_,h0⟩|⟨g,cap',cur,hv,_,hg,_,_,_,htk⟩
 ·omega
 ·injection hv with e1 e2 e3
  obtain ⟨c1,c2⟩:=pairCells_at M i p hi
  rw [← htk,List.getElem?_take,if_pos (by omega)] at c1
  rw [← htk,List.getElem?_take,if_pos (by omega)] at c2
  refine ⟨g,0,e1,(Array.getElem?_eq_some_iff.1 hg).1,?_,?_⟩
  ·rw [Nat.zero_add];simp only [World.cell?,hg];simpa using c1
  ·rw [Nat.zero_add];simp only [World.cell?,hg];simpa using c2
theorem row_none {W:World} {base:Nat} {e:TypeId} {size:Nat} {ad:Option Addr} {k cap:Nat} {xs:List Value} (h:W.ownsRow base e size (.slice ad k cap) k xs):ad=none→cap=0:=fun ha=>by
 rcases h.2 with ⟨hv,_⟩|⟨g,cap',_,hv,_⟩
 ·injection hv with e1 e2 e3
 ·injection hv with e1 e2 e3
  rw [ha] at e1;cases e1
theorem items_good (s:List UInt8) (hs:s.length≤6000) (M:List Pr) (bad:Bool) (hR:ReadIs s M bad) (h:∀ x∈items M bad,rightP x.1.2.1 x.1.2.2=true):bad=false∧(items M bad).length=M.length∧(items M bad).map (fun x=>x.1.2)=M:=by
 have ho:=offL_le s M bad hR
 cases bad with
 | true =>
  have h1:=h (itF M M.length) (by unfold items upto;exact List.mem_map.2 ⟨M.length,by rw [List.mem_range];simp,rfl⟩)
  rw [itF_end M (by have:=ho M.length;omega)] at h1
  cases h1
 | false =>
  refine ⟨rfl,by unfold items;rw [upto_length];simp,?_⟩
  unfold items upto
  rw [List.map_map]
  apply List.ext_getElem
  ·simp
  ·intro i h1 h2
   simp only [List.getElem_map,List.getElem_range,Function.comp]
   rw [itF_at M i M[i] (List.getElem?_eq_getElem h2) (by have:=ho i;omega) (hR.1 _ (List.getElem_mem h2))]
theorem row_shape {W:World} {base:Nat} {e:TypeId} {size:Nat} {v:Value} {k:Nat} {xs:List Value} (h:W.ownsRow base e size v k xs):∃ ad cap,v=.slice ad k cap:=by
 rcases h.2 with ⟨rfl,h0⟩|⟨g,cap,_,rfl,_⟩
 ·exact ⟨none,0,by rw [h0]⟩
 ·exact ⟨_,cap,rfl⟩
theorem cell_two_new (W:World) (t:TypeId) (a b:Value):∀ (j:Nat) (u:Value),[a,b][j]?=some u→(W.alloc (.cells #[a,b] t)).cell? ((⟨W.heap.size,0,none⟩:Addr).add j)=some u
 | 0,u,h=>by simp at h;subst h;simp [Addr.add]
 | 1,u,h=>by simp at h;subst h;simp [Addr.add]
 | j+2,u,h=>by simp at h
theorem rdI_of {w:World} {s:List UInt8} {pre:List It} {W w2 w1:World} (x:It) (hI:RdI w s pre W) (h2:Below W.heap.size W w2) {v v':Value} (hbv:Boxed w2 (w.heap.size+1+1) 36 v)
  (hrow:w2.ownsRow w.heap.size 43 2 v pre.length (pairCells (pre.map fun x=>x.1.2))) {tmp:Obj}
  (hown':w1.ownsRow w.heap.size 43 2 v' (pre.length+1) (pairCells (pre.map fun x=>x.1.2)++[.string (mkS x.1.2.1),.string (mkS x.1.2.2)])) (hgrow:(w2.alloc tmp).grownBy w1 v.ownBlock)
  (h20:pre.length<20) (hr:rightP x.1.2.1 x.1.2.2=true) (B:Nat) :
  KeepsFrom B W (w1.setCell ⟨w.heap.size+1+1,0,none⟩ v')∧KpR w.heap.size (w.heap.size+1+1+1) W (w1.setCell ⟨w.heap.size+1+1,0,none⟩ v')∧RdI w s (pre++[x]) (w1.setCell ⟨w.heap.size+1+1,0,none⟩ v'):=by
 have hI2:=hI.below h2
 obtain ⟨⟨⟨h0,h1⟩,h3⟩,_,h6,h7,h8⟩:=hI2
 obtain ⟨hv1,hv2,hr2,hk2,hb2⟩:=hbv.appended (by decide) hrow h6.size (by omega) hown' hgrow
 have e0:=((h0.alloc tmp).kept hgrow (h0.not_row (by decide) hrow)).other (B':=w.heap.size+1+1) (by omega) v'
 have e1:=((h1.alloc tmp).kept hgrow (h1.not_row (by decide) hrow)).other (B':=w.heap.size+1+1) (by omega) v'
 have e3:=((h3.alloc tmp).kept hgrow (h3.not_row (by decide) hrow)).other (B':=w.heap.size+1+1) (by omega) v'
 have hBW:Below w.heap.size W (w1.setCell ⟨w.heap.size+1+1,0,none⟩ v'):=(h2.mono hI.2.2.1.size).trans hb2
 refine ⟨((keeps_below h2).trans hk2).from _,⟨hBW,fun o ho _=>?_⟩,⟨⟨e0,e1⟩,e3⟩,⟨v',hv2,?_,trivial⟩,hI.2.2.1.trans hBW,?_,fun y hy=>?_⟩
 ·have:=(show W.heap[w.heap.size+1+1+1]?=_ from hI.1.2).symm.trans ho
  rw [← this];exact e3
 ·rw [List.length_append,List.map_append]
  show World.ownsRow _ _ _ _ _ (pre.length+1) (pairCells (pre.map (fun x=>x.1.2)++[x.1.2]))
  rw [pairCells_snoc];exact hr2
 ·simp;omega
 ·rcases List.mem_append.1 hy with hy|hy
  ·exact h8 y hy
  ·rw [List.mem_singleton.1 hy];exact hr
set_option maxRecDepth 100000 in
set_option maxHeartbeats 4000000 in
theorem read_in (n:Nat) (hn:6≤n) (s:List UInt8) (hs:s.length≤6000) (M:List Pr) (bad:Bool) (hR:ReadIs s M bad) (w:World) (hp:PowLaid w) (hA:AtoiLaid w) :
  CallsIn Fence.wide n Tryz.prog 131 #[.string (mkS s)] w fun e W'=>ReadOut M bad e W'∧Below w.heap.size w W':=by
 have h1:1≤n:=by omega
 refine callsIn_of_wp_marks Tryz.func131 rfl trivial ?_ rfl
 simp only [Tryz.ntmps131,List.size_toArray,List.length_cons,List.length_nil,Nat.reduceAdd,Nat.reduceSub,Array.replicate_succ,Array.replicate_zero,List.push_toArray,List.append_toArray,List.nil_append,List.cons_append]
 have hfn:Fence.wide.fn 161:=trivial
 gi_wp2_with (gi_at_call 161;refine (records_in (n - 1) s _).mono ?_;rintro e w' ⟨rfl,rfl⟩)
 have b0:=(((Boxed.new w 36 (.slice none 0 0)).alloc (.cells #[.nilIface] 31)).alloc (.cells #[.slice none 0 0] 36)).alloc (.cells #[.string (mkS s)] 9)
 have b1:=((Boxed.new (w.alloc (.cells #[.slice none 0 0] 36)) 31 .nilIface).alloc (.cells #[.slice none 0 0] 36)).alloc (.cells #[.string (mkS s)] 9)
 have b2:=(Boxed.new ((w.alloc (.cells #[.slice none 0 0] 36)).alloc (.cells #[.nilIface] 31)) 36 (.slice none 0 0)).alloc (.cells #[.string (mkS s)] 9)
 have b3:=Boxed.new (((w.alloc (.cells #[.slice none 0 0] 36)).alloc (.cells #[.nilIface] 31)).alloc (.cells #[.slice none 0 0] 36)) 9 (.string (mkS s))
 simp only [World.size_alloc] at b1 b2 b3
 have hB0:=below_alloc4 w (.cells #[.slice none 0 0] 36) (.cells #[.nilIface] 31) (.cells #[.slice none 0 0] 36) (.cells #[.string (mkS s)] 9)
 have hsz:((((w.alloc (.cells #[.slice none 0 0] 36)).alloc (.cells #[.nilIface] 31)).alloc (.cells #[.slice none 0 0] 36)).alloc (.cells #[.string (mkS s)] 9)).heap.size=w.heap.size+4:=by simp
 obtain ⟨W0,hW0⟩:∃ W0,(((w.alloc (.cells #[.slice none 0 0] 36)).alloc (.cells #[.nilIface] 31)).alloc (.cells #[.slice none 0 0] 36)).alloc (.cells #[.string (mkS s)] 9)=W0:=⟨_,rfl⟩
 rw [hW0] at b0 b1 b2 b3 hB0 hsz ⊢
 clear hW0
 have hpA:∀ W',Below w.heap.size W0 W'→PowLaid W'∧AtoiLaid W':=fun W' h=>⟨hp.below (hB0.trans h),hA.below (hB0.trans h)⟩
 have hle:w.heap.size≤W0.heap.size:=by omega
 refine wpIn_rangeFunc_ownH rfl h1 (gf:=181) (lb:=#[.pointer (some ⟨w.heap.size+1+1+1,0,none⟩)]) rfl trivial (enters_of Tryz.func181 (by kernel_rfl) rfl)
  (records_stops (n - 1) (by omega) (w.heap.size+1+1+1) w.heap.size s hs M bad hR W0 hle b3 hpA) KpR.trans (kpR_b hle) (Below.refl _ _) (fun _=>rfl)
  (RdI w s) (RdX w) (RdI.own w s _ hle) (fun c=>RdX.own w c _ hle)
  ⟨⟨⟨b0,b1⟩,b3⟩,⟨_,b2,World.ownsRow_nil _ _ _ _,trivial⟩,hB0,by simp,fun x hx=>by simp at hx⟩
  (fun x a' W=>∃ Bx,W0.heap.size≤Bx∧W.heap[Bx]?=some (pairObj x.1.2)∧a'={ tmps:=#[.string (mkS s),undef,.pointer (some ⟨w.heap.size,0,none⟩),.pointer (some ⟨w.heap.size+1,0,none⟩),.pointer (some ⟨w.heap.size+1+1,0,none⟩),.int .i64 (x.1.1:Int),.pointer (some ⟨Bx,0,none⟩),.string (mkS s),.func (.func 181) #[] #[.pointer (some ⟨w.heap.size+1+1+1,0,none⟩)],.int .i64 (x.1.1:Int),prV x.1.2.1 x.1.2.2,undef,undef,undef,undef,undef,undef,undef,undef,undef,undef,undef,undef,undef,undef,undef,undef,undef,undef,undef],defers:=[] })
  (fun x a' _ X Y row hs hg hr=>by obtain ⟨Bx,h1,h2,h3⟩:=hs;exact ⟨Bx,h1,cells_own Bx (fun (_:Unit)=>pairObj x.1.2) (fun _=>rfl) () X Y row h2 hg (fun r e=>(hr r e).2),h3⟩)
  ?assign ?body ?done ?stop
 case assign =>
  rintro l pre x W K hI hK
  have hsW:w.heap.size≤W.heap.size:=hI.2.2.1.size
  have hlt4:W0.heap.size≤W.heap.size:=by have:=hI.1.2.lt;omega
  have hb:=(Below.refl W.heap.size W).alloc (Nat.le_refl _) (.cells #[.string (mkS x.1.2.1),.string (mkS x.1.2.2)] 43)
  gi_wp2
  refine hK _ _ ((KeepsOthers.alloc _ _).from _) (KpR.of_below hb hsW) ?_ ⟨W.heap.size,hlt4,World.alloc_heap_new W _,rfl⟩
  exact (RdI.own w s w.heap.size (Nat.le_refl _)).alloc _ hI
 case body =>
  rintro l pre x a' W hl ⟨r,hr⟩ hI ⟨Bx,hBx,bX,rfl⟩ hlt
  have hfR:Fence.wide.fn 162:=trivial
  have h1':1≤n - 1 - 1:=by omega
  have x1:W.cell? ⟨Bx,0,none⟩=some (.string (mkS x.1.2.1)):=by simp [World.cell?,bX]
  have x2:W.cell? ⟨Bx,1,none⟩=some (.string (mkS x.1.2.2)):=by simp [World.cell?,bX]
  have C:=Lib.hid (right_any x.1.2.1 x.1.2.2 (by have:=x.2.2.1;omega) (by have:=x.2.2.2;omega) W)
  have Z:=Lib.hid (show ∀ w2,Below W.heap.size W w2→((∀ O,(w2.alloc O).cell? ⟨w.heap.size,0,none⟩=some (.slice none 0 0))∧(∀ O,(w2.alloc O).frozen? ⟨w.heap.size,0,none⟩=false))∧((∀ O,(w2.alloc O).cell? ⟨w.heap.size+1,0,none⟩=some .nilIface)∧(∀ O,(w2.alloc O).frozen? ⟨w.heap.size+1,0,none⟩=false))∧w.heap.size+1<w2.heap.size∧w2.cell? ⟨Bx,0,none⟩=some (.string (mkS x.1.2.1))∧w2.cell? ⟨Bx,1,none⟩=some (.string (mkS x.1.2.2))∧(∃ v,Boxed w2 (w.heap.size+1+1) 36 v∧w2.ownsRow w.heap.size 43 2 v pre.length (pairCells (pre.map fun x=>x.1.2))) from fun w2 h2=>by
   obtain ⟨⟨⟨h0,h1⟩,h3⟩,⟨v,h4,h5,_⟩,_⟩:=hI.below h2
   have hbx:=(Array.getElem?_eq_some_iff.1 bX).1
   exact ⟨⟨fun O=>(h0.alloc O).cell,fun O=>(h0.alloc O).frozen⟩,⟨fun O=>(h1.alloc O).cell,fun O=>(h1.alloc O).frozen⟩,h1.lt,(h2.cell (p:=⟨Bx,0,none⟩) hbx).trans x1,(h2.cell (p:=⟨Bx,1,none⟩) hbx).trans x2,v,h4,h5⟩)
  have HI:=Lib.hid hI
  cases hr:rightP x.1.2.1 x.1.2.2
  ·rw [hr] at C
   have HR:=Lib.hid hr
   clear hI hr bX hpA hp hA hR b0 b1 b2 b3
   gi_wp2_with (gi_at_call 162;refine (CallsIn.inRound l (callsIn_wide.2 C.out)).mono ?_;rintro e w2 ⟨rfl,h2⟩;obtain ⟨⟨c0,f0⟩,⟨c1,f1⟩,hz,_⟩:=Z.out _ h2)
   exact rdX_of x 3 HI.out h2 (Or.inl ⟨rfl,HR.out⟩) _
  ·rw [hr] at C
   have HR:=Lib.hid hr
   obtain ⟨_,⟨v,hbv,hrow,_⟩,hBW,hlen,hgood⟩:=hI
   clear hr bX hpA hp hA hR b0 b1 b2 b3
   have hV:=Lib.hid (show ∀ w2,Below W.heap.size W w2→Boxed w2 (w.heap.size+1+1) 36 v∧w2.ownsRow w.heap.size 43 2 v pre.length (pairCells (pre.map fun x=>x.1.2))∧w.heap.size≤w2.heap.size from fun w2 h2=>⟨boxed_below hbv h2,own_below hrow h2,Nat.le_trans hBW.size h2.size⟩)
   obtain ⟨ad,cap,rfl⟩:=row_shape hrow
   have HG:=Lib.hid hgood
   clear hbv hrow hBW hgood
   by_cases h20:pre.length=20
   ·have HL:=Lib.hid h20
    have h20':(pre.length:Int)=20:=by omega
    clear h20
    gi_wp2_with (gi_at_call 162;refine (CallsIn.inRound l (callsIn_wide.2 C.out)).mono ?_;rintro e w2 ⟨rfl,h2⟩;obtain ⟨⟨c0,f0⟩,⟨c1,f1⟩,hz,_⟩:=Z.out _ h2;have c4:=(hV.out _ h2).1.cell)
    exact rdX_of x 4 HI.out h2 (Or.inr ⟨rfl,HR.out,HL.out⟩) _
   ·have hL:¬ (pre.length:Int)=20:=by omega
    have h20':pre.length<20:=by omega
    obtain ⟨i0,hi,hz0,hz1,hz2⟩:=info_parts Tryz.infoPair
    clear h20
    gi_wp2_with (first
     |(gi_at_call 162;refine (CallsIn.inRound l (callsIn_wide.2 C.out)).mono ?_;rintro e w2 ⟨rfl,h2⟩;obtain ⟨_,_,hz,y1,y2,_⟩:=Z.out _ h2;obtain ⟨hbv,hrow,hsz2⟩:=hV.out _ h2;have c4:=hbv.cell)
     |(gi_at_builtin;refine wpListIn_append_own _ rfl _ _ 36 rfl w.heap.size 43 i0 (.agg #[.string { data:=#[] },.string { data:=#[] }]) 2 32 Tryz.underlying36 hi hz0 hz1 hz2 rfl (by decide) _ _ _ rfl (hrow.alloc _) ⟨w2.heap.size,0,none⟩ 1 1 [.string (mkS x.1.2.1),.string (mkS x.1.2.2)] rfl rfl (cell_two_new _ _ _ _) (by simp [Value.oneCell']) (by unfold maxLen;omega) (by omega) (by simp;omega) ?_;intro v' w1 hown' hgrow _;obtain ⟨g',cap',rfl⟩:=ownsRow_succ hown';have hv1:=(hbv.alloc _).kept hgrow (hbv.not_row (by decide) hrow);have hc1:=hv1.cell;have hf1:=hv1.frozen))
    exact rdI_of x HI.out h2 hbv hrow hown' hgrow h20' HR.out _
 case done =>
  rintro D xs W hD rfl ⟨⟨⟨c0,c1⟩,c3⟩,⟨v,c4,hrow,_⟩,hBW,hlen,hgood⟩ hK
  obtain ⟨rfl,hil,him⟩:=items_good s hs M bad hR hgood
  rw [him,hil] at hrow
  rw [hil] at hlen
  obtain ⟨ad,cap,rfl⟩:=row_shape hrow
  have k0:=c0.cell
  have k1:=c1.cell
  have k4:=c4.cell
  have f0:=c0.frozen
  have f1:=c1.frozen
  have n0:=c0.not_row (by decide) hrow
  have n1:=c1.not_row (by decide) hrow
  have HB:=Lib.hid (And.intro (And.intro c0 c1) (And.intro hBW (And.intro hrow (And.intro n0 n1))))
  have hD':=hD
  clear hpA hp hA hR b0 b1 b2 b3 c0 c1 c3 c4 hBW hgood him n0 n1 hrow hil hB0
  gi_wp2
  obtain ⟨⟨c0,c1⟩,hBW,hrow,n0,n1⟩:=HB.out
  have hK':=((KeepsOthers.setCell W ⟨w.heap.size,0,none⟩ (.slice ad M.length cap)).trans (KeepsOthers.setCell _ ⟨w.heap.size+1,0,none⟩ .nilIface)).same D _ hK rfl
  refine ⟨by simp,.inl ⟨_,_,rfl,run_takeDeferred hK',?_⟩⟩
  have d2:=cell_kept ((c0.set (.slice ad M.length cap)).other (B':=w.heap.size+1) (by omega) .nilIface).cell (grownBy_putObj' _ D (.deferred none)) (fun r e=>by cases e;exact ⟨_,hK',rfl⟩)
  have d3:=cell_kept ((c1.other (B':=w.heap.size) (by omega) (.slice ad M.length cap)).set .nilIface).cell (grownBy_putObj' _ D (.deferred none)) (fun r e=>by cases e;exact ⟨_,hK',rfl⟩)
  have hr2:=ownsRow_putObj ((hrow.kept (grownBy_setCell' W w.heap.size (.slice ad M.length cap)) (.inr n0.symm)).kept (grownBy_setCell' _ (w.heap.size+1) .nilIface) (.inr n1.symm)) (.deferred none) hK' rfl
  refine ⟨.tuple #[.slice ad M.length cap,.nilIface],?_,Or.inl ⟨hlen,rfl,ad,cap,row_none hr2,rfl,pairsAt_of_row hr2⟩,((hBW.setCell (p:=⟨w.heap.size,0,none⟩) (Nat.le_refl _) _).setCell (p:=⟨w.heap.size+1,0,none⟩) (by simp) _).trans (belowK_b (w:=w) (Nat.le_refl _) _ D _ _ (by omega) hK' rfl rfl)⟩
  simp [results,Tryz.f131,go_sem,d2,d3]
 case stop =>
  rintro D c pre W hD ⟨k,hk,rfl⟩ ⟨rfl,pb,er,x,pre',⟨⟨c0,c1⟩,c5⟩,hBW,hpre,hlen,hgood,her⟩ hK
  have ho:=offL_le s M bad hR
  have hout:(M.length≤20∧bad=true∧er=3∧x.1.1=offL M M.length)∨(20<M.length∧er=4∧x.1.1=offL M 20):=by
   cases k with
   | zero=>simp [upto] at hpre
   | succ k =>
    rw [upto_succ] at hpre
    obtain ⟨q1,q2⟩:=List.append_inj' hpre rfl
    have q3:itF M k=x:=by simpa using q2
    have q4:pre'.length=k:=by rw [← q1,upto_length]
    unfold items at hk
    rw [upto_length] at hk
    by_cases hkM:k<M.length
    ·have q5:=itF_at M k M[k] (List.getElem?_eq_getElem hkM) (by have:=ho k;omega) (hR.1 _ (List.getElem_mem hkM))
     rw [q3] at q5
     rcases her with ⟨_,h⟩|⟨h,_,h2⟩
     ·rw [q5,hR.1 _ (List.getElem_mem hkM)] at h;cases h
     ·right
      refine ⟨by omega,h,?_⟩
      rw [q5]
      show offL M k=offL M 20
      rw [← q4,h2]
    ·have hb:bad=true:=by cases bad with
      | true=>rfl
      | false=>simp at hk;omega
     have hkl:k=M.length:=by rw [hb] at hk;simp at hk;omega
     have q5:=itF_end M (by have:=ho M.length;omega)
     rw [← hkl,q3] at q5
     rcases her with ⟨h,_⟩|⟨_,h,_⟩
     ·left
      exact ⟨by omega,hb,h,by rw [q5,hkl]⟩
     ·rw [q5] at h;cases h
  have HB:=Lib.hid (And.intro (And.intro c0 c1) (And.intro hBW (And.intro c5 hout)))
  clear hpA hp hA hR b0 b1 b2 b3 c0 c1 hBW hgood hpre hout her c5 ho hB0
  gi_wp2
  obtain ⟨⟨c0,c1⟩,hBW,c5,hout⟩:=HB.out
  refine ⟨by simp,.inl ⟨_,_,rfl,run_takeDeferred hK,?_⟩⟩
  have d2:=cell_kept c0.cell (grownBy_putObj' _ D (.deferred none)) (fun r e=>by cases e;exact ⟨_,hK,rfl⟩)
  have d3:=cell_kept c1.cell (grownBy_putObj' _ D (.deferred none)) (fun r e=>by cases e;exact ⟨_,hK,rfl⟩)
  have e0:W.cell? ⟨pb,0,none⟩=some (.int .i64 er):=by simp [World.cell?,c5]
  have e1:W.cell? ⟨pb,1,none⟩=some (.int .i64 (x.1.1:Int)):=by simp [World.cell?,c5]
  have d4:=cell_kept e0 (grownBy_putObj' _ D (.deferred none)) (fun r e=>by cases e;exact ⟨_,hK,rfl⟩)
  have d5:=cell_kept e1 (grownBy_putObj' _ D (.deferred none)) (fun r e=>by cases e;exact ⟨_,hK,rfl⟩)
  refine ⟨.tuple #[.slice none 0 0,.iface 85 (.pointer (some ⟨pb,0,none⟩))],?_,Or.inr ⟨pb,er,x.1.1,hout,rfl,d4,d5⟩,hBW.trans (belowK_b (w:=w) (Nat.le_refl _) W D _ _ (by omega) hK rfl rfl)⟩
  simp [results,Tryz.f131,go_sem,d2,d3]
theorem read_any (s:List UInt8) (hs:s.length≤6000) (M:List Pr) (bad:Bool) (hR:ReadIs s M bad) (w:World) (hp:PowLaid w) (hA:AtoiLaid w) :
  Calls Tryz.prog 131 #[.string (mkS s)] w fun e W'=>ReadOut M bad e W'∧Below w.heap.size w W' :=
 (callsIn_wide (n:=6)).1 (read_in 6 (by omega) s hs M bad hR w hp hA)
end Go.Proofs.YtdjcjaidklgamaaGreatDoor.Px
end
