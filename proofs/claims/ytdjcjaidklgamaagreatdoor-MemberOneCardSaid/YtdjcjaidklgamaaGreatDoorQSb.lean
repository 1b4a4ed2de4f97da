import Derived.Test.YtdjcjaidklgamaaGreatDoorQSa
set_option linter.unusedSimpArgs false
set_option linter.unusedVariables false
section
namespace Go.Proofs.YtdjcjaidklgamaaGreatDoor.St
open Go.RowKit Go.Joins
theorem mkS_emp_any (l:List UInt8):(mkS l).toList.isEmpty=decide (l=[]):=by
 rw [ByteArray.toList_eq,mkS_list]
 cases l <;> simp
def dig (c:UInt8):Bool:=decide (48≤c.toNat)&&decide (c.toNat≤57)
def isDig (l:List UInt8):Bool:=l.all dig&&!decide (l=[])
theorem dig_iff (c:UInt8):dig c=true↔48≤c.toNat∧c.toNat≤57:=by simp [dig]
theorem take_all (l:List UInt8) (k:Nat) (c:UInt8) (h:l[k]?=some c):(l.take (k+1)).all dig=((l.take k).all dig&&dig c):=by
 rw [List.take_add_one,h,List.all_append]
 simp
theorem all_false (l:List UInt8) (k:Nat) (c:UInt8) (h:l[k]?=some c) (hc:dig c=false):isDig l=false:=by
 have:l.all dig=false:=by
  rw [Bool.eq_false_iff]
  intro ha
  rw [List.all_eq_true] at ha
  have:=ha c (List.mem_of_getElem? h)
  rw [hc] at this;cases this
 rw [isDig,this,Bool.false_and]
set_option maxHeartbeats 1000000 in
theorem isDigits_any (l:List UInt8) (w:World) (hl:l.length≤1000) :
  Calls Tryz.prog 187 #[.string (mkS l)] w fun e w'=>e=.returned (.bool (isDig l))∧w'=w:=by
 have hsz:=mkS_size l
 go_enter Tryz.func187,Tryz.ntmps187
 go_wp2
 go_loop [6] (fun i=>∃ k:Nat,k≤l.length∧i=.int .i64 k∧(l.take k).all dig=true) (fun i=>l.length - (intOf i).toNat)
 case atStart=>exact ⟨0,Nat.zero_le _,rfl,rfl⟩
 case round =>
  obtain ⟨k,hk,rfl,hall⟩:=hrel
  by_cases hlt:k<l.length
  ·have hlt':(k:Int)<(l.length:Int):=by omega
   obtain ⟨c,hc⟩:∃ c,l[k]?=some c:=⟨_,List.getElem?_eq_getElem hlt⟩
   have hix:=fun w=>mkS_index l (k:Int) c (by omega) (by rw [Int.toNat_natCast];exact hc) w
   have Hc:=Lib.hid hc
   have Hall:=Lib.hid hall
   clear hc hall
   by_cases h48:(c.toNat:Int)<48
   ·have hfin:isDig l=false:=all_false l k c Hc.out (by rw [Bool.eq_false_iff,ne_eq,dig_iff];omega)
    have Hf:=Lib.hid hfin
    clear hfin
    go_wp2
    go_ret
    exact ⟨by rw [Hf.out];rfl,rfl⟩
   ·have h48':decide ((c.toNat:Int)<48)=false:=by simpa using h48
    by_cases h57:57<(c.toNat:Int)
    ·have hfin:isDig l=false:=all_false l k c Hc.out (by rw [Bool.eq_false_iff,ne_eq,dig_iff];omega)
     have Hf:=Lib.hid hfin
     clear hfin
     go_wp2
     go_ret
     exact ⟨by rw [Hf.out];rfl,rfl⟩
    ·have h57':decide (57<(c.toNat:Int))=false:=by simpa using h57
     have hd:dig c=true:=(dig_iff c).2 (by omega)
     have Hd:=Lib.hid hd
     clear hd
     go_wp2
     go_round
     case rel=>exact ⟨k+1,by omega,by go_num,by rw [take_all l k c Hc.out,Hall.out,Hd.out];rfl⟩
     case measure=>simp [intOf];omega
  ·obtain rfl:k=l.length:=by omega
   have hlt':decide ((l.length:Int)<(l.length:Int))=false:=by simp
   rw [List.take_length] at hall
   have he:=mkS_emp_any l
   have Hall:=Lib.hid hall
   clear hall
   go_wp2
   go_ret
   exact ⟨by rw [isDig,Hall.out];rfl,rfl⟩
def valD (l:List UInt8):Int:=l.foldl (fun n c=>10 * n+((c.toNat:Int) - 48)) 0
theorem valD_snoc (l:List UInt8) (c:UInt8):valD (l++[c])=10 * valD l+((c.toNat:Int) - 48):=by simp [valD]
theorem valD_take (l:List UInt8) (k:Nat) (c:UInt8) (h:l[k]?=some c):valD (l.take (k+1))=10 * valD (l.take k)+((c.toNat:Int) - 48):=by
 rw [List.take_add_one,h,Option.toList_some,valD_snoc]
theorem valD_lt:∀ (k:Nat) (l:List UInt8),l.length=k→l.all dig=true→0≤valD l∧valD l<((10 ^ k:Nat):Int)
 | 0,l,h,_=>by obtain rfl:=List.eq_nil_of_length_eq_zero h;decide
 | k+1,l,h,ha=>by
  rcases List.eq_nil_or_concat l with rfl|⟨y,c,rfl⟩
  ·cases h
  ·rw [List.concat_eq_append] at *
   rw [List.all_append,Bool.and_eq_true] at ha
   have hc:=(dig_iff c).1 (by simpa using ha.2)
   obtain ⟨i1,i2⟩:=valD_lt k y (by simpa using h) ha.1
   rw [valD_snoc,Nat.pow_succ]
   omega
theorem pow10_le {k m:Nat} (h:k≤m):10 ^ k≤10 ^ m:=Nat.pow_le_pow_right (by decide) h
set_option maxHeartbeats 1000000 in
theorem value_any (l:List UInt8) (w:World) (hl:l.length≤17) (ha:l.all dig=true) :
  Calls Tryz.prog 188 #[.string (mkS l)] w fun e w'=>e=.returned (.int .i64 (valD l))∧w'=w:=by
 have hsz:=mkS_size l
 have hmem:∀ (k:Nat) c,l[k]?=some c→48≤c.toNat∧c.toNat≤57:=fun k c h=>(dig_iff c).1 ((List.all_eq_true.1 ha) c (List.mem_of_getElem? h))
 have hb:∀ k,k≤l.length→0≤valD (l.take k)∧valD (l.take k)<100000000000000000:=fun k hk=>by
  have h1:(l.take k).length=k:=by rw [List.length_take];omega
  have h2:(l.take k).all dig=true:=List.all_eq_true.2 fun c hc=>(List.all_eq_true.1 ha) c (List.mem_of_mem_take hc)
  have h3:=valD_lt k (l.take k) h1 h2
  have h4:=pow10_le (show k≤17 by omega)
  have h5:(10:Nat) ^ 17=100000000000000000:=by decide
  omega
 have Hb:=Lib.hid hb
 have Hm:=Lib.hid hmem
 clear hb hmem
 go_enter Tryz.func188,Tryz.ntmps188
 go_wp2
 go_loop [3,7] (fun n i=>∃ k:Nat,k≤l.length∧i=.int .i64 k∧n=.int .i64 (valD (l.take k))) (fun _ i=>l.length - (intOf i).toNat)
 case atStart=>exact ⟨0,Nat.zero_le _,rfl,rfl⟩
 case round =>
  obtain ⟨k,hk,rfl,rfl⟩:=hrel
  by_cases hlt:k<l.length
  ·have hlt':(k:Int)<(l.length:Int):=by omega
   obtain ⟨c,hc⟩:∃ c,l[k]?=some c:=⟨_,List.getElem?_eq_getElem hlt⟩
   have hix:=fun w=>mkS_index l (k:Int) c (by omega) (by rw [Int.toNat_natCast];exact hc) w
   have hc1:=Hm.out k c hc
   have hc2:48≤(c.toNat:Int)∧(c.toNat:Int)≤57:=by omega
   have hv:=Hb.out k hk
   have hs:=valD_take l k c hc
   have Hs:=Lib.hid hs
   clear hs hc hc1
   generalize valD (l.take k)=v at hv Hs
   go_wp2
   go_round
   case rel=>exact ⟨k+1,by omega,by go_num,by rw [Hs.out]⟩
   case measure=>simp [intOf];omega
  ·obtain rfl:k=l.length:=by omega
   have hlt':decide ((l.length:Int)<(l.length:Int))=false:=by simp
   rw [List.take_length]
   go_wp2
   go_ret
   exact ⟨rfl,rfl⟩
end Go.Proofs.YtdjcjaidklgamaaGreatDoor.St
end
section
namespace Go.Proofs.YtdjcjaidklgamaaGreatDoor.St
open Go.RowKit Go.Joins
def wholeOf (u:List UInt8):List UInt8:=u.takeWhile (· != 46)
def fracOf (u:List UInt8):List UInt8:=(u.dropWhile (· != 46)).drop 1
def pointOf (u:List UInt8):Bool:=u.contains 46
theorem index_no:∀ (u:List UInt8),u.contains 46=false→Lib.indexByte u 46=-1
 | [],_=>rfl
 | b :: u,h=>by
  rw [List.contains_cons,Bool.or_eq_false_iff] at h
  have hb:(b==46)=false:=by rw [Bool.beq_comm];exact h.1
  rw [Lib.indexByte,hb,index_no u h.2];rfl
theorem index_yes:∀ (u:List UInt8),u.contains 46=true→Lib.indexByte u 46=((wholeOf u).length:Int)∧u=wholeOf u++46 :: fracOf u
 | [],h=>by cases h
 | b :: u,h=>by
  by_cases hb:b=46
  ·subst hb
   exact ⟨rfl,rfl⟩
  ·have hb':(b==46)=false:=by simpa using hb
   rw [List.contains_cons,show (46==b)=false by rw [Bool.beq_comm];exact hb',Bool.false_or] at h
   obtain ⟨i1,i2⟩:=index_yes u h
   have e1:wholeOf (b :: u)=b :: wholeOf u:=by simp [wholeOf,hb]
   have e2:fracOf (b :: u)=fracOf u:=by simp [fracOf,hb]
   rw [e1,e2,Lib.indexByte,hb',i1]
   refine ⟨?_,by rw [List.cons_append,← i2]⟩
   rw [if_neg (by simp),if_neg (by simp)]
   rfl
theorem whole_no:∀ (u:List UInt8),u.contains 46=false→wholeOf u=u∧fracOf u=[]
 | [],_=>⟨rfl,rfl⟩
 | b :: u,h=>by
  rw [List.contains_cons,Bool.or_eq_false_iff] at h
  have hb:¬ b=46:=by intro e;subst e;simp at h
  obtain ⟨i1,i2⟩:=whole_no u h.2
  exact ⟨by simp [wholeOf,hb];exact i1,by simp [fracOf,hb];simpa [fracOf] using i2⟩
theorem indexLite (u:List UInt8) (w:World) :
  Calls Tryz.prog 171 #[.string (mkS u),.string { data:=#[46] }] w fun e w'=>e=.returned (.int .i64 (Lib.indexByte u 46))∧w'=w:=by
 have h:=Tryz.stringslite_Index_one (mkS u) 46 w
 rwa [mkS_list] at h
theorem cutLite (u:List UInt8) (w:World) (hl:u.length≤1000) :
  Calls Tryz.prog 157 #[.string (mkS u),.string { data:=#[46] }] w fun e w'=>e=.returned (.tuple #[.string (mkS (wholeOf u)),.string (mkS (fracOf u)),.bool (pointOf u)])∧∃ n,w'=w.drewN n:=by
 have hI:=Lib.hid (fun w=>indexLite u w)
 cases hp:u.contains 46
 ·rw [index_no u hp] at hI
  obtain ⟨e1,e2⟩:=whole_no u hp
  have e3:pointOf u=false:=hp
  rw [e1,e2,e3]
  clear e1 e2 e3 hp
  go_enter Tryz.func157,Tryz.ntmps157
  go_wp2_with (go_at_call 171;refine (hI.out _).mono ?_;rintro e w' ⟨rfl,hw⟩;replace hw:=hw.symm;subst hw)
  refine bodyPost_ret (results_tmp3 rfl _ _ _) rfl ?_
  exact ⟨rfl,0,rfl⟩
 ·obtain ⟨i1,i2⟩:=index_yes u hp
  rw [i1] at hI
  have e3:pointOf u=true:=hp
  rw [e3]
  have hlen:(wholeOf u).length+1+(fracOf u).length=u.length:=by
   have:=congrArg List.length i2
   simp at this;omega
  have t1:u.take (wholeOf u).length=wholeOf u:=by
   have:=congrArg (List.take (wholeOf u).length) i2
   rwa [List.take_left'] at this;rfl
  have t2:u.drop ((wholeOf u).length+1)=fracOf u:=by
   have:=congrArg (List.drop ((wholeOf u).length+1)) i2
   rw [this,← List.drop_drop,List.drop_left']
   ·rfl
   ·rfl
  have s1:=fun w=>mkS_upto u (wholeOf u).length (by omega) w
  have s2:=fun w=>mkS_onward u ((wholeOf u).length+1) (by omega) w
  rw [t1] at s1
  rw [t2] at s2
  clear i1 i2 e3 hp t1 t2
  generalize hk:(wholeOf u).length=k at *
  generalize wholeOf u=a at *
  generalize fracOf u=b at *
  have hk1:k+1≤1000:=by omega
  simp only [Int.natCast_add,Int.natCast_one] at s2
  clear hk hlen hl
  go_enter Tryz.func157,Tryz.ntmps157
  go_wp2_with (go_at_call 171;refine (hI.out _).mono ?_;rintro e w' ⟨rfl,hw⟩;replace hw:=hw.symm;subst hw)
  go_quiet (fail)
  go_wp2
  refine bodyPost_ret (results_tmp3 rfl _ _ _) rfl ?_
  exact ⟨rfl,nq,rfl⟩
theorem cutDot_any (u:List UInt8) (w:World) (hl:u.length≤1000) :
  Calls Tryz.prog 127 #[.string (mkS u),.string { data:=#[46] }] w fun e w'=>e=.returned (.tuple #[.string (mkS (wholeOf u)),.string (mkS (fracOf u)),.bool (pointOf u)])∧∃ n,w'=w.drewN n:=by
 have hC:=Lib.hid (cutLite u w hl)
 go_enter Tryz.func127,Tryz.ntmps127
 go_wp2_with (go_at_call 157;refine hC.out.mono ?_;rintro e w' ⟨rfl,n,rfl⟩)
 refine bodyPost_ret (results_tmp3 rfl _ _ _) rfl ?_
 exact ⟨rfl,n,rfl⟩
theorem cutPrefix_any (l:List UInt8) (w:World) :
  Calls Tryz.prog 186 #[.string (mkS l),.string { data:=#[45] }] w fun e w'=>e=.returned (.tuple #[.string (mkS (Lib.trimPrefix l [45])),.bool (Lib.hasPrefix l [45])])∧w'=w:=by
 have h:=Tryz.strings_CutPrefix (mkS l) (mkS [45]) w
 rwa [mkS_list,mkS_list] at h
def nanoD (b:List UInt8):Int:=valD (b.take 9) * ((10 ^ (9 - b.length):Nat):Int)
def moreD (b:List UInt8):Bool:=!decide (Lib.trimLeftB (b.drop 9) 48=[])
theorem nano_step (V:Int) (m k:Nat) (h0:0≤V) (h1:V<((10 ^ m:Nat):Int)) (hk:k+m≤9):0≤V * ((10 ^ k:Nat):Int)∧V * ((10 ^ k:Nat):Int)<1000000000:=by
 have hp:(0:Int)<((10 ^ k:Nat):Int):=by exact_mod_cast Nat.pow_pos (by decide)
 refine ⟨Int.mul_nonneg h0 (by omega),?_⟩
 have h2:V * ((10 ^ k:Nat):Int)<((10 ^ m:Nat):Int) * ((10 ^ k:Nat):Int):=Int.mul_lt_mul_of_pos_right h1 hp
 have h3:((10 ^ m:Nat):Int) * ((10 ^ k:Nat):Int)=((10 ^ (m+k):Nat):Int):=by rw [Nat.pow_add];push_cast;rfl
 have h4:=pow10_le (show m+k≤9 by omega)
 have h5:(10:Nat) ^ 9=1000000000:=by decide
 omega
theorem nanoD_range (b:List UInt8) (ha:b.all dig=true):0≤nanoD b∧nanoD b<1000000000:=by
 have h2:(b.take 9).all dig=true:=List.all_eq_true.2 fun c hc=>(List.all_eq_true.1 ha) c (List.mem_of_mem_take hc)
 obtain ⟨v1,v2⟩:=valD_lt _ (b.take 9) rfl h2
 exact nano_step _ _ _ v1 v2 (by rw [List.length_take];omega)
set_option maxHeartbeats 1000000 in
theorem nanoseconds_any (b:List UInt8) (w:World) (hl:b.length≤1000) (ha:b.all dig=true) :
  Calls Tryz.prog 189 #[.string (mkS b)] w fun e w'=>e=.returned (.tuple #[.int .i64 (nanoD b),.bool (moreD b)])∧w'=w:=by
 have hsz:=mkS_size b
 have h2:(b.take 9).all dig=true:=List.all_eq_true.2 fun c hc=>(List.all_eq_true.1 ha) c (List.mem_of_mem_take hc)
 obtain ⟨v1,v2⟩:=valD_lt _ (b.take 9) rfl h2
 have hv:=fun w=>value_any (b.take 9) w (by rw [List.length_take];omega) h2
 have ht:=fun w=>trimLeft0 (b.drop 9) w
 have he:=mkS_emp_any (Lib.trimLeftB (b.drop 9) 48)
 have hmore:moreD b=!decide (Lib.trimLeftB (b.drop 9) 48=[]):=rfl
 rw [hmore]
 have hstep:∀ k:Nat,k≤9 - b.length→0≤valD (b.take 9) * ((10 ^ k:Nat):Int)∧valD (b.take 9) * ((10 ^ k:Nat):Int)<1000000000:=fun k hk=>nano_step _ _ k v1 v2 (by rw [List.length_take];omega)
 have hnext:∀ k:Nat,valD (b.take 9) * ((10 ^ k:Nat):Int) * 10=valD (b.take 9) * ((10 ^ (k+1):Nat):Int):=fun k=>by rw [Nat.pow_succ];push_cast;rw [Int.mul_assoc]
 have hnano:nanoD b=valD (b.take 9) * ((10 ^ (9 - b.length):Nat):Int):=rfl
 have s1:∀ w,(Instr.slice 9 (.string (mkS b)) none (some (.int .i64 (min (b.length:Int) 9))) none).run Tryz.prog w=.ok (.string (mkS (b.take 9))) w:=fun w=>by
  have h:=mkS_upto b (min b.length 9) (by omega) w
  rwa [show ((min b.length 9:Nat):Int)=min (b.length:Int) 9 by omega,show b.take (min b.length 9)=b.take 9 by rcases Nat.le_total b.length 9 with h|h;rw [Nat.min_eq_left h,List.take_length,List.take_of_length_le h];rw [Nat.min_eq_right h]] at h
 have s2:∀ w,(Instr.slice 9 (.string (mkS b)) (some (.int .i64 (min (b.length:Int) 9))) none none).run Tryz.prog w=.ok (.string (mkS (b.drop 9))) w:=fun w=>by
  have h:=mkS_onward b (min b.length 9) (by omega) w
  rwa [show ((min b.length 9:Nat):Int)=min (b.length:Int) 9 by omega,show b.drop (min b.length 9)=b.drop 9 by rcases Nat.le_total b.length 9 with h|h;rw [Nat.min_eq_left h,List.drop_length,List.drop_eq_nil_of_le h];rw [Nat.min_eq_right h]] at h
 rw [hnano]
 clear hmore hnano v1 v2 h2 ha
 generalize Lib.trimLeftB (b.drop 9) 48=T at ht he ⊢
 generalize b.drop 9=D at ht s2
 generalize b.take 9=H at hv s1 hstep hnext ⊢
 generalize valD H=V at hv hstep hnext ⊢
 have HV:=Lib.hid hv
 have HT:=Lib.hid ht
 have HS:=Lib.hid hstep
 have HN:=Lib.hid hnext
 clear hv ht hstep hnext
 go_enter Tryz.func189,Tryz.ntmps189
 go_wp2_with (go_at_call 188;refine (HV.out _).mono ?_;rintro e w' ⟨rfl,hw⟩;replace hw:=hw.symm;subst hw)
 go_loop [5,15] (fun n i=>∃ k:Nat,k≤9 - b.length∧i=.int .i64 k∧n=.int .i64 (V * ((10 ^ k:Nat):Int))) (fun _ i=>9 - (intOf i).toNat)
 case atStart=>exact ⟨0,Nat.zero_le _,rfl,by simp⟩
 case round =>
  obtain ⟨k,hk,rfl,rfl⟩:=hrel
  by_cases hlt:k<9 - b.length
  ·have hlt':(k:Int)<9 - min (b.length:Int) 9:=by omega
   have hv:=HS.out k hk
   have hn:=HN.out k
   generalize V * ((10 ^ k:Nat):Int)=v at hv hn ⊢
   have Hn:=Lib.hid hn
   clear hn
   go_wp2
   go_round
   case rel=>exact ⟨k+1,by omega,by go_num,by rw [Hn.out]⟩
   case measure=>simp [intOf];omega
  ·obtain rfl:k=9 - b.length:=by omega
   have hlt':decide (((9 - b.length:Nat):Int)<9 - min (b.length:Int) 9)=false:=by simp;omega
   go_wp2_with (go_at_call 160;refine (HT.out _).mono ?_;rintro e w' ⟨rfl,hw⟩;replace hw:=hw.symm;subst hw)
   go_ret2
   exact ⟨rfl,rfl⟩
end Go.Proofs.YtdjcjaidklgamaaGreatDoor.St
end
section
namespace Go.Proofs.YtdjcjaidklgamaaGreatDoor.St
open Go.RowKit Go.Joins
def errV (c:Int):Value:=if c=0 then .nilIface else .iface 68 (.int .i64 c)
def negS (sec N:Int):Int:=if N=0 then -sec else -sec - 1
def negN (N:Int):Int:=if N=0 then 0 else 1000000000 - N
def timeF (neg:Bool) (sec nano:Int) (more:Bool):Int × Int × Int :=
 let N:=if neg&&more then nano+1 else nano
 let s:=if neg then negS sec N else sec
 let n:=if neg then negN N else N
 if rightB s n then (0,s,n) else (2,0,0)
def parseF (l:List UInt8):Int × Int × Int :=
 let u:=Lib.trimPrefix l [45]
 if isDig (wholeOf u)&&(!pointOf u || isDig (fracOf u)) then
  if 15<(Lib.trimLeftB (wholeOf u) 48).length then (2,0,0)
  else timeF (Lib.hasPrefix l [45]) (valD (Lib.trimLeftB (wholeOf u) 48)) (nanoD (fracOf u)) (moreD (fracOf u))
 else (3,0,0)
theorem negate_any (sec N:Int) (w:World) (h1:-1099511627776000≤sec) (h2:sec≤1099511627776000) (h3:0≤N) (h4:N≤1000000000) :
  Calls Tryz.prog 122 #[.int .i64 sec,.int .i64 N] w fun e w'=>e=.returned (.tuple #[.int .i64 (negS sec N),.int .i64 (negN N)])∧w'=w:=by
 by_cases h:N=0
 ·subst h
  have e1:negS sec 0=-sec:=rfl
  rw [e1]
  go_enter Tryz.func122,Tryz.ntmps122
  go_wp2
  go_ret2
  exact ⟨rfl,rfl⟩
 ·have e1:negS sec N=-sec - 1:=by unfold negS;rw [if_neg h]
  have e2:negN N=1000000000 - N:=by unfold negN;rw [if_neg h]
  rw [e1,e2]
  exact negate_n sec N w h1 h2 (by omega) (by omega) h
section
variable {l u a b:List UInt8} {neg pt:Bool} (w:World)
 (HCP:Hid (∀ w,Calls Tryz.prog 186 #[.string (mkS l),.string { data:=#[45] }] w fun e w'=>e=.returned (.tuple #[.string (mkS u),.bool neg])∧w'=w))
 (HC:Hid (∀ w,Calls Tryz.prog 127 #[.string (mkS u),.string { data:=#[46] }] w fun e w'=>e=.returned (.tuple #[.string (mkS a),.string (mkS b),.bool pt])∧∃ n,w'=w.drewN n))
include HCP HC
theorem parse_form1 (HD1:Hid (∀ w,Calls Tryz.prog 187 #[.string (mkS a)] w fun e w'=>e=.returned (.bool false)∧w'=w)) :
  Calls Tryz.prog 166 #[.string (mkS l)] w fun e w'=>e=.returned (.tuple #[tmV 0 0,errV 3])∧Below w.heap.size w w':=by
 go_enter Tryz.func166,Tryz.ntmps166
 go_wp2_with (first
  |(go_at_call 186;refine (HCP.out _).mono ?_;rintro e w' ⟨rfl,hw⟩;replace hw:=hw.symm;subst hw)
  |(go_at_call 127;refine (HC.out _).mono ?_;rintro e w' ⟨rfl,nn,rfl⟩)
  |(go_at_call 187;with_reducible refine (HD1.out _).mono ?_;rintro e w' ⟨rfl,hw⟩;replace hw:=hw.symm;subst hw))
 exact bodyPost_ret (v:=.tuple #[tmV 0 0,errV 3]) (by simp [results,Tryz.results166,go_sem,errV]) rfl ⟨rfl,(((below_alloc1 w _).trans (below_draws _ _ nn)).setCell (by simp) _).setCell (by simp) _⟩
theorem parse_form2 (hpt:pt=true) (HD1:Hid (∀ w,Calls Tryz.prog 187 #[.string (mkS a)] w fun e w'=>e=.returned (.bool true)∧w'=w)) (HD2:Hid (∀ w,Calls Tryz.prog 187 #[.string (mkS b)] w fun e w'=>e=.returned (.bool false)∧w'=w)) :
  Calls Tryz.prog 166 #[.string (mkS l)] w fun e w'=>e=.returned (.tuple #[tmV 0 0,errV 3])∧Below w.heap.size w w':=by
 subst hpt
 go_enter Tryz.func166,Tryz.ntmps166
 go_wp2_with (first
  |(go_at_call 186;refine (HCP.out _).mono ?_;rintro e w' ⟨rfl,hw⟩;replace hw:=hw.symm;subst hw)
  |(go_at_call 127;refine (HC.out _).mono ?_;rintro e w' ⟨rfl,nn,rfl⟩)
  |(go_at_call 187;with_reducible refine (HD1.out _).mono ?_;rintro e w' ⟨rfl,hw⟩;replace hw:=hw.symm;subst hw)
  |(go_at_call 187;with_reducible refine (HD2.out _).mono ?_;rintro e w' ⟨rfl,hw⟩;replace hw:=hw.symm;subst hw))
 exact bodyPost_ret (v:=.tuple #[tmV 0 0,errV 3]) (by simp [results,Tryz.results166,go_sem,errV]) rfl ⟨rfl,(((below_alloc1 w _).trans (below_draws _ _ nn)).setCell (by simp) _).setCell (by simp) _⟩
variable {t:List UInt8}
 (HD1:Hid (∀ w,Calls Tryz.prog 187 #[.string (mkS a)] w fun e w'=>e=.returned (.bool true)∧w'=w))
 (HT:Hid (∀ w,Calls Tryz.prog 160 #[.string (mkS a),.string { data:=#[48] }] w fun e w'=>e=.returned (.string (mkS t))∧w'=w))
include HD1 HT
theorem parse_range_false (hpt:pt=false) (ht:15<(t.length:Int)) :
  Calls Tryz.prog 166 #[.string (mkS l)] w fun e w'=>e=.returned (.tuple #[tmV 0 0,errV 2])∧Below w.heap.size w w':=by
 subst hpt
 have hsz:=mkS_size t
 go_enter Tryz.func166,Tryz.ntmps166
 go_wp2_with (first
  |(go_at_call 186;refine (HCP.out _).mono ?_;rintro e w' ⟨rfl,hw⟩;replace hw:=hw.symm;subst hw)
  |(go_at_call 127;refine (HC.out _).mono ?_;rintro e w' ⟨rfl,nn,rfl⟩)
  |(go_at_call 187;with_reducible refine (HD1.out _).mono ?_;rintro e w' ⟨rfl,hw⟩;replace hw:=hw.symm;subst hw)
  |(go_at_call 160;with_reducible refine (HT.out _).mono ?_;rintro e w' ⟨rfl,hw⟩;replace hw:=hw.symm;subst hw))
 exact bodyPost_ret (v:=.tuple #[tmV 0 0,errV 2]) (by simp [results,Tryz.results166,go_sem,errV]) rfl ⟨rfl,(((below_alloc1 w _).trans (below_draws _ _ nn)).setCell (by simp) _).setCell (by simp) _⟩
theorem parse_range_true (hpt:pt=true) (HD2:Hid (∀ w,Calls Tryz.prog 187 #[.string (mkS b)] w fun e w'=>e=.returned (.bool true)∧w'=w)) (ht:15<(t.length:Int)) :
  Calls Tryz.prog 166 #[.string (mkS l)] w fun e w'=>e=.returned (.tuple #[tmV 0 0,errV 2])∧Below w.heap.size w w':=by
 subst hpt
 have hsz:=mkS_size t
 go_enter Tryz.func166,Tryz.ntmps166
 go_wp2_with (first
  |(go_at_call 186;refine (HCP.out _).mono ?_;rintro e w' ⟨rfl,hw⟩;replace hw:=hw.symm;subst hw)
  |(go_at_call 127;refine (HC.out _).mono ?_;rintro e w' ⟨rfl,nn,rfl⟩)
  |(go_at_call 187;with_reducible refine (HD1.out _).mono ?_;rintro e w' ⟨rfl,hw⟩;replace hw:=hw.symm;subst hw)
  |(go_at_call 187;with_reducible refine (HD2.out _).mono ?_;rintro e w' ⟨rfl,hw⟩;replace hw:=hw.symm;subst hw)
  |(go_at_call 160;with_reducible refine (HT.out _).mono ?_;rintro e w' ⟨rfl,hw⟩;replace hw:=hw.symm;subst hw))
 exact bodyPost_ret (v:=.tuple #[tmV 0 0,errV 2]) (by simp [results,Tryz.results166,go_sem,errV]) rfl ⟨rfl,(((below_alloc1 w _).trans (below_draws _ _ nn)).setCell (by simp) _).setCell (by simp) _⟩
variable {sec nano:Int} (ht:(t.length:Int)≤15)
 (HV:Hid (∀ w,Calls Tryz.prog 188 #[.string (mkS t)] w fun e w'=>e=.returned (.int .i64 sec)∧w'=w))
include ht HV
theorem parse_false_false_any_true {mo:Bool} (hpt:pt=false) (hneg:neg=false) (HN:Hid (∀ w,Calls Tryz.prog 189 #[.string (mkS b)] w fun e w'=>e=.returned (.tuple #[.int .i64 nano,.bool mo])∧w'=w)) (HR:Hid (∀ w,Calls Tryz.prog 93 #[tmV sec nano] w fun e w'=>e=.returned (.bool true)∧w'=w.alloc (.cells #[.int .i64 sec,.int .i64 nano] 23))) :
  Calls Tryz.prog 166 #[.string (mkS l)] w fun e w'=>e=.returned (.tuple #[tmV sec nano,errV 0])∧Below w.heap.size w w':=by
 subst hpt hneg
 have hsz:=mkS_size t
 go_enter Tryz.func166,Tryz.ntmps166
 go_wp2_with (first
  |(go_at_call 186;refine (HCP.out _).mono ?_;rintro e w' ⟨rfl,hw⟩;replace hw:=hw.symm;subst hw)
  |(go_at_call 127;refine (HC.out _).mono ?_;rintro e w' ⟨rfl,nn,rfl⟩)
  |(go_at_call 187;with_reducible refine (HD1.out _).mono ?_;rintro e w' ⟨rfl,hw⟩;replace hw:=hw.symm;subst hw)
  |(go_at_call 160;with_reducible refine (HT.out _).mono ?_;rintro e w' ⟨rfl,hw⟩;replace hw:=hw.symm;subst hw)
  |(go_at_call 188;with_reducible refine (HV.out _).mono ?_;rintro e w' ⟨rfl,hw⟩;replace hw:=hw.symm;subst hw)
  |(go_at_call 189;with_reducible refine (HN.out _).mono ?_;rintro e w' ⟨rfl,hw⟩;replace hw:=hw.symm;subst hw)
  |(go_at_call 93;with_reducible refine (HR.out _).mono ?_;rintro e w' ⟨rfl,hw⟩;replace hw:=hw.symm;subst hw))
 exact bodyPost_ret (v:=.tuple #[tmV sec nano,errV 0]) (by simp [results,Tryz.results166,go_sem,errV]) rfl ⟨rfl,((((((below_alloc1 w _).trans (below_draws _ _ nn)).setCell (by simp) _).setCell (by simp) _).alloc (by simp) _).alloc (by simp;omega) _)⟩
theorem parse_false_false_any_false {mo:Bool} (hpt:pt=false) (hneg:neg=false) (HN:Hid (∀ w,Calls Tryz.prog 189 #[.string (mkS b)] w fun e w'=>e=.returned (.tuple #[.int .i64 nano,.bool mo])∧w'=w)) (HR:Hid (∀ w,Calls Tryz.prog 93 #[tmV sec nano] w fun e w'=>e=.returned (.bool false)∧w'=w.alloc (.cells #[.int .i64 sec,.int .i64 nano] 23))) :
  Calls Tryz.prog 166 #[.string (mkS l)] w fun e w'=>e=.returned (.tuple #[tmV 0 0,errV 2])∧Below w.heap.size w w':=by
 subst hpt hneg
 have hsz:=mkS_size t
 go_enter Tryz.func166,Tryz.ntmps166
 go_wp2_with (first
  |(go_at_call 186;refine (HCP.out _).mono ?_;rintro e w' ⟨rfl,hw⟩;replace hw:=hw.symm;subst hw)
  |(go_at_call 127;refine (HC.out _).mono ?_;rintro e w' ⟨rfl,nn,rfl⟩)
  |(go_at_call 187;with_reducible refine (HD1.out _).mono ?_;rintro e w' ⟨rfl,hw⟩;replace hw:=hw.symm;subst hw)
  |(go_at_call 160;with_reducible refine (HT.out _).mono ?_;rintro e w' ⟨rfl,hw⟩;replace hw:=hw.symm;subst hw)
  |(go_at_call 188;with_reducible refine (HV.out _).mono ?_;rintro e w' ⟨rfl,hw⟩;replace hw:=hw.symm;subst hw)
  |(go_at_call 189;with_reducible refine (HN.out _).mono ?_;rintro e w' ⟨rfl,hw⟩;replace hw:=hw.symm;subst hw)
  |(go_at_call 93;with_reducible refine (HR.out _).mono ?_;rintro e w' ⟨rfl,hw⟩;replace hw:=hw.symm;subst hw))
 exact bodyPost_ret (v:=.tuple #[tmV 0 0,errV 2]) (by simp [results,Tryz.results166,go_sem,errV]) rfl ⟨rfl,((((((below_alloc1 w _).trans (below_draws _ _ nn)).setCell (by simp) _).setCell (by simp) _).alloc (by simp) _).alloc (by simp;omega) _)⟩
theorem parse_false_true_false_true {s' n':Int} (hpt:pt=false) (hneg:neg=true) (HN:Hid (∀ w,Calls Tryz.prog 189 #[.string (mkS b)] w fun e w'=>e=.returned (.tuple #[.int .i64 nano,.bool false])∧w'=w)) (HG:Hid (∀ w,Calls Tryz.prog 122 #[.int .i64 sec,.int .i64 nano] w fun e w'=>e=.returned (.tuple #[.int .i64 s',.int .i64 n'])∧w'=w)) (HR:Hid (∀ w,Calls Tryz.prog 93 #[tmV s' n'] w fun e w'=>e=.returned (.bool true)∧w'=w.alloc (.cells #[.int .i64 s',.int .i64 n'] 23))) :
  Calls Tryz.prog 166 #[.string (mkS l)] w fun e w'=>e=.returned (.tuple #[tmV s' n',errV 0])∧Below w.heap.size w w':=by
 subst hpt hneg
 have hsz:=mkS_size t
 go_enter Tryz.func166,Tryz.ntmps166
 go_wp2_with (first
  |(go_at_call 186;refine (HCP.out _).mono ?_;rintro e w' ⟨rfl,hw⟩;replace hw:=hw.symm;subst hw)
  |(go_at_call 127;refine (HC.out _).mono ?_;rintro e w' ⟨rfl,nn,rfl⟩)
  |(go_at_call 187;with_reducible refine (HD1.out _).mono ?_;rintro e w' ⟨rfl,hw⟩;replace hw:=hw.symm;subst hw)
  |(go_at_call 160;with_reducible refine (HT.out _).mono ?_;rintro e w' ⟨rfl,hw⟩;replace hw:=hw.symm;subst hw)
  |(go_at_call 188;with_reducible refine (HV.out _).mono ?_;rintro e w' ⟨rfl,hw⟩;replace hw:=hw.symm;subst hw)
  |(go_at_call 189;with_reducible refine (HN.out _).mono ?_;rintro e w' ⟨rfl,hw⟩;replace hw:=hw.symm;subst hw)
  |(go_at_call 122;with_reducible refine (HG.out _).mono ?_;rintro e w' ⟨rfl,hw⟩;replace hw:=hw.symm;subst hw)
  |(go_at_call 93;with_reducible refine (HR.out _).mono ?_;rintro e w' ⟨rfl,hw⟩;replace hw:=hw.symm;subst hw))
 exact bodyPost_ret (v:=.tuple #[tmV s' n',errV 0]) (by simp [results,Tryz.results166,go_sem,errV]) rfl ⟨rfl,((((((below_alloc1 w _).trans (below_draws _ _ nn)).setCell (by simp) _).setCell (by simp) _).alloc (by simp) _).alloc (by simp;omega) _)⟩
theorem parse_false_true_false_false {s' n':Int} (hpt:pt=false) (hneg:neg=true) (HN:Hid (∀ w,Calls Tryz.prog 189 #[.string (mkS b)] w fun e w'=>e=.returned (.tuple #[.int .i64 nano,.bool false])∧w'=w)) (HG:Hid (∀ w,Calls Tryz.prog 122 #[.int .i64 sec,.int .i64 nano] w fun e w'=>e=.returned (.tuple #[.int .i64 s',.int .i64 n'])∧w'=w)) (HR:Hid (∀ w,Calls Tryz.prog 93 #[tmV s' n'] w fun e w'=>e=.returned (.bool false)∧w'=w.alloc (.cells #[.int .i64 s',.int .i64 n'] 23))) :
  Calls Tryz.prog 166 #[.string (mkS l)] w fun e w'=>e=.returned (.tuple #[tmV 0 0,errV 2])∧Below w.heap.size w w':=by
 subst hpt hneg
 have hsz:=mkS_size t
 go_enter Tryz.func166,Tryz.ntmps166
 go_wp2_with (first
  |(go_at_call 186;refine (HCP.out _).mono ?_;rintro e w' ⟨rfl,hw⟩;replace hw:=hw.symm;subst hw)
  |(go_at_call 127;refine (HC.out _).mono ?_;rintro e w' ⟨rfl,nn,rfl⟩)
  |(go_at_call 187;with_reducible refine (HD1.out _).mono ?_;rintro e w' ⟨rfl,hw⟩;replace hw:=hw.symm;subst hw)
  |(go_at_call 160;with_reducible refine (HT.out _).mono ?_;rintro e w' ⟨rfl,hw⟩;replace hw:=hw.symm;subst hw)
  |(go_at_call 188;with_reducible refine (HV.out _).mono ?_;rintro e w' ⟨rfl,hw⟩;replace hw:=hw.symm;subst hw)
  |(go_at_call 189;with_reducible refine (HN.out _).mono ?_;rintro e w' ⟨rfl,hw⟩;replace hw:=hw.symm;subst hw)
  |(go_at_call 122;with_reducible refine (HG.out _).mono ?_;rintro e w' ⟨rfl,hw⟩;replace hw:=hw.symm;subst hw)
  |(go_at_call 93;with_reducible refine (HR.out _).mono ?_;rintro e w' ⟨rfl,hw⟩;replace hw:=hw.symm;subst hw))
 exact bodyPost_ret (v:=.tuple #[tmV 0 0,errV 2]) (by simp [results,Tryz.results166,go_sem,errV]) rfl ⟨rfl,((((((below_alloc1 w _).trans (below_draws _ _ nn)).setCell (by simp) _).setCell (by simp) _).alloc (by simp) _).alloc (by simp;omega) _)⟩
theorem parse_false_true_true_true {s' n':Int} (hpt:pt=false) (hneg:neg=true) (hnano:0≤nano∧nano<1000000000) (HN:Hid (∀ w,Calls Tryz.prog 189 #[.string (mkS b)] w fun e w'=>e=.returned (.tuple #[.int .i64 nano,.bool true])∧w'=w)) (HG:Hid (∀ w,Calls Tryz.prog 122 #[.int .i64 sec,.int .i64 (nano+1)] w fun e w'=>e=.returned (.tuple #[.int .i64 s',.int .i64 n'])∧w'=w)) (HR:Hid (∀ w,Calls Tryz.prog 93 #[tmV s' n'] w fun e w'=>e=.returned (.bool true)∧w'=w.alloc (.cells #[.int .i64 s',.int .i64 n'] 23))) :
  Calls Tryz.prog 166 #[.string (mkS l)] w fun e w'=>e=.returned (.tuple #[tmV s' n',errV 0])∧Below w.heap.size w w':=by
 subst hpt hneg
 have hsz:=mkS_size t
 go_enter Tryz.func166,Tryz.ntmps166
 go_wp2_with (first
  |(go_at_call 186;refine (HCP.out _).mono ?_;rintro e w' ⟨rfl,hw⟩;replace hw:=hw.symm;subst hw)
  |(go_at_call 127;refine (HC.out _).mono ?_;rintro e w' ⟨rfl,nn,rfl⟩)
  |(go_at_call 187;with_reducible refine (HD1.out _).mono ?_;rintro e w' ⟨rfl,hw⟩;replace hw:=hw.symm;subst hw)
  |(go_at_call 160;with_reducible refine (HT.out _).mono ?_;rintro e w' ⟨rfl,hw⟩;replace hw:=hw.symm;subst hw)
  |(go_at_call 188;with_reducible refine (HV.out _).mono ?_;rintro e w' ⟨rfl,hw⟩;replace hw:=hw.symm;subst hw)
  |(go_at_call 189;with_reducible refine (HN.out _).mono ?_;rintro e w' ⟨rfl,hw⟩;replace hw:=hw.symm;subst hw)
  |(go_at_call 122;with_reducible refine (HG.out _).mono ?_;rintro e w' ⟨rfl,hw⟩;replace hw:=hw.symm;subst hw)
  |(go_at_call 93;with_reducible refine (HR.out _).mono ?_;rintro e w' ⟨rfl,hw⟩;replace hw:=hw.symm;subst hw))
 exact bodyPost_ret (v:=.tuple #[tmV s' n',errV 0]) (by simp [results,Tryz.results166,go_sem,errV]) rfl ⟨rfl,((((((below_alloc1 w _).trans (below_draws _ _ nn)).setCell (by simp) _).setCell (by simp) _).alloc (by simp) _).alloc (by simp;omega) _)⟩
theorem parse_false_true_true_false {s' n':Int} (hpt:pt=false) (hneg:neg=true) (hnano:0≤nano∧nano<1000000000) (HN:Hid (∀ w,Calls Tryz.prog 189 #[.string (mkS b)] w fun e w'=>e=.returned (.tuple #[.int .i64 nano,.bool true])∧w'=w)) (HG:Hid (∀ w,Calls Tryz.prog 122 #[.int .i64 sec,.int .i64 (nano+1)] w fun e w'=>e=.returned (.tuple #[.int .i64 s',.int .i64 n'])∧w'=w)) (HR:Hid (∀ w,Calls Tryz.prog 93 #[tmV s' n'] w fun e w'=>e=.returned (.bool false)∧w'=w.alloc (.cells #[.int .i64 s',.int .i64 n'] 23))) :
  Calls Tryz.prog 166 #[.string (mkS l)] w fun e w'=>e=.returned (.tuple #[tmV 0 0,errV 2])∧Below w.heap.size w w':=by
 subst hpt hneg
 have hsz:=mkS_size t
 go_enter Tryz.func166,Tryz.ntmps166
 go_wp2_with (first
  |(go_at_call 186;refine (HCP.out _).mono ?_;rintro e w' ⟨rfl,hw⟩;replace hw:=hw.symm;subst hw)
  |(go_at_call 127;refine (HC.out _).mono ?_;rintro e w' ⟨rfl,nn,rfl⟩)
  |(go_at_call 187;with_reducible refine (HD1.out _).mono ?_;rintro e w' ⟨rfl,hw⟩;replace hw:=hw.symm;subst hw)
  |(go_at_call 160;with_reducible refine (HT.out _).mono ?_;rintro e w' ⟨rfl,hw⟩;replace hw:=hw.symm;subst hw)
  |(go_at_call 188;with_reducible refine (HV.out _).mono ?_;rintro e w' ⟨rfl,hw⟩;replace hw:=hw.symm;subst hw)
  |(go_at_call 189;with_reducible refine (HN.out _).mono ?_;rintro e w' ⟨rfl,hw⟩;replace hw:=hw.symm;subst hw)
  |(go_at_call 122;with_reducible refine (HG.out _).mono ?_;rintro e w' ⟨rfl,hw⟩;replace hw:=hw.symm;subst hw)
  |(go_at_call 93;with_reducible refine (HR.out _).mono ?_;rintro e w' ⟨rfl,hw⟩;replace hw:=hw.symm;subst hw))
 exact bodyPost_ret (v:=.tuple #[tmV 0 0,errV 2]) (by simp [results,Tryz.results166,go_sem,errV]) rfl ⟨rfl,((((((below_alloc1 w _).trans (below_draws _ _ nn)).setCell (by simp) _).setCell (by simp) _).alloc (by simp) _).alloc (by simp;omega) _)⟩
theorem parse_true_false_any_true {mo:Bool} (hpt:pt=true) (hneg:neg=false) (HD2:Hid (∀ w,Calls Tryz.prog 187 #[.string (mkS b)] w fun e w'=>e=.returned (.bool true)∧w'=w)) (HN:Hid (∀ w,Calls Tryz.prog 189 #[.string (mkS b)] w fun e w'=>e=.returned (.tuple #[.int .i64 nano,.bool mo])∧w'=w)) (HR:Hid (∀ w,Calls Tryz.prog 93 #[tmV sec nano] w fun e w'=>e=.returned (.bool true)∧w'=w.alloc (.cells #[.int .i64 sec,.int .i64 nano] 23))) :
  Calls Tryz.prog 166 #[.string (mkS l)] w fun e w'=>e=.returned (.tuple #[tmV sec nano,errV 0])∧Below w.heap.size w w':=by
 subst hpt hneg
 have hsz:=mkS_size t
 go_enter Tryz.func166,Tryz.ntmps166
 go_wp2_with (first
  |(go_at_call 186;refine (HCP.out _).mono ?_;rintro e w' ⟨rfl,hw⟩;replace hw:=hw.symm;subst hw)
  |(go_at_call 127;refine (HC.out _).mono ?_;rintro e w' ⟨rfl,nn,rfl⟩)
  |(go_at_call 187;with_reducible refine (HD1.out _).mono ?_;rintro e w' ⟨rfl,hw⟩;replace hw:=hw.symm;subst hw)
  |(go_at_call 187;with_reducible refine (HD2.out _).mono ?_;rintro e w' ⟨rfl,hw⟩;replace hw:=hw.symm;subst hw)
  |(go_at_call 160;with_reducible refine (HT.out _).mono ?_;rintro e w' ⟨rfl,hw⟩;replace hw:=hw.symm;subst hw)
  |(go_at_call 188;with_reducible refine (HV.out _).mono ?_;rintro e w' ⟨rfl,hw⟩;replace hw:=hw.symm;subst hw)
  |(go_at_call 189;with_reducible refine (HN.out _).mono ?_;rintro e w' ⟨rfl,hw⟩;replace hw:=hw.symm;subst hw)
  |(go_at_call 93;with_reducible refine (HR.out _).mono ?_;rintro e w' ⟨rfl,hw⟩;replace hw:=hw.symm;subst hw))
 exact bodyPost_ret (v:=.tuple #[tmV sec nano,errV 0]) (by simp [results,Tryz.results166,go_sem,errV]) rfl ⟨rfl,((((((below_alloc1 w _).trans (below_draws _ _ nn)).setCell (by simp) _).setCell (by simp) _).alloc (by simp) _).alloc (by simp;omega) _)⟩
theorem parse_true_false_any_false {mo:Bool} (hpt:pt=true) (hneg:neg=false) (HD2:Hid (∀ w,Calls Tryz.prog 187 #[.string (mkS b)] w fun e w'=>e=.returned (.bool true)∧w'=w)) (HN:Hid (∀ w,Calls Tryz.prog 189 #[.string (mkS b)] w fun e w'=>e=.returned (.tuple #[.int .i64 nano,.bool mo])∧w'=w)) (HR:Hid (∀ w,Calls Tryz.prog 93 #[tmV sec nano] w fun e w'=>e=.returned (.bool false)∧w'=w.alloc (.cells #[.int .i64 sec,.int .i64 nano] 23))) :
  Calls Tryz.prog 166 #[.string (mkS l)] w fun e w'=>e=.returned (.tuple #[tmV 0 0,errV 2])∧Below w.heap.size w w':=by
 subst hpt hneg
 have hsz:=mkS_size t
 go_enter Tryz.func166,Tryz.ntmps166
 go_wp2_with (first
  |(go_at_call 186;refine (HCP.out _).mono ?_;rintro e w' ⟨rfl,hw⟩;replace hw:=hw.symm;subst hw)
  |(go_at_call 127;refine (HC.out _).mono ?_;rintro e w' ⟨rfl,nn,rfl⟩)
  |(go_at_call 187;with_reducible refine (HD1.out _).mono ?_;rintro e w' ⟨rfl,hw⟩;replace hw:=hw.symm;subst hw)
  |(go_at_call 187;with_reducible refine (HD2.out _).mono ?_;rintro e w' ⟨rfl,hw⟩;replace hw:=hw.symm;subst hw)
  |(go_at_call 160;with_reducible refine (HT.out _).mono ?_;rintro e w' ⟨rfl,hw⟩;replace hw:=hw.symm;subst hw)
  |(go_at_call 188;with_reducible refine (HV.out _).mono ?_;rintro e w' ⟨rfl,hw⟩;replace hw:=hw.symm;subst hw)
  |(go_at_call 189;with_reducible refine (HN.out _).mono ?_;rintro e w' ⟨rfl,hw⟩;replace hw:=hw.symm;subst hw)
  |(go_at_call 93;with_reducible refine (HR.out _).mono ?_;rintro e w' ⟨rfl,hw⟩;replace hw:=hw.symm;subst hw))
 exact bodyPost_ret (v:=.tuple #[tmV 0 0,errV 2]) (by simp [results,Tryz.results166,go_sem,errV]) rfl ⟨rfl,((((((below_alloc1 w _).trans (below_draws _ _ nn)).setCell (by simp) _).setCell (by simp) _).alloc (by simp) _).alloc (by simp;omega) _)⟩
theorem parse_true_true_false_true {s' n':Int} (hpt:pt=true) (hneg:neg=true) (HD2:Hid (∀ w,Calls Tryz.prog 187 #[.string (mkS b)] w fun e w'=>e=.returned (.bool true)∧w'=w)) (HN:Hid (∀ w,Calls Tryz.prog 189 #[.string (mkS b)] w fun e w'=>e=.returned (.tuple #[.int .i64 nano,.bool false])∧w'=w)) (HG:Hid (∀ w,Calls Tryz.prog 122 #[.int .i64 sec,.int .i64 nano] w fun e w'=>e=.returned (.tuple #[.int .i64 s',.int .i64 n'])∧w'=w)) (HR:Hid (∀ w,Calls Tryz.prog 93 #[tmV s' n'] w fun e w'=>e=.returned (.bool true)∧w'=w.alloc (.cells #[.int .i64 s',.int .i64 n'] 23))) :
  Calls Tryz.prog 166 #[.string (mkS l)] w fun e w'=>e=.returned (.tuple #[tmV s' n',errV 0])∧Below w.heap.size w w':=by
 subst hpt hneg
 have hsz:=mkS_size t
 go_enter Tryz.func166,Tryz.ntmps166
 go_wp2_with (first
  |(go_at_call 186;refine (HCP.out _).mono ?_;rintro e w' ⟨rfl,hw⟩;replace hw:=hw.symm;subst hw)
  |(go_at_call 127;refine (HC.out _).mono ?_;rintro e w' ⟨rfl,nn,rfl⟩)
  |(go_at_call 187;with_reducible refine (HD1.out _).mono ?_;rintro e w' ⟨rfl,hw⟩;replace hw:=hw.symm;subst hw)
  |(go_at_call 187;with_reducible refine (HD2.out _).mono ?_;rintro e w' ⟨rfl,hw⟩;replace hw:=hw.symm;subst hw)
  |(go_at_call 160;with_reducible refine (HT.out _).mono ?_;rintro e w' ⟨rfl,hw⟩;replace hw:=hw.symm;subst hw)
  |(go_at_call 188;with_reducible refine (HV.out _).mono ?_;rintro e w' ⟨rfl,hw⟩;replace hw:=hw.symm;subst hw)
  |(go_at_call 189;with_reducible refine (HN.out _).mono ?_;rintro e w' ⟨rfl,hw⟩;replace hw:=hw.symm;subst hw)
  |(go_at_call 122;with_reducible refine (HG.out _).mono ?_;rintro e w' ⟨rfl,hw⟩;replace hw:=hw.symm;subst hw)
  |(go_at_call 93;with_reducible refine (HR.out _).mono ?_;rintro e w' ⟨rfl,hw⟩;replace hw:=hw.symm;subst hw))
 exact bodyPost_ret (v:=.tuple #[tmV s' n',errV 0]) (by simp [results,Tryz.results166,go_sem,errV]) rfl ⟨rfl,((((((below_alloc1 w _).trans (below_draws _ _ nn)).setCell (by simp) _).setCell (by simp) _).alloc (by simp) _).alloc (by simp;omega) _)⟩
theorem parse_true_true_false_false {s' n':Int} (hpt:pt=true) (hneg:neg=true) (HD2:Hid (∀ w,Calls Tryz.prog 187 #[.string (mkS b)] w fun e w'=>e=.returned (.bool true)∧w'=w)) (HN:Hid (∀ w,Calls Tryz.prog 189 #[.string (mkS b)] w fun e w'=>e=.returned (.tuple #[.int .i64 nano,.bool false])∧w'=w)) (HG:Hid (∀ w,Calls Tryz.prog 122 #[.int .i64 sec,.int .i64 nano] w fun e w'=>e=.returned (.tuple #[.int .i64 s',.int .i64 n'])∧w'=w)) (HR:Hid (∀ w,Calls Tryz.prog 93 #[tmV s' n'] w fun e w'=>e=.returned (.bool false)∧w'=w.alloc (.cells #[.int .i64 s',.int .i64 n'] 23))) :
  Calls Tryz.prog 166 #[.string (mkS l)] w fun e w'=>e=.returned (.tuple #[tmV 0 0,errV 2])∧Below w.heap.size w w':=by
 subst hpt hneg
 have hsz:=mkS_size t
 go_enter Tryz.func166,Tryz.ntmps166
 go_wp2_with (first
  |(go_at_call 186;refine (HCP.out _).mono ?_;rintro e w' ⟨rfl,hw⟩;replace hw:=hw.symm;subst hw)
  |(go_at_call 127;refine (HC.out _).mono ?_;rintro e w' ⟨rfl,nn,rfl⟩)
  |(go_at_call 187;with_reducible refine (HD1.out _).mono ?_;rintro e w' ⟨rfl,hw⟩;replace hw:=hw.symm;subst hw)
  |(go_at_call 187;with_reducible refine (HD2.out _).mono ?_;rintro e w' ⟨rfl,hw⟩;replace hw:=hw.symm;subst hw)
  |(go_at_call 160;with_reducible refine (HT.out _).mono ?_;rintro e w' ⟨rfl,hw⟩;replace hw:=hw.symm;subst hw)
  |(go_at_call 188;with_reducible refine (HV.out _).mono ?_;rintro e w' ⟨rfl,hw⟩;replace hw:=hw.symm;subst hw)
  |(go_at_call 189;with_reducible refine (HN.out _).mono ?_;rintro e w' ⟨rfl,hw⟩;replace hw:=hw.symm;subst hw)
  |(go_at_call 122;with_reducible refine (HG.out _).mono ?_;rintro e w' ⟨rfl,hw⟩;replace hw:=hw.symm;subst hw)
  |(go_at_call 93;with_reducible refine (HR.out _).mono ?_;rintro e w' ⟨rfl,hw⟩;replace hw:=hw.symm;subst hw))
 exact bodyPost_ret (v:=.tuple #[tmV 0 0,errV 2]) (by simp [results,Tryz.results166,go_sem,errV]) rfl ⟨rfl,((((((below_alloc1 w _).trans (below_draws _ _ nn)).setCell (by simp) _).setCell (by simp) _).alloc (by simp) _).alloc (by simp;omega) _)⟩
theorem parse_true_true_true_true {s' n':Int} (hpt:pt=true) (hneg:neg=true) (hnano:0≤nano∧nano<1000000000) (HD2:Hid (∀ w,Calls Tryz.prog 187 #[.string (mkS b)] w fun e w'=>e=.returned (.bool true)∧w'=w)) (HN:Hid (∀ w,Calls Tryz.prog 189 #[.string (mkS b)] w fun e w'=>e=.returned (.tuple #[.int .i64 nano,.bool true])∧w'=w)) (HG:Hid (∀ w,Calls Tryz.prog 122 #[.int .i64 sec,.int .i64 (nano+1)] w fun e w'=>e=.returned (.tuple #[.int .i64 s',.int .i64 n'])∧w'=w)) (HR:Hid (∀ w,Calls Tryz.prog 93 #[tmV s' n'] w fun e w'=>e=.returned (.bool true)∧w'=w.alloc (.cells #[.int .i64 s',.int .i64 n'] 23))) :
  Calls Tryz.prog 166 #[.string (mkS l)] w fun e w'=>e=.returned (.tuple #[tmV s' n',errV 0])∧Below w.heap.size w w':=by
 subst hpt hneg
 have hsz:=mkS_size t
 go_enter Tryz.func166,Tryz.ntmps166
 go_wp2_with (first
  |(go_at_call 186;refine (HCP.out _).mono ?_;rintro e w' ⟨rfl,hw⟩;replace hw:=hw.symm;subst hw)
  |(go_at_call 127;refine (HC.out _).mono ?_;rintro e w' ⟨rfl,nn,rfl⟩)
  |(go_at_call 187;with_reducible refine (HD1.out _).mono ?_;rintro e w' ⟨rfl,hw⟩;replace hw:=hw.symm;subst hw)
  |(go_at_call 187;with_reducible refine (HD2.out _).mono ?_;rintro e w' ⟨rfl,hw⟩;replace hw:=hw.symm;subst hw)
  |(go_at_call 160;with_reducible refine (HT.out _).mono ?_;rintro e w' ⟨rfl,hw⟩;replace hw:=hw.symm;subst hw)
  |(go_at_call 188;with_reducible refine (HV.out _).mono ?_;rintro e w' ⟨rfl,hw⟩;replace hw:=hw.symm;subst hw)
  |(go_at_call 189;with_reducible refine (HN.out _).mono ?_;rintro e w' ⟨rfl,hw⟩;replace hw:=hw.symm;subst hw)
  |(go_at_call 122;with_reducible refine (HG.out _).mono ?_;rintro e w' ⟨rfl,hw⟩;replace hw:=hw.symm;subst hw)
  |(go_at_call 93;with_reducible refine (HR.out _).mono ?_;rintro e w' ⟨rfl,hw⟩;replace hw:=hw.symm;subst hw))
 exact bodyPost_ret (v:=.tuple #[tmV s' n',errV 0]) (by simp [results,Tryz.results166,go_sem,errV]) rfl ⟨rfl,((((((below_alloc1 w _).trans (below_draws _ _ nn)).setCell (by simp) _).setCell (by simp) _).alloc (by simp) _).alloc (by simp;omega) _)⟩
theorem parse_true_true_true_false {s' n':Int} (hpt:pt=true) (hneg:neg=true) (hnano:0≤nano∧nano<1000000000) (HD2:Hid (∀ w,Calls Tryz.prog 187 #[.string (mkS b)] w fun e w'=>e=.returned (.bool true)∧w'=w)) (HN:Hid (∀ w,Calls Tryz.prog 189 #[.string (mkS b)] w fun e w'=>e=.returned (.tuple #[.int .i64 nano,.bool true])∧w'=w)) (HG:Hid (∀ w,Calls Tryz.prog 122 #[.int .i64 sec,.int .i64 (nano+1)] w fun e w'=>e=.returned (.tuple #[.int .i64 s',.int .i64 n'])∧w'=w)) (HR:Hid (∀ w,Calls Tryz.prog 93 #[tmV s' n'] w fun e w'=>e=.returned (.bool false)∧w'=w.alloc (.cells #[.int .i64 s',.int .i64 n'] 23))) :
  Calls Tryz.prog 166 #[.string (mkS l)] w fun e w'=>e=.returned (.tuple #[tmV 0 0,errV 2])∧Below w.heap.size w w':=by
 subst hpt hneg
 have hsz:=mkS_size t
 go_enter Tryz.func166,Tryz.ntmps166
 go_wp2_with (first
  |(go_at_call 186;refine (HCP.out _).mono ?_;rintro e w' ⟨rfl,hw⟩;replace hw:=hw.symm;subst hw)
  |(go_at_call 127;refine (HC.out _).mono ?_;rintro e w' ⟨rfl,nn,rfl⟩)
  |(go_at_call 187;with_reducible refine (HD1.out _).mono ?_;rintro e w' ⟨rfl,hw⟩;replace hw:=hw.symm;subst hw)
  |(go_at_call 187;with_reducible refine (HD2.out _).mono ?_;rintro e w' ⟨rfl,hw⟩;replace hw:=hw.symm;subst hw)
  |(go_at_call 160;with_reducible refine (HT.out _).mono ?_;rintro e w' ⟨rfl,hw⟩;replace hw:=hw.symm;subst hw)
  |(go_at_call 188;with_reducible refine (HV.out _).mono ?_;rintro e w' ⟨rfl,hw⟩;replace hw:=hw.symm;subst hw)
  |(go_at_call 189;with_reducible refine (HN.out _).mono ?_;rintro e w' ⟨rfl,hw⟩;replace hw:=hw.symm;subst hw)
  |(go_at_call 122;with_reducible refine (HG.out _).mono ?_;rintro e w' ⟨rfl,hw⟩;replace hw:=hw.symm;subst hw)
  |(go_at_call 93;with_reducible refine (HR.out _).mono ?_;rintro e w' ⟨rfl,hw⟩;replace hw:=hw.symm;subst hw))
 exact bodyPost_ret (v:=.tuple #[tmV 0 0,errV 2]) (by simp [results,Tryz.results166,go_sem,errV]) rfl ⟨rfl,((((((below_alloc1 w _).trans (below_draws _ _ nn)).setCell (by simp) _).setCell (by simp) _).alloc (by simp) _).alloc (by simp;omega) _)⟩
end
theorem errV_0:errV 0=.nilIface:=rfl
set_option maxHeartbeats 1000000 in
theorem parse_any (l:List UInt8) (w:World) (hl:l.length≤1000) :
  Calls Tryz.prog 166 #[.string (mkS l)] w fun e w'=>e=.returned (.tuple #[tmV (parseF l).2.1 (parseF l).2.2,errV (parseF l).1])∧Below w.heap.size w w':=by
 have HCP:=Lib.hid (fun w=>cutPrefix_any l w)
 have hpar:parseF l=let u:=Lib.trimPrefix l [45]
  if isDig (wholeOf u)&&(!pointOf u || isDig (fracOf u)) then
   if 15<(Lib.trimLeftB (wholeOf u) 48).length then (2,0,0)
   else timeF (Lib.hasPrefix l [45]) (valD (Lib.trimLeftB (wholeOf u) 48)) (nanoD (fracOf u)) (moreD (fracOf u))
  else (3,0,0):=rfl
 have hul:(Lib.trimPrefix l [45]).length≤1000:=by
  unfold Lib.trimPrefix;split
  ·rw [List.length_drop];omega
  ·exact hl
 simp only at hpar
 generalize Lib.trimPrefix l [45]=u at *
 generalize Lib.hasPrefix l [45]=neg at *
 have HC:=Lib.hid (fun w=>cutDot_any u w hul)
 have hal:(wholeOf u).length≤1000:=Nat.le_trans (List.takeWhile_sublist _).length_le hul
 have hbl:(fracOf u).length≤1000:=by
  unfold fracOf
  rw [List.length_drop]
  have:=(List.dropWhile_sublist (l:=u) (fun x=>x != 46)).length_le
  omega
 have hbd:pointOf u=false→fracOf u=[]:=fun h=>(whole_no u h).2
 generalize wholeOf u=a at *
 generalize fracOf u=b at *
 generalize pointOf u=pt at *
 have HD1:=Lib.hid (fun w=>isDigits_any a w hal)
 have HD2:=Lib.hid (fun w=>isDigits_any b w hbl)
 cases hda:isDig a
 ·rw [hda] at HD1 hpar
  simp only [Bool.false_and,Bool.false_eq_true,if_false] at hpar
  rw [hpar]
  exact parse_form1 w HCP HC HD1
 ·rw [hda] at HD1 hpar
  have hgo:(pt=true∧isDig b=false)∨((pt=false∨(pt=true∧isDig b=true))∧(!pt || isDig b)=true∧b.all dig=true):=by
   cases pt
   ·exact Or.inr ⟨Or.inl rfl,rfl,by rw [hbd rfl];rfl⟩
   ·cases hdb:isDig b
    ·exact Or.inl ⟨rfl,rfl⟩
    ·refine Or.inr ⟨Or.inr ⟨rfl,rfl⟩,rfl,?_⟩
     unfold isDig at hdb
     exact (Bool.and_eq_true_iff.1 hdb).1
  rcases hgo with ⟨hpt,hdb⟩|⟨hpt,hok,hball⟩
  ·rw [hdb] at HD2 hpar
   rw [hpt] at hpar
   rw [show (true&&(!true || false))=false from rfl] at hpar
   simp only [Bool.false_eq_true,if_false] at hpar
   rw [hpar]
   exact parse_form2 w HCP HC hpt HD1 HD2
  ·rw [hok] at hpar
   simp only [Bool.true_and,if_true] at hpar
   have HT:=Lib.hid (fun w=>trimLeft0 a w)
   have htall:(Lib.trimLeftB a 48).all dig=true:=by
    have ha:=(Bool.and_eq_true_iff.1 (show (a.all dig&&!decide (a=[]))=true from hda)).1
    rw [List.all_eq_true] at ha ⊢
    exact fun c hc=>ha c ((List.dropWhile_sublist _).subset hc)
   generalize Lib.trimLeftB a 48=t at *
   by_cases ht:15<t.length
   ·rw [if_pos ht] at hpar
    rw [hpar]
    rcases hpt with hpt|⟨hpt,hdb⟩
    ·exact parse_range_false w HCP HC HD1 HT hpt (by omega)
    ·rw [hdb] at HD2
     exact parse_range_true w HCP HC HD1 HT hpt HD2 (by omega)
   ·rw [if_neg ht] at hpar
    have HV:=Lib.hid (fun w=>value_any t w (by omega) htall)
    have HN:=Lib.hid (fun w=>nanoseconds_any b w hbl hball)
    have hv:=valD_lt t.length t rfl htall
    have hv2:=pow10_le (show t.length≤15 by omega)
    have hv3:(10:Nat) ^ 15=1000000000000000:=by decide
    have hn:=nanoD_range b hball
    generalize valD t=sec at *
    generalize nanoD b=nano at *
    generalize moreD b=more at *
    unfold timeF at hpar
    have ht':(t.length:Int)≤15:=by omega
    cases neg
    ·simp only [Bool.false_and,Bool.false_eq_true,if_false] at hpar
     have HR:=Lib.hid (fun w=>right_ex sec nano w)
     cases hr:rightB sec nano
     ·rw [hr] at HR hpar
      simp only [Bool.false_eq_true,if_false] at hpar
      rw [hpar]
      rcases hpt with hpt|⟨hpt,hdb⟩
      ·exact parse_false_false_any_false w HCP HC HD1 HT ht' HV hpt rfl HN HR
      ·rw [hdb] at HD2
       exact parse_true_false_any_false w HCP HC HD1 HT ht' HV hpt rfl HD2 HN HR
     ·rw [hr] at HR hpar
      simp only [if_true] at hpar
      rw [hpar]
      rcases hpt with hpt|⟨hpt,hdb⟩
      ·exact parse_false_false_any_true w HCP HC HD1 HT ht' HV hpt rfl HN HR
      ·rw [hdb] at HD2
       exact parse_true_false_any_true w HCP HC HD1 HT ht' HV hpt rfl HD2 HN HR
    ·cases more
     ·simp only [Bool.true_and,Bool.false_eq_true,if_false,if_true] at hpar
      have HG:=Lib.hid (fun w=>negate_any sec nano w (by omega) (by omega) (by omega) (by omega))
      have HR:=Lib.hid (fun w=>right_ex (negS sec nano) (negN nano) w)
      cases hr:rightB (negS sec nano) (negN nano)
      ·rw [hr] at HR hpar
       simp only [Bool.false_eq_true,if_false] at hpar
       rw [hpar]
       rcases hpt with hpt|⟨hpt,hdb⟩
       ·exact parse_false_true_false_false w HCP HC HD1 HT ht' HV hpt rfl HN HG HR
       ·rw [hdb] at HD2
        exact parse_true_true_false_false w HCP HC HD1 HT ht' HV hpt rfl HD2 HN HG HR
      ·rw [hr] at HR hpar
       simp only [if_true] at hpar
       rw [hpar]
       rcases hpt with hpt|⟨hpt,hdb⟩
       ·exact parse_false_true_false_true w HCP HC HD1 HT ht' HV hpt rfl HN HG HR
       ·rw [hdb] at HD2
        exact parse_true_true_false_true w HCP HC HD1 HT ht' HV hpt rfl HD2 HN HG HR
     ·simp only [Bool.true_and,if_true] at hpar
      have HG:=Lib.hid (fun w=>negate_any sec (nano+1) w (by omega) (by omega) (by omega) (by omega))
      have HR:=Lib.hid (fun w=>right_ex (negS sec (nano+1)) (negN (nano+1)) w)
      cases hr:rightB (negS sec (nano+1)) (negN (nano+1))
      ·rw [hr] at HR hpar
       simp only [Bool.false_eq_true,if_false] at hpar
       rw [hpar]
       rcases hpt with hpt|⟨hpt,hdb⟩
       ·exact parse_false_true_true_false w HCP HC HD1 HT ht' HV hpt rfl hn HN HG HR
       ·rw [hdb] at HD2
        exact parse_true_true_true_false w HCP HC HD1 HT ht' HV hpt rfl hn HD2 HN HG HR
      ·rw [hr] at HR hpar
       simp only [if_true] at hpar
       rw [hpar]
       rcases hpt with hpt|⟨hpt,hdb⟩
       ·exact parse_false_true_true_true w HCP HC HD1 HT ht' HV hpt rfl hn HN HG HR
       ·rw [hdb] at HD2
        exact parse_true_true_true_true w HCP HC HD1 HT ht' HV hpt rfl hn HD2 HN HG HR
end Go.Proofs.YtdjcjaidklgamaaGreatDoor.St
end
