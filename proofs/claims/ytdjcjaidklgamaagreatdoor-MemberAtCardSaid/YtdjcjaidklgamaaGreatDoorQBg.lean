import Derived.Test.YtdjcjaidklgamaaGreatDoorQMg
import Derived.Test.YtdjcjaidklgamaaGreatDoorQGu
set_option linter.unusedSimpArgs false
set_option linter.unusedVariables false
section
namespace Go.Proofs.YtdjcjaidklgamaaGreatDoor
set_option linter.unusedVariables false
theorem sub_mid {p f R:List UInt8} {a n:Nat} (hp:p.length=a) (h:f.length=n):sub (p++(f++R)) a n=f:=by
 rw [sub_skip hp (Nat.le_refl _),Nat.sub_self,sub_here h]
theorem fillL_size (t:List UInt8):((fillL t).length:Int)=t.length+padF t.length:=by
 obtain ⟨h1,h2⟩:=padF_range (t.length:Int)
 unfold fillL
 rw [List.length_append,List.length_replicate]
 omega
theorem takeF_at {S p t R:List UInt8} {n most:Int} {a:Nat} (hS:S=p++(fillL t++R)) (ha:p.length=a) (hn:n=t.length) (hm:n≤most) :
  takeF S a n most=(0,t,a+(fillL t).length):=by
 have hf:=fillL_size t
 obtain ⟨h1,h2⟩:=padF_range (t.length:Int)
 have hs:sub S a t.length=t:=by
  rw [hS]
  unfold fillL
  rw [List.append_assoc]
  exact sub_mid ha rfl
 have hl:(S.length:Int)=a+(fillL t).length+R.length:=by rw [hS,List.length_append,List.length_append];omega
 subst hn
 unfold takeF
 rw [if_neg (by omega),if_neg (by omega),Int.toNat_natCast,hs,show a+((t.length:Int)+padF t.length).toNat=a+(fillL t).length by omega]
theorem write_thick {d:Nat} {q:RawL} (h:goodL d q):(writeL d q).all (·==0)=false:=by
 have hw:=goodL.wide h.2.2.2.1 h.2.2.2.2
 have h1:sub (writeL d q) 156 1=[q.kind]:=by unfold writeL;rw [sub_seal (bodyL_length hw) (.inr (by omega)),field7 hw]
 have h2:q.kind∈writeL d q:=by
  have h3:q.kind∈sub (writeL d q) 156 1:=by rw [h1];exact List.mem_cons_self ..
  unfold sub at h3
  exact List.mem_of_mem_drop (List.mem_of_mem_take h3)
 cases hz:(writeL d q).all (·==0) with
 | false=>rfl
 | true =>
  have h4:=List.all_eq_true.1 hz _ h2
  exact absurd (by simpa using h4) h.2.1
theorem headF_write {d:Nat} {q:RawL} (h:goodL d q) (hi:intsL q):headF (writeL d q)=(0,q):=by
 obtain ⟨h1,_,h3⟩:=write_read h hi
 unfold headF
 rw [if_neg (fun hh=>hh (write_length h)),if_neg (fun hh=>hh (write_right h)),if_neg (fun hh=>hh h1),h3]
theorem nextR_at {h:List UInt8} {q:RawL} (hl:h.length=512) (hz:h.all (·==0)=false) (hh:headF h=(0,q)) (p T:List UInt8) (st:RSt) (ha:st.at_=p.length) :
  nextR (p++(h++T)) st=if aheadB q.kind=true then aheadR (p++(h++T)) { st with at_:=p.length+512 } q else memberR (p++(h++T)) { st with at_:=p.length+512 } q h:=by
 have hs:sub (p++(h++T)) st.at_ 512=h:=by rw [ha];exact sub_mid rfl hl
 unfold nextR
 rw [if_neg (by rw [ha,List.length_append,List.length_append,hl];omega)]
 dsimp only
 rw [hs,if_neg (by rw [hz];simp),hh,if_neg (by simp),ha]
theorem found_at {h:List UInt8} {q:RawL} (hl:h.length=512) (hz:h.all (·==0)=false) (hh:headF h=(0,q)) (hk:aheadB q.kind=false) {p T:List UInt8} {st:RSt} (ha:st.at_=p.length)
  {x y:EntL} {M:List PrL} {a:Nat} (hM:mergeF (st.G++st.O)=M) (hx:applyAll (entryR q st) M=(x,0)) (hy:kindR (p++(h++T)) (p.length+512) x q.size h M=(0,y,a)) (hr:rightE (settleF y)=true) :
  Reads (p++(h++T)) st (.ok (settleF y) a st.G):=by
 refine .ok ?_
 rw [nextR_at hl hz hh p T st ha,hk,if_neg (by simp)]
 unfold memberR
 dsimp only
 rw [hM,show entryR q { at_:=p.length+512,G:=st.G,O:=st.O,nm:=st.nm,lk:=st.lk }=entryR q st from rfl,hx]
 dsimp only
 rw [if_neg (by simp),hy]
 dsimp only
 rw [if_neg (by simp),if_pos hr]
theorem dataR_at {S p t R:List UInt8} {x:EntL} {n:Int} {M:List PrL} {a:Nat} (hS:S=p++(fillL t++R)) (ha:p.length=a) (hn:n=t.length) (ht:t.length≤14240) :
  dataR S a x n M=((linedR x M t).1,(linedR x M t).2,a+(fillL t).length):=by
 unfold dataR
 rw [takeF_at hS ha hn (by omega)]
 exact if_neg (by simp)
theorem kindR_plain {S p t R h:List UInt8} {x:EntL} {n:Int} {M:List PrL} {a:Nat} (hk:x.kind≠83) (hk2:x.kind≠55) (hS:S=p++(fillL t++R)) (ha:p.length=a) (hn:n=t.length) (ht:t.length≤14240) :
  kindR S a x n h M=((linedR x M t).1,(linedR x M t).2,a+(fillL t).length):=by
 unfold kindR
 rw [if_neg hk,if_neg hk2]
 exact dataR_at hS ha hn ht
theorem linedR_none {x:EntL} {M:List PrL} {t:List UInt8} (h:Px.getL M majorK≠[49]):linedR x M t=(0,{ x with data:=t }):=by
 unfold linedR
 rw [if_pos (.inl h)]
theorem full_named {d:Nat} {R:RawL} {n link:List UInt8} (h:(namedF d R n).2=true):fullL { (namedF d R n).1 with link:=link }=n:=by
 unfold namedF at h ⊢
 by_cases hd:d=2∨d=4
 ·rw [if_pos hd] at h ⊢
  unfold fullL
  dsimp only at h ⊢
  rcases halfF_is n with ⟨_,h1,h2,_⟩|⟨_,⟨i,hi,_,h1,h2,_⟩|⟨_,_,_,h3⟩⟩
  ·rw [h1,if_pos rfl,h2]
  ·obtain ⟨i1,i2,i3,i4,i5⟩:=hi
   obtain ⟨hlt,hv⟩:=List.getElem?_eq_some_iff.1 i3
   rw [h1,h2,if_neg (fun hh=>by have:=congrArg List.length hh;rw [List.length_take,List.length_nil] at this;omega)]
   rw [← hv,← List.drop_eq_getElem_cons hlt,List.take_append_drop]
  ·rw [h3] at h;cases h
 ·rw [if_neg hd]
  rfl
theorem whole_parts {d:Nat} {R:RawL} {n link data s:List UInt8} (h:wholeF d R n link data=(s,0)) :
  ∃ q,(∃ f nm,q={ R with front:=f,name:=nm,link:=link })∧goodL d q∧fullL q=n∧s=writeL d q++fillL data:=by
 unfold wholeF at h
 by_cases hc:(namedF d R n).2=true∧goodL d { (namedF d R n).1 with link:=link }
 ·rw [if_pos hc] at h
  have hq:∃ f nm,(namedF d R n).1={ R with front:=f,name:=nm }:=by
   unfold namedF
   split
   ·exact ⟨_,_,rfl⟩
   ·exact ⟨_,_,rfl⟩
  have hf:=full_named (link:=link) hc.1
  obtain ⟨f,nm,hq⟩:=hq
  rw [hq] at hc h hf
  simp only [Prod.mk.injEq,and_true] at h
  exact ⟨_,⟨f,nm,rfl⟩,hc.2,hf,h.symm⟩
 ·rw [if_neg hc] at h
  simp at h
theorem ends_none {l:List UInt8} (h:endsS l=false):l.reverse.dropWhile (·==47)=l.reverse:=by
 cases hr:l.reverse with
 | nil=>rfl
 | cons c t =>
  refine List.dropWhile_cons_of_neg ?_
  have h1:l.getLast?=some c:=by rw [← List.head?_reverse,hr];rfl
  unfold endsS at h
  rw [h1] at h
  simpa using h
theorem trim_snoc {l:List UInt8} (h:endsS l=false):Lib.trimRightB (l++[47]) 47=l:=by
 unfold Lib.trimRightB
 rw [List.reverse_append,show [(47:UInt8)].reverse=[47] from rfl,List.singleton_append,List.dropWhile_cons_of_pos (by simp),ends_none h,List.reverse_reverse]
theorem ends_snoc (l:List UInt8):endsS (l++[47])=true:=by unfold endsS;simp
theorem right_ends {e:EntL} (h:rightE e=true):endsS e.name=false:=by
 unfold rightE rightT at h
 simp only [Bool.and_eq_true] at h
 simpa using h.1.2.1
theorem right_link {e:EntL} (h:rightE e=true):isLinkB e.kind=false→e.link=[]:=fun hk=>by
 unfold rightE rightT at h
 simp only [Bool.and_eq_true] at h
 have h1:=h.1.2.2.1
 rw [hk] at h1
 simpa using h1
theorem right_txt {e:EntL} (h:rightE e=true):e.name≠[]∧txtOk e.name 120=true∧txtOk e.link 120=true∧txtOk e.user 32=true∧txtOk e.group 32=true:=by
 unfold rightE rightT at h
 simp only [Bool.and_eq_true] at h
 exact ⟨by simpa using h.1.1,h.1.2.2.2⟩
theorem fitsI_iff {n m:Int}:fitsI n m=true↔0≤n∧n≤m:=by unfold fitsI;simp
theorem right_num {e:EntL} (h:rightE e=true):(0≤e.mode∧e.mode≤4095)∧(0≤e.uid∧e.uid≤1099511627775)∧(0≤e.gid∧e.gid≤1099511627775)∧St.rightB e.sec e.nano=true∧(0≤e.major∧e.major≤devMost e.kind)∧(0≤e.minor∧e.minor≤devMost e.kind):=by
 unfold rightE rightN at h
 simp only [Bool.and_eq_true,fitsI_iff] at h
 exact h.2.1
theorem right_dev {e:EntL} (h:rightE e=true):isDevB e.kind=false→e.major=0∧e.minor=0:=fun hk=>by
 obtain ⟨_,_,_,_,h1,h2⟩:=right_num h
 unfold devMost at h1 h2
 rw [hk] at h1 h2
 simp only [Bool.false_eq_true,if_false] at h1 h2
 omega
theorem dense_parts {e:EntL} (h:sparseE e=false):e.map=[]∧(e.data.length:Int)=e.size:=by
 unfold sparseE at h
 rw [Bool.or_eq_false_iff] at h
 exact ⟨List.eq_nil_of_length_eq_zero (by have:=h.1;simp at this;simpa using this),by simpa using h.2⟩
theorem right_other {e:EntL} (h:rightE e=true):e.kind≠48→e.size=0∧e.map=[]∧e.data=[]∧sparseE e=false:=fun hk=>by
 unfold rightE rightD at h
 rw [if_neg hk] at h
 simp only [Bool.and_eq_true] at h
 have h2:=h.2.2
 by_cases hk2:49≤e.kind∧e.kind≤54
 ·rw [if_pos hk2] at h2
  simp only [Bool.and_eq_true,decide_eq_true_iff,Bool.not_eq_true'] at h2
  obtain ⟨h3,h4⟩:=h2
  obtain ⟨h5,h6⟩:=dense_parts h4
  exact ⟨h3,h5,List.eq_nil_of_length_eq_zero (by omega),h4⟩
 ·rw [if_neg hk2] at h2
  cases h2
theorem right_kinds {e:EntL} (h:rightE e=true):e.kind=48∨e.kind=49∨e.kind=50∨e.kind=51∨e.kind=52∨e.kind=53∨e.kind=54:=by
 by_cases hk:e.kind=48
 ·exact .inl hk
 ·right
  unfold rightE rightD at h
  rw [if_neg hk] at h
  simp only [Bool.and_eq_true] at h
  have h2:=h.2.2
  by_cases hk2:49≤e.kind∧e.kind≤54
  ·obtain ⟨a,b⟩:=hk2
   rw [UInt8.le_iff_toNat_le] at a b
   have a':49≤e.kind.toNat:=a
   have b':e.kind.toNat≤54:=b
   have hc:e.kind.toNat=49∨e.kind.toNat=50∨e.kind.toNat=51∨e.kind.toNat=52∨e.kind.toNat=53∨e.kind.toNat=54:=by omega
   exact hc.imp (fun x=>UInt8.toNat_inj.1 x) (Or.imp (fun x=>UInt8.toNat_inj.1 x) (Or.imp (fun x=>UInt8.toNat_inj.1 x) (Or.imp (fun x=>UInt8.toNat_inj.1 x) (Or.imp (fun x=>UInt8.toNat_inj.1 x) (fun x=>UInt8.toNat_inj.1 x)))))
  ·rw [if_neg hk2] at h2
   cases h2
theorem right_file {e:EntL} (h:rightE e=true) (hk:e.kind=48):(0≤e.size∧e.size≤4000)∧(sparseE e=true→mapRight e.map e.size=true∧(e.data.length:Int)=sizeF 0 e.map):=by
 unfold rightE rightD at h
 rw [if_pos hk] at h
 simp only [Bool.and_eq_true,fitsI_iff] at h
 refine ⟨h.2.2.1,fun hs=>?_⟩
 have h2:=h.2.2.2
 rw [hs] at h2
 simpa using h2
theorem settle_back {e:EntL} (hr:rightE e=true) {k:UInt8} (hk:k=e.kind∨(k=48∧e.kind=53)):settleF { e with name:=storedE e,kind:=k }=e:=by
 have he:=right_ends hr
 have hl:=right_link hr
 have hm:=right_dev hr
 have ho:=right_other hr
 have hks:=right_kinds hr
 clear hr
 obtain ⟨nm,kd,mode,uid,gid,size,sec,nano,link,user,group,major,minor,data,map⟩:=e
 dsimp only at *
 rcases hks with rfl|rfl|rfl|rfl|rfl|rfl|rfl
 ·obtain rfl:k=48:=by
   rcases hk with h|⟨_,h⟩
   ·exact h
   ·exact absurd h (by decide)
  obtain rfl:=hl rfl
  obtain ⟨rfl,rfl⟩:=hm rfl
  simp [settleF,storedE,isLinkB,isDevB,he]
 ·obtain rfl:k=49:=by
   rcases hk with h|⟨_,h⟩
   ·exact h
   ·exact absurd h (by decide)
  obtain ⟨rfl,rfl⟩:=hm rfl
  obtain ⟨rfl,rfl,rfl,_⟩:=ho (by decide)
  simp [settleF,storedE,isLinkB,isDevB]
 ·obtain rfl:k=50:=by
   rcases hk with h|⟨_,h⟩
   ·exact h
   ·exact absurd h (by decide)
  obtain ⟨rfl,rfl⟩:=hm rfl
  obtain ⟨rfl,rfl,rfl,_⟩:=ho (by decide)
  simp [settleF,storedE,isLinkB,isDevB]
 ·obtain rfl:k=51:=by
   rcases hk with h|⟨_,h⟩
   ·exact h
   ·exact absurd h (by decide)
  obtain rfl:=hl rfl
  obtain ⟨rfl,rfl,rfl,_⟩:=ho (by decide)
  simp [settleF,storedE,isLinkB,isDevB]
 ·obtain rfl:k=52:=by
   rcases hk with h|⟨_,h⟩
   ·exact h
   ·exact absurd h (by decide)
  obtain rfl:=hl rfl
  obtain ⟨rfl,rfl,rfl,_⟩:=ho (by decide)
  simp [settleF,storedE,isLinkB,isDevB]
 ·obtain rfl:=hl rfl
  obtain ⟨rfl,rfl⟩:=hm rfl
  obtain ⟨rfl,rfl,rfl,_⟩:=ho (by decide)
  rcases hk with rfl|⟨rfl,_⟩
  ·simp [settleF,storedE,isLinkB,isDevB,trim_snoc he]
  ·simp [settleF,storedE,isLinkB,isDevB,trim_snoc he,ends_snoc]
 ·obtain rfl:k=54:=by
   rcases hk with h|⟨_,h⟩
   ·exact h
   ·exact absurd h (by decide)
  obtain rfl:=hl rfl
  obtain ⟨rfl,rfl⟩:=hm rfl
  obtain ⟨rfl,rfl,rfl,_⟩:=ho (by decide)
  simp [settleF,storedE,isLinkB,isDevB]
theorem merge_self {M:List PrL} (h:Px.Rising M) (hv:∀ p∈M,p.2≠[]):mergeF M=M :=
 mergeF_eq ⟨h,fun p=>by
  rw [← Px.rising_last h p]
  exact ⟨fun hp=>⟨hp,hv p hp⟩,fun hp=>hp.1⟩⟩
theorem mergeF_nil:mergeF []=[]:=merge_self List.Pairwise.nil (fun p h=>by cases h)
theorem old_reads {d:Nat} (hd:d=1∨d=2) {e:EntL} (hr:rightE e=true) (hdl:e.data.length≤10000) {s:List UInt8} (h:oldF d e=(s,0)) (p R:List UInt8) (G:List PrL) {x:EntL}
  (hG:Px.getL (mergeF G) majorK≠[49]) (hx:∀ k,(k=e.kind∨(d=1∧k=48∧e.kind=53))→applyAll { e with name:=storedE e,kind:=k,data:=[],map:=[] } (mergeF G)=({ x with kind:=k,data:=[],map:=[] },0))
  {e':EntL} (hs:∀ k,(k=e.kind∨(d=1∧k=48∧e.kind=53))→settleF { x with kind:=k,data:=e.data,map:=[] }=e') (he':rightE e'=true) :
  Reads (p++(s++R)) ⟨p.length,G,[],none,none⟩ (.ok e' (p.length+s.length) G):=by
 unfold oldF at h
 by_cases h1:sparseE e=true∨e.nano≠0
 ·rw [if_pos h1] at h;simp at h
 rw [if_neg h1] at h
 by_cases h2:d=1∧(e.kind=51∨e.kind=52∨e.kind=54)
 ·rw [if_pos h2] at h;simp at h
 rw [if_neg h2] at h
 have hsp:sparseE e=false:=by cases hh:sparseE e with|true=>exact absurd (.inl hh) h1|false=>rfl
 have hn:e.nano=0:=by by_cases hh:e.nano=0;exact hh;exact absurd (.inr hh) h1
 obtain ⟨hmp,hsz⟩:=dense_parts hsp
 obtain ⟨k,hk,hK⟩:∃ k,(if d=1∧e.kind=53 then { rawE e with kind:=48 } else rawE e)={ rawE e with kind:=k }∧(k=e.kind∨(d=1∧k=48∧e.kind=53)):=by
  by_cases hh:d=1∧e.kind=53
  ·rw [if_pos hh];exact ⟨48,rfl,.inr ⟨hh.1,rfl,hh.2⟩⟩
  ·rw [if_neg hh];exact ⟨e.kind,rfl,.inl rfl⟩
 rw [hk] at h
 obtain ⟨q,⟨f,nm,hq⟩,hg,hf,rfl⟩:=whole_parts h
 obtain ⟨m1,m2,m3,m4,m5,m6⟩:=right_num hr
 obtain ⟨t1,t2,t3,t4⟩:=St.rightB_true _ _ m4
 have hdv:devMost e.kind≤2097151:=by unfold devMost;split <;> omega
 have hi:intsL q:=by
  subst hq
  unfold intsL i64 rawE
  dsimp only
  omega
 have hkk:k≠83∧k≠55∧aheadB k=false:=by
  rcases hK with rfl|⟨_,rfl,_⟩
  ·rcases right_kinds hr with hh|hh|hh|hh|hh|hh|hh <;> rw [hh] <;> decide
  ·decide
 have hk3:q.kind=k:=by subst hq;rfl
 have hs3:q.size=e.data.length:=by subst hq;rfl
 have hE:entryR q ⟨p.length,G,[],none,none⟩={ e with name:=storedE e,kind:=k,data:=[],map:=[] }:=by
  subst hq
  unfold entryR
  rw [hf]
  unfold rawE
  dsimp only
  rw [hsz,hn]
  rfl
 clear hq h
 rw [List.append_assoc,List.length_append,write_length hg]
 have hx':=hx k hK
 have:=found_at (write_length hg) (write_thick hg) (headF_write hg hi) (by rw [hk3];exact hkk.2.2) (p:=p) (T:=fillL e.data++R) (st:=⟨p.length,G,[],none,none⟩) rfl (M:=mergeF G)
  (by rw [List.append_nil]) (by rw [hE];exact hx') (y:={ x with kind:=k,data:=e.data,map:=[] }) (a:=p.length+512+(fillL e.data).length)
  (by rw [kindR_plain (p:=p++writeL d q) (t:=e.data) (R:=R) hkk.1 hkk.2.1 (by rw [List.append_assoc]) (by rw [List.length_append,write_length hg]) hs3 (by omega),linedR_none hG])
  (by rw [hs k hK];exact he')
 rw [hs k hK] at this
 rw [show p.length+(512+(fillL e.data).length)=p.length+512+(fillL e.data).length by omega]
 exact this
theorem old_back {d:Nat} (hd:d=1∨d=2) {e:EntL} (hr:rightE e=true) (hdl:e.data.length≤10000) {s:List UInt8} (h:oldF d e=(s,0)) (p R:List UInt8) :
  Reads (p++(s++R)) ⟨p.length,[],[],none,none⟩ (.ok e (p.length+s.length) []):=by
 have hmp:e.map=[]:=by
  unfold oldF at h
  by_cases h1:sparseE e=true∨e.nano≠0
  ·rw [if_pos h1] at h;simp at h
  ·exact (dense_parts (by cases hh:sparseE e with|true=>exact absurd (.inl hh) h1|false=>rfl)).1
 refine old_reads hd hr hdl h p R [] (x:={ e with name:=storedE e }) (by rw [mergeF_nil];decide) (fun k hk=>by rw [mergeF_nil];rfl) (fun k hk=>?_) hr
 rw [← hmp]
 exact settle_back hr (hk.imp id fun hh=>hh.2)
end Go.Proofs.YtdjcjaidklgamaaGreatDoor
end
set_option linter.unusedSimpArgs false
set_option linter.unusedVariables false
section
namespace Go.Proofs.YtdjcjaidklgamaaGreatDoor
set_option linter.unusedVariables false
theorem intsLong (k:UInt8) (n:Int) (h0:0≤n) (h1:n≤100000):intsL (rawLong k n):=by
 unfold intsL i64 rawLong
 dsimp only
 omega
def someIf (t:List UInt8):Option (List UInt8):=if 100<t.length then some t else none
theorem someIf_get (t:List UInt8):(someIf t).getD (t.take 100)=t:=by
 unfold someIf
 split
 ·rfl
 ·exact List.take_of_length_le (by omega)
theorem long_link {t:List UInt8} (ht:t.length≤3000) (hz:∀ c∈t,c≠0) {p T:List UInt8} {nm:Option (List UInt8)} {r:Res}
  (h:Reads (p++(longF 75 t++T)) ⟨p.length+(longF 75 t).length,[],[],nm,someIf t⟩ r):Reads (p++(longF 75 t++T)) ⟨p.length,[],[],nm,none⟩ r:=by
 unfold longF someIf at *
 by_cases hl:100<t.length
 ·rw [if_pos hl] at *
  rw [if_pos hl] at h
  have hg:=goodLong 75 (by decide) (t.length+1) (by omega) (by omega)
  have hi:=intsLong 75 (t.length+1) (by omega) (by omega)
  refine .step ?_ h
  rw [List.append_assoc,nextR_at (write_length hg) (write_thick hg) (headF_write hg hi) p _ _ rfl,if_pos (show aheadB (rawLong 75 (t.length+1)).kind=true from (by decide:aheadB 75=true))]
  unfold aheadR
  dsimp only
  rw [takeF_at (S:=p++(writeL 3 (rawLong 75 (t.length+1))++(fillL (t++[0])++T))) (p:=p++writeL 3 (rawLong 75 (t.length+1))) (t:=t++[0]) (R:=T) (by rw [List.append_assoc]) (by rw [List.length_append,write_length hg]) (show (rawLong 75 (t.length+1)).size=_ by rw [List.length_append];rfl) (show (t.length:Int)+1≤4000 by omega)]
  dsimp only
  rw [if_neg (by simp),if_neg (show ¬ (rawLong 75 (t.length+1)).kind=76 from (by decide:¬ (75:UInt8)=76)),if_pos (show (rawLong 75 (t.length+1)).kind=75 from rfl),show t++[0]=t++List.replicate 1 0 from rfl,cutZ_append hz,List.length_append,write_length hg]
  rw [show p.length+(512+(fillL (t++List.replicate 1 0)).length)=p.length+512+(fillL (t++List.replicate 1 0)).length by omega]
 ·rw [if_neg hl] at *
  rw [if_neg hl] at h
  exact h
theorem long_name {t:List UInt8} (ht:t.length≤3000) (hz:∀ c∈t,c≠0) {p T:List UInt8} {lk:Option (List UInt8)} {r:Res}
  (h:Reads (p++(longF 76 t++T)) ⟨p.length+(longF 76 t).length,[],[],someIf t,lk⟩ r):Reads (p++(longF 76 t++T)) ⟨p.length,[],[],none,lk⟩ r:=by
 unfold longF someIf at *
 by_cases hl:100<t.length
 ·rw [if_pos hl] at *
  rw [if_pos hl] at h
  have hg:=goodLong 76 (by decide) (t.length+1) (by omega) (by omega)
  have hi:=intsLong 76 (t.length+1) (by omega) (by omega)
  refine .step ?_ h
  rw [List.append_assoc,nextR_at (write_length hg) (write_thick hg) (headF_write hg hi) p _ _ rfl,if_pos (show aheadB (rawLong 76 (t.length+1)).kind=true from (by decide:aheadB 76=true))]
  unfold aheadR
  dsimp only
  rw [takeF_at (S:=p++(writeL 3 (rawLong 76 (t.length+1))++(fillL (t++[0])++T))) (p:=p++writeL 3 (rawLong 76 (t.length+1))) (t:=t++[0]) (R:=T) (by rw [List.append_assoc]) (by rw [List.length_append,write_length hg]) (show (rawLong 76 (t.length+1)).size=_ by rw [List.length_append];rfl) (show (t.length:Int)+1≤4000 by omega)]
  dsimp only
  rw [if_neg (by simp),if_pos (show (rawLong 76 (t.length+1)).kind=76 from rfl),show t++[0]=t++List.replicate 1 0 from rfl,cutZ_append hz,List.length_append,write_length hg]
  rw [show p.length+(512+(fillL (t++List.replicate 1 0)).length)=p.length+512+(fillL (t++List.replicate 1 0)).length by omega]
 ·rw [if_neg hl] at *
  rw [if_neg hl] at h
  exact h
def Dense (l:List Pc):Prop:=∀ q∈l,(0≤q.1∧q.1≤8589934591)∧(1≤q.2∧q.2≤8589934591)
theorem readF_oct12 {n:Int} (h0:0≤n) (h1:n≤8589934591):readF (octL n)=(n,0):=back_oct n 12 (by omega) (by omega) h0 (by omega)
theorem readF_zeros:readF (List.replicate 12 0)=(0,0):=by decide
theorem addF_list (t:List UInt8):∀ (k i:Nat) (l m:List Pc) (rest:List UInt8),Dense m→l.length+(m.take k).length≤20 →
  t.drop (24 * i)=pcsL (m.take k)++(List.replicate ((k - min k m.length) * 24) 0++rest)→addF t k i l=(0,l++m.take k)
 | 0,i,l,m,rest,hd,hl,ht=>by rw [List.take_zero,List.append_nil];rfl
 | k+1,i,l,m,rest,hd,hl,ht=>by
  have e1:sub t (24 * i) 12=(t.drop (24 * i)).take 12:=rfl
  have e2:sub t (24 * i+12) 12=((t.drop (24 * i)).drop 12).take 12:=by unfold sub;rw [List.drop_drop]
  cases m with
  | nil =>
   have hz:t.drop (24 * i)=List.replicate 12 0++(List.replicate 12 0++(List.replicate (k * 24) 0++rest)):=by
    rw [ht]
    show []++(List.replicate ((k+1 - min (k+1) 0) * 24) 0++rest)=_
    rw [List.nil_append,show (k+1 - min (k+1) 0) * 24=12+(12+k * 24) by omega,← List.replicate_append_replicate,← List.replicate_append_replicate,List.append_assoc,List.append_assoc]
   have r1:(readF (sub t (24 * i) 12))=(0,0):=by rw [e1,hz,List.take_left' (by simp)];exact readF_zeros
   have r2:(readF (sub t (24 * i+12) 12))=(0,0):=by rw [e2,hz,List.drop_left' (by simp),List.take_left' (by simp)];exact readF_zeros
   unfold addF
   rw [r1,r2,if_neg (by simp),if_pos rfl,List.take_nil,List.append_nil]
  | cons q m =>
   obtain ⟨⟨a1,a2⟩,a3,a4⟩:=hd q (List.mem_cons_self ..)
   have hz:t.drop (24 * i)=octL q.1++(octL q.2++(pcsL (m.take k)++(List.replicate ((k - min k m.length) * 24) 0++rest))):=by
    rw [ht,List.take_succ_cons,List.length_cons,show (k+1 - min (k+1) (m.length+1))=k - min k m.length by omega]
    unfold pcsL
    rw [List.flatMap_cons,List.append_assoc,List.append_assoc]
   have r1:(readF (sub t (24 * i) 12))=(q.1,0):=by rw [e1,hz,List.take_left' (octL_length _)];exact readF_oct12 a1 a2
   have r2:(readF (sub t (24 * i+12) 12))=(q.2,0):=by rw [e2,hz,List.drop_left' (octL_length _),List.take_left' (octL_length _)];exact readF_oct12 (by omega) a4
   have hl':l.length+((m.take k).length+1)≤20:=by rw [List.take_succ_cons,List.length_cons] at hl;exact hl
   unfold addF
   rw [r1,r2,if_neg (by simp),if_neg (by omega),if_neg (by omega)]
   have:=addF_list t k (i+1) (l++[q]) m rest (fun x hx=>hd x (List.mem_cons_of_mem _ hx)) (by rw [List.length_append,List.length_singleton];omega) (by
    rw [show 24 * (i+1)=24 * i+24 by omega,← List.drop_drop,hz,← List.append_assoc,List.drop_left' (by rw [List.length_append,octL_length,octL_length])])
   rw [this,List.take_succ_cons,List.append_assoc]
   rfl
theorem listF_last (l:List Pc) (most:Nat):(listF l most)[24 * most]?=some (if most<l.length then 1 else 0):=by
 have h:(pcsL (l.take most)++List.replicate ((most - min most l.length) * 24) 0).length=24 * most:=by
  rw [List.length_append,List.length_replicate,pcsL_len,List.length_take]
  omega
 unfold listF
 rw [← List.append_assoc,List.getElem?_append_right (by omega),h,Nat.sub_self]
 rfl
theorem rightF_dense {size:Int} (hs:size≤8589934591):∀ (l:List Pc) (e:Int),-1≤e→rightF size e l=true→Dense l
 | [],_,_,_=>fun q h=>by cases h
 | p :: l,e,he,h=>by
  unfold rightF at h
  simp only [Bool.and_eq_true,decide_eq_true_iff] at h
  obtain ⟨h1,h2,h3,h4⟩:=h
  intro q hq
  rcases List.mem_cons.1 hq with rfl|hq
  ·omega
  ·exact rightF_dense hs l (p.1+p.2) (by omega) h4 q hq
theorem mapRight_parts {l:List Pc} {size:Int} (hs:size≤8589934591) (h:mapRight l size=true):l.length≤20∧Dense l:=by
 unfold mapRight at h
 simp only [Bool.and_eq_true,decide_eq_true_iff] at h
 exact ⟨h.2.1,rightF_dense hs l (-1) (by omega) h.2.2⟩
theorem raw_agree {l m:List UInt8} (h:∀ j,j<345→(j<148∨156≤j)→l[j]?=m[j]?) (hd:dialF m=3):dialF l=3∧(numsRead l↔numsRead m)∧rawAt l=rawAt m:=by
 have s1:sub l 0 100=sub m 0 100:=sub_congr fun j a b=>h j (by omega) (by omega)
 have s2:sub l 100 8=sub m 100 8:=sub_congr fun j a b=>h j (by omega) (by omega)
 have s3:sub l 108 8=sub m 108 8:=sub_congr fun j a b=>h j (by omega) (by omega)
 have s4:sub l 116 8=sub m 116 8:=sub_congr fun j a b=>h j (by omega) (by omega)
 have s5:sub l 124 12=sub m 124 12:=sub_congr fun j a b=>h j (by omega) (by omega)
 have s6:sub l 136 12=sub m 136 12:=sub_congr fun j a b=>h j (by omega) (by omega)
 have s7:sub l 156 1=sub m 156 1:=sub_congr fun j a b=>h j (by omega) (by omega)
 have s8:sub l 157 100=sub m 157 100:=sub_congr fun j a b=>h j (by omega) (by omega)
 have s9:sub l 257 8=sub m 257 8:=sub_congr fun j a b=>h j (by omega) (by omega)
 have s10:sub l 265 32=sub m 265 32:=sub_congr fun j a b=>h j (by omega) (by omega)
 have s11:sub l 297 32=sub m 297 32:=sub_congr fun j a b=>h j (by omega) (by omega)
 have s12:sub l 329 8=sub m 329 8:=sub_congr fun j a b=>h j (by omega) (by omega)
 have s13:sub l 337 8=sub m 337 8:=sub_congr fun j a b=>h j (by omega) (by omega)
 have hl:dialF l=3:=by
  rw [← hd]
  unfold dialF
  rw [s9]
 refine ⟨hl,?_,?_⟩
 ·unfold numsRead numAt
  rw [hl,hd,s2,s3,s4,s5,s6,s12,s13]
 ·unfold rawAt numAt
  rw [hl,hd,s1,s2,s3,s4,s5,s6,s7,s8,s10,s11,s12,s13]
  rfl
theorem seal_drop {B:List UInt8} (h:B.length=512) {n:Nat} (hn:156≤n):(sealL B).drop n=B.drop n:=by
 apply List.ext_getElem?
 intro j
 rw [List.getElem?_drop,List.getElem?_drop]
 exact sealL_high B h _ (by omega)
def holesB (s:List UInt8) (e:EntL):List UInt8:=s.take 386++(listF e.map 4++(octL e.size++sub s 495 17))
theorem holesB_length {s:List UInt8} (hs:512≤s.length) (e:EntL):(holesB s e).length=512:=by
 have h1:=octL_length e.size
 have h2:=listF_len e.map 4
 unfold holesB sub
 simp only [List.length_append,List.length_take,List.length_drop]
 omega
theorem holesB_head {q:RawL} (hg:goodL 3 q) (hi:intsL q) (e:EntL) (T:List UInt8):headF (sealL (holesB (writeL 3 q++T) e))=(0,q):=by
 have hl:=write_length hg
 have hB:=holesB_length (s:=writeL 3 q++T) (by rw [List.length_append,hl];omega) e
 obtain ⟨h1,h2,h3⟩:=write_read hg hi
 have ha:=raw_agree (l:=sealL (holesB (writeL 3 q++T) e)) (m:=writeL 3 q) (fun j hj hj2=>by
  have h5:(sealL (holesB (writeL 3 q++T) e))[j]?=(holesB (writeL 3 q++T) e)[j]?:=by
   rcases hj2 with hj2|hj2
   ·exact sealL_low _ hB j hj2
   ·exact sealL_high _ hB j hj2
  rw [h5]
  unfold holesB
  rw [List.getElem?_append_left (by rw [List.length_take,List.length_append,hl];omega),List.getElem?_take,if_pos (by omega),List.getElem?_append_left (by omega)]) h2
 unfold headF
 rw [if_neg (fun hh=>hh (sealL_length _ hB)),if_neg (fun hh=>hh (rightL_seal _ hB)),if_neg (fun hh=>hh (ha.2.1.2 h1)),ha.2.2,h3]
theorem holesB_thick {q:RawL} (hg:goodL 3 q) (e:EntL) (T:List UInt8):(sealL (holesB (writeL 3 q++T) e)).all (·==0)=false:=by
 have hl:=write_length hg
 have hB:=holesB_length (s:=writeL 3 q++T) (by rw [List.length_append,hl];omega) e
 have hw:=goodL.wide hg.2.2.2.1 hg.2.2.2.2
 have h1:sub (writeL 3 q) 156 1=[q.kind]:=by unfold writeL;rw [sub_seal (bodyL_length hw) (.inr (by omega)),field7 hw]
 have h2:sub (sealL (holesB (writeL 3 q++T) e)) 156 1=[q.kind]:=by
  rw [← h1,sub_seal hB (.inr (by omega))]
  refine sub_congr fun j a b=>?_
  unfold holesB
  rw [List.getElem?_append_left (by rw [List.length_take,List.length_append,hl];omega),List.getElem?_take,if_pos (by omega),List.getElem?_append_left (by omega)]
 have h3:q.kind∈sealL (holesB (writeL 3 q++T) e):=by
  have h4:q.kind∈sub (sealL (holesB (writeL 3 q++T) e)) 156 1:=by rw [h2];exact List.mem_cons_self ..
  unfold sub at h4
  exact List.mem_of_mem_drop (List.mem_of_mem_take h4)
 cases hz:(sealL (holesB (writeL 3 q++T) e)).all (·==0) with
 | false=>rfl
 | true=>exact absurd (by simpa using List.all_eq_true.1 hz _ h3) hg.2.1
theorem holesR_back {s:List UInt8} (hs:512≤s.length) {e:EntL} (hm:e.map.length≤20) (hd:Dense e.map) (hz:0≤e.size∧e.size≤8589934591) {S p T:List UInt8} {a:Nat} (hS:S=p++(moreF (e.map.drop 4)++T)) (ha:p.length=a) :
  holesR S (sealL (holesB s e)) a=(0,e.map,e.size,a+(moreF (e.map.drop 4)).length):=by
 have hB:=holesB_length hs e
 have hll:=listF_len e.map 4
 have h1:(sealL (holesB s e)).drop 386=listF e.map 4++(octL e.size++sub s 495 17):=by
  rw [seal_drop hB (by omega)]
  unfold holesB
  exact List.drop_left' (by rw [List.length_take];omega)
 have h2:addF ((sealL (holesB s e)).drop 386) 4 0 []=(0,e.map.take 4):=by
  have:=addF_list ((sealL (holesB s e)).drop 386) 4 0 [] e.map ([if 4<e.map.length then 1 else 0]++(octL e.size++sub s 495 17)) hd (by rw [List.length_take];simp;omega) (by
   rw [Nat.mul_zero,List.drop_zero,h1]
   unfold listF
   rw [List.append_assoc,List.append_assoc])
  rw [this,List.nil_append]
 have h3:sub (sealL (holesB s e)) 483 12=octL e.size:=by
  rw [sub_seal hB (.inr (by omega))]
  unfold holesB
  rw [sub_skip (m:=386) (by rw [List.length_take];omega) (by omega),sub_skip (m:=97) (by omega) (by omega)]
  exact sub_here (octL_length _)
 have h4:(sealL (holesB s e))[482]?=some (if 4<e.map.length then 1 else 0):=by
  rw [sealL_high _ hB _ (by omega)]
  unfold holesB
  rw [List.getElem?_append_right (by rw [List.length_take];omega),List.length_take,show 482 - min 386 s.length=24 * 4 by omega,List.getElem?_append_left (by omega)]
  exact listF_last e.map 4
 have h5:moreR S a (e.map.take 4) (decide ((sealL (holesB s e))[482]?≠some 0))=(0,e.map,a+(moreF (e.map.drop 4)).length):=by
  rw [h4]
  by_cases hlt:4<e.map.length
  ·have hne:e.map.drop 4≠[]:=fun h=>by have:=congrArg List.length h;rw [List.length_drop,List.length_nil] at this;omega
   have hM:moreF (e.map.drop 4)=fillL (listF (e.map.drop 4) 21):=by unfold moreF;rw [if_neg hne]
   have hL2:=listF_len (e.map.drop 4) 21
   have hF:(fillL (listF (e.map.drop 4) 21)).length=512:=by
    have h6:=fillL_size (listF (e.map.drop 4) 21)
    rw [hL2] at h6
    have:padF ((24 * 21+1:Nat):Int)=7:=by decide
    omega
   have hb:sub S a 512=fillL (listF (e.map.drop 4) 21):=by rw [hS,hM];exact sub_mid ha hF
   have hR:(e.map.drop 4).length≤16:=by rw [List.length_drop];omega
   have h7:addF (sub S a 512) 21 0 (e.map.take 4)=(0,e.map):=by
    rw [hb]
    have:=addF_list (fillL (listF (e.map.drop 4) 21)) 21 0 (e.map.take 4) (e.map.drop 4) ([if 21<(e.map.drop 4).length then 1 else 0]++List.replicate (padF (listF (e.map.drop 4) 21).length).toNat 0) (fun x hx=>hd x (List.mem_of_mem_drop hx)) (by rw [List.length_take,List.length_take];omega) (by
     rw [Nat.mul_zero,List.drop_zero]
     unfold fillL
     conv=>lhs;arg 1;unfold listF
     rw [List.append_assoc,List.append_assoc])
    rw [this,List.take_of_length_le (l:=e.map.drop 4) (by omega),List.take_append_drop]
   have h8:(sub S a 512)[504]?=some 0:=by
    rw [hb]
    unfold fillL
    rw [List.getElem?_append_left (by omega),show 504=24 * 21 from rfl,listF_last,if_neg (by omega)]
   rw [if_pos hlt]
   unfold moreR
   rw [if_neg (by decide),if_neg (by rw [hS,List.length_append,List.length_append,hM];omega),h7,if_neg (by simp),h8]
   unfold moreR
   rw [if_pos (by decide),hM,hF]
  ·have he:e.map.drop 4=[]:=List.drop_eq_nil_of_le (by omega)
   rw [if_neg hlt]
   unfold moreR
   rw [if_pos (by decide),he,List.take_of_length_le (by omega)]
   rfl
 unfold holesR
 rw [h2,if_neg (by simp),h3,readF_oct12 hz.1 hz.2,if_neg (by simp),h5]
theorem gnu_back {e:EntL} (hr:rightE e=true) (hdl:e.data.length≤10000) {s:List UInt8} (h:gnuF e=(s,0)) (p R:List UInt8) :
  Reads (p++(s++R)) ⟨p.length,[],[],none,none⟩ (.ok e (p.length+s.length) []):=by
 unfold gnuF at h
 by_cases h0:e.nano≠0
 ·rw [if_pos h0] at h;simp at h
 rw [if_neg h0] at h
 have hn:e.nano=0:=Classical.not_not.1 h0
 by_cases h1:(gnuX e).2≠0
 ·rw [if_pos h1] at h;simp at h
 rw [if_neg h1] at h
 obtain ⟨X,hX⟩:∃ X,gnuX e=(X,0):=⟨(gnuX e).1,Prod.ext rfl (Classical.not_not.1 h1)⟩
 rw [hX] at h
 simp only [Prod.mk.injEq,and_true] at h
 subst h
 have htx:=right_txt hr
 have hz1:∀ c∈e.link,c≠0:=(txtOk_iff.1 htx.2.2.1).2
 have hz2:∀ c∈storedE e,c≠0:=by
  have:=(txtOk_iff.1 htx.2.1).2
  intro c hc
  unfold storedE at hc
  split at hc
  ·rcases List.mem_append.1 hc with hc|hc
   ·exact this c hc
   ·rw [List.mem_singleton.1 hc];decide
  ·exact this c hc
 have hl1:e.link.length≤3000:=by have:=(txtOk_iff.1 htx.2.2.1).1;omega
 have hl2:(storedE e).length≤3000:=by
  have:=(txtOk_iff.1 htx.2.1).1
  unfold storedE
  split
  ·rw [List.length_append,List.length_singleton];omega
  ·omega
 obtain ⟨m1,m2,m3,m4,m5,m6⟩:=right_num hr
 obtain ⟨t1,t2,t3,t4⟩:=St.rightB_true _ _ m4
 have hdv:devMost e.kind≤2097151:=by unfold devMost;split <;> omega
 unfold gnuX at hX
 obtain ⟨q,⟨f,nm,hq⟩,hg,hf,rfl⟩:=whole_parts hX
 have hi:intsL q:=by
  subst hq
  unfold gnuRaw
  split <;> (unfold intsL i64 rawE;dsimp only;omega)
 have hk3:q.kind=(gnuRaw e).kind:=by subst hq;rfl
 have hsz2:q.size=e.data.length:=by
  subst hq
  unfold gnuRaw
  split <;> rfl
 have hE:∀ a,entryR q ⟨a,[],[],someIf (storedE e),someIf e.link⟩={ e with name:=storedE e,kind:=(gnuRaw e).kind,size:=e.data.length,data:=[],map:=[] }:=by
  intro a
  subst hq
  unfold entryR
  rw [hf,someIf_get]
  dsimp only
  rw [someIf_get]
  unfold gnuRaw
  split <;> (unfold rawE;dsimp only;rw [hn])
 clear hq
 suffices hG:Reads (p++(longF 75 e.link++(longF 76 (storedE e)++((if sparseE e=true then holesF (writeL 3 q++fillL e.data) e else writeL 3 q++fillL e.data)++R)))) ⟨p.length+(longF 75 e.link).length+(longF 76 (storedE e)).length,[],[],someIf (storedE e),someIf e.link⟩
   (.ok e (p.length+(longF 75 e.link++(longF 76 (storedE e)++(if sparseE e=true then holesF (writeL 3 q++fillL e.data) e else writeL 3 q++fillL e.data))).length) []) by
  rw [List.append_assoc,List.append_assoc]
  refine long_link hl1 hz1 ?_
  have h2:=long_name hl2 hz2 (p:=p++longF 75 e.link) (T:=(if sparseE e=true then holesF (writeL 3 q++fillL e.data) e else writeL 3 q++fillL e.data)++R) (lk:=someIf e.link)
   (r:=.ok e (p.length+(longF 75 e.link++(longF 76 (storedE e)++(if sparseE e=true then holesF (writeL 3 q++fillL e.data) e else writeL 3 q++fillL e.data))).length) [])
  rw [List.append_assoc,List.length_append] at h2
  exact h2 hG
 cases hsp:sparseE e with
 | false =>
  obtain ⟨hmp,hsz⟩:=dense_parts hsp
  have hK:(gnuRaw e).kind=e.kind:=by unfold gnuRaw;rw [if_neg (by rw [hsp];simp)];rfl
  have hkk:e.kind≠83∧e.kind≠55∧aheadB e.kind=false:=by
   rcases right_kinds hr with hh|hh|hh|hh|hh|hh|hh <;> rw [hh] <;> decide
  rw [if_neg (by simp)]
  generalize hL:longF 75 e.link=L1 at *
  generalize hN:longF 76 (storedE e)=L2 at *
  have hset:settleF { e with name:=storedE e,kind:=(gnuRaw e).kind,size:=e.data.length,data:=e.data,map:=[] }=e:=by
   rw [hK,hsz,← hmp]
   exact settle_back hr (.inl rfl)
  have hk3:q.kind=e.kind:=hk3.trans hK
  have:=found_at (write_length hg) (write_thick hg) (headF_write hg hi) (by rw [hk3];exact hkk.2.2) (p:=p++(L1++L2)) (T:=fillL e.data++R) (st:=⟨p.length+L1.length+L2.length,[],[],someIf (storedE e),someIf e.link⟩) (by rw [List.length_append,List.length_append];show p.length+L1.length+L2.length=_;omega) (M:=[]) mergeF_nil
   (x:={ e with name:=storedE e,kind:=(gnuRaw e).kind,size:=e.data.length,data:=[],map:=[] }) (by rw [hE];rfl) (y:={ e with name:=storedE e,kind:=(gnuRaw e).kind,size:=e.data.length,data:=e.data,map:=[] }) (a:=p.length+L1.length+L2.length+512+(fillL e.data).length)
   (by
    rw [kindR_plain (p:=p++(L1++L2)++writeL 3 q) (t:=e.data) (R:=R) (by rw [show _=e.kind from hK];exact hkk.1) (by rw [show _=e.kind from hK];exact hkk.2.1) (by simp only [List.append_assoc]) (by rw [List.length_append,write_length hg]) hsz2 (by omega),linedR_none (by decide)]
    rw [List.length_append,List.length_append,show p.length+(L1.length+L2.length)=p.length+L1.length+L2.length by omega])
   (by rw [hset];exact hr)
  rw [hset] at this
  simp only [List.append_assoc] at this ⊢
  simp only [List.length_append,write_length hg]
  rw [show p.length+(L1.length+(L2.length+(512+(fillL e.data).length)))=p.length+L1.length+L2.length+512+(fillL e.data).length by omega]
  exact this
 | true =>
  have hk48:e.kind=48:=by
   by_cases hh:e.kind=48
   ·exact hh
   ·have:=(right_other hr hh).2.2.2;rw [hsp] at this;cases this
  obtain ⟨⟨z1,z2⟩,hmr⟩:=right_file hr hk48
  obtain ⟨hm1,hm2⟩:=mapRight_parts (by omega) (hmr hsp).1
  have hK:(gnuRaw e).kind=83:=by unfold gnuRaw;rw [if_pos hsp]
  rw [if_pos rfl]
  generalize hL:longF 75 e.link=L1 at *
  generalize hN:longF 76 (storedE e)=L2 at *
  have hset:settleF { e with name:=storedE e,kind:=48 }=e:=settle_back hr (.inl hk48.symm)
  have hk3:q.kind=83:=hk3.trans hK
  have hql:=write_length hg
  have hB:=holesB_length (s:=writeL 3 q++fillL e.data) (by rw [List.length_append,hql];omega) e
  have hho:holesF (writeL 3 q++fillL e.data) e=sealL (holesB (writeL 3 q++fillL e.data) e)++(moreF (e.map.drop 4)++fillL e.data):=by
   unfold holesF
   rw [List.drop_left' hql]
   rfl
  have hSl:=sealL_length _ hB
  rw [hho]
  have hth:=holesB_thick hg e (fillL e.data)
  have hhd:=holesB_head hg hi e (fillL e.data)
  have hbk:=fun (S pp TT:List UInt8) (a:Nat) hS ha=>holesR_back (s:=writeL 3 q++fillL e.data) (by rw [List.length_append,hql];omega) hm1 hm2 ⟨z1,by omega⟩ (S:=S) (p:=pp) (T:=TT) (a:=a) hS ha
  generalize sealL (holesB (writeL 3 q++fillL e.data) e)=H at *
  generalize hMo:moreF (e.map.drop 4)=MM at *
  have:=found_at hSl hth hhd (by rw [hk3];decide) (p:=p++(L1++L2)) (T:=MM++(fillL e.data++R)) (st:=⟨p.length+L1.length+L2.length,[],[],someIf (storedE e),someIf e.link⟩) (by rw [List.length_append,List.length_append];show p.length+L1.length+L2.length=_;omega) (M:=[]) mergeF_nil
   (x:={ e with name:=storedE e,kind:=(gnuRaw e).kind,size:=e.data.length,data:=[],map:=[] }) (by rw [hE];rfl) (y:={ e with name:=storedE e,kind:=48 }) (a:=p.length+L1.length+L2.length+512+MM.length+(fillL e.data).length)
   (by
    have h9:=hbk (p++(L1++L2)++(H++(MM++(fillL e.data++R)))) (p++(L1++L2)++H) (fillL e.data++R) ((p++(L1++L2)).length+512) (by simp only [List.append_assoc]) (by rw [List.length_append,hSl])
    unfold kindR
    rw [if_pos hK,h9,if_neg (by simp)]
    dsimp only
    rw [dataR_at (p:=p++(L1++L2)++(H++MM)) (t:=e.data) (R:=R) (by simp only [List.append_assoc]) (by simp only [List.length_append,hSl];omega) hsz2 (by omega),linedR_none (by decide)]
    simp only [List.length_append]
    rw [show p.length+(L1.length+L2.length)+512+MM.length+(fillL e.data).length=p.length+L1.length+L2.length+512+MM.length+(fillL e.data).length by omega])
   (by rw [hset];exact hr)
  rw [hset] at this
  simp only [List.append_assoc] at this ⊢
  simp only [List.length_append,hSl]
  rw [show p.length+(L1.length+(L2.length+(512+(MM.length+(fillL e.data).length))))=p.length+L1.length+L2.length+512+MM.length+(fillL e.data).length by omega]
  exact this
end Go.Proofs.YtdjcjaidklgamaaGreatDoor
end
