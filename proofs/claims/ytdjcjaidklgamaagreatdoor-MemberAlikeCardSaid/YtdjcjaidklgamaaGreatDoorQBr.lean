import Derived.Test.YtdjcjaidklgamaaGreatDoorQBg
import Derived.Test.YtdjcjaidklgamaaGreatDoorQSi
set_option linter.unusedSimpArgs false
set_option linter.unusedVariables false
section
namespace Go.Proofs.YtdjcjaidklgamaaGreatDoor
set_option linter.unusedVariables false
theorem readIs_recs:∀ (M:List PrL),(∀ p∈M,Px.rightP p.1 p.2=true)→∀ M' b,Px.ReadIs (Px.recsL M) M' b→M'=M∧b=false
 | [],hM,M',b,h=>by
  obtain ⟨h1,h2,h3,h4⟩:=h
  have h5:M'=[]:=by
   cases M' with
   | nil=>rfl
   | cons p M' =>
    have h6:=h2.length_le
    have h7:=Px.recL_pos p.1 p.2
    have h0:(Px.recsL ([]:List PrL)).length=0:=rfl
    rw [Px.recsL_cons,List.length_append,h0] at h6
    omega
  subst h5
  cases b with
  | false=>exact ⟨rfl,rfl⟩
  | true=>exact absurd (h4 rfl).1 (Nat.lt_irrefl _)
 | p :: M,hM,M',b,h=>by
  obtain ⟨h1,h2,h3,h4⟩:=h
  have hp:=hM p (List.mem_cons_self ..)
  have hB:Px.Begins (Px.recsL (p :: M)) p.1 p.2:=⟨hp,⟨Px.recsL M,(Px.recsL_cons p M).symm⟩⟩
  cases M' with
  | nil =>
   cases b with
   | false =>
    have h6:=congrArg List.length (h3 rfl)
    have h7:=Px.recL_pos p.1 p.2
    have h0:(Px.recsL ([]:List PrL)).length=0:=rfl
    rw [Px.recsL_cons,List.length_append,h0] at h6
    omega
   | true=>exact absurd ⟨p.1,p.2,hB⟩ (h4 rfl).2
  | cons p' M' =>
   have hB':Px.Begins (Px.recsL (p :: M)) p'.1 p'.2:=⟨h1 p' (List.mem_cons_self ..),by
    obtain ⟨r,hr⟩:=h2
    rw [Px.recsL_cons p' M',List.append_assoc] at hr
    exact ⟨_,hr⟩⟩
   obtain ⟨e1,e2⟩:=Px.begins_one _ _ _ _ _ hB hB'
   obtain rfl:p=p':=Prod.ext e1 e2
   have ih:=readIs_recs M (fun q hq=>hM q (List.mem_cons_of_mem _ hq)) M' b ⟨fun q hq=>h1 q (List.mem_cons_of_mem _ hq),by
     rw [Px.recsL_cons,Px.recsL_cons] at h2
     exact (List.prefix_append_right_inj _).1 h2,fun hb=>by
     have:=h3 hb
     rw [Px.recsL_cons,Px.recsL_cons] at this
     exact List.append_cancel_left this,fun hb=>by
     obtain ⟨h5,h6⟩:=h4 hb
     rw [Px.recsL_cons,Px.recsL_cons,List.length_append] at h5
     rw [Px.recsL_cons,Px.recsL_cons,List.length_append] at h6
     rw [List.length_append] at h5
     refine ⟨by omega,?_⟩
     rw [← List.drop_drop,List.drop_left] at h6
     exact h6⟩
   exact ⟨by rw [ih.1],ih.2⟩
theorem recsR_back {M:List PrL} (h20:M.length≤20) (hM:∀ p∈M,Px.rightP p.1 p.2=true):recsR (Px.recsL M)=(0,M):=by
 obtain ⟨h1,h2⟩:=readIs_recs M hM _ _ (readM_is (Px.recsL M))
 unfold recsR
 rw [h1,h2,if_neg (by omega),if_neg (by simp)]
theorem small_back {n:Int} (h0:0≤n) (h1:n≤1099511627776):smallF (decN n)=(0,n):=by
 have h2:St.isDig (decN n)=true:=by
  unfold St.isDig decN
  rw [St.all_dec,Bool.true_and]
  have:=dec_pos n.toNat
  simp only [Bool.not_eq_true',decide_eq_false_iff_not]
  intro hh
  rw [hh] at this
  simp at this
 have h3:(decN n).length≤15:=by have:=St.dec_len15 n.toNat (by omega);unfold decN;omega
 unfold smallF smallB
 rw [h2,decide_eq_true h3,if_pos (show (true&&true)=true from rfl)]
 unfold decN
 rw [St.valD_dec,Int.toNat_of_nonneg h0]
theorem dec_no10 (n:Int):∀ x∈decN n,(x != 10)=true:=Px.dec_no 10 (.inl (by decide)) n.toNat
theorem line_back {n:Int} (h0:0≤n) (h1:n≤1099511627776) (rest:List UInt8):lineR (decN n++10 :: rest)=(0,n,rest):=by
 obtain ⟨t1,t2⟩:=Px.takeWhile_stop (· != 10) 10 (by decide) (decN n) rest (dec_no10 n)
 unfold lineR
 rw [if_pos (by simp),t1,t2,small_back h0 h1]
 rfl
def lineP (p:Pc):List UInt8:=decN p.1++(10 :: (decN p.2++[10]))
theorem lines_back:∀ (m:List Pc) (l:List Pc) (rest:List UInt8),Dense m→linesR m.length (m.flatMap lineP++rest) l=(0,l++m,rest)
 | [],l,rest,_=>by simp [linesR]
 | p :: m,l,rest,hd=>by
  obtain ⟨⟨a1,a2⟩,a3,a4⟩:=hd p (List.mem_cons_self ..)
  have e:(p :: m).flatMap lineP++rest=decN p.1++10 :: (decN p.2++10 :: (m.flatMap lineP++rest)):=by
   rw [List.flatMap_cons]
   unfold lineP
   simp only [List.append_assoc,List.cons_append,List.nil_append]
  rw [e,List.length_cons]
  unfold linesR
  rw [line_back a1 (by omega)]
  dsimp only
  rw [if_neg (by simp),line_back (by omega) (by omega)]
  dsimp only
  rw [if_neg (by simp),lines_back m _ rest (fun x hx=>hd x (List.mem_cons_of_mem _ hx)),List.append_assoc]
  rfl
theorem linesL_eq (m:List Pc):linesL m=decN m.length++(10 :: m.flatMap lineP):=rfl
theorem newMap_back {m:List Pc} (h20:m.length≤20) (hd:Dense m) (data:List UInt8):newMapR (fillL (linesL m)++data)=(0,m,data):=by
 have hp:=padF_range ((linesL m).length:Int)
 have e:fillL (linesL m)++data=decN m.length++10 :: (m.flatMap lineP++(List.replicate (padF (linesL m).length).toNat 0++data)):=by
  unfold fillL
  rw [linesL_eq]
  simp only [List.append_assoc,List.cons_append]
 have hb:behindR (fillL (linesL m)++data) (List.replicate (padF (linesL m).length).toNat 0++data) m=(0,m,data):=by
  have hl:((fillL (linesL m)++data).length:Int) - ((List.replicate (padF (linesL m).length).toNat (0:UInt8)++data).length:Int)=(linesL m).length:=by
   have:=fillL_size (linesL m)
   rw [List.length_append,List.length_append,List.length_replicate]
   omega
  unfold behindR
  rw [hl,if_neg (by rw [List.length_append,List.length_replicate];omega),List.drop_left' (by rw [List.length_replicate])]
 unfold newMapR
 have hl:lineR (fillL (linesL m)++data)=(0,(m.length:Int),m.flatMap lineP++(List.replicate (padF (linesL m).length).toNat 0++data)):=by rw [e];exact line_back (by omega) (by omega) _
 rw [hl]
 dsimp only
 rw [if_neg (by simp),if_neg (by omega),Int.toNat_natCast,lines_back m [] _ hd]
 dsimp only
 rw [if_neg (by simp),List.nil_append,hb]
abbrev keysE:List (List UInt8):=[majorK,minorK,realK,gidK,linkK,mtimeK,pathK,uidK]
def pick1 (c:Bool) (k v:List UInt8):List PrL:=if c then [(k,v)] else []
theorem recsE_eq (e:EntL):recsE e=pick1 (sparseE e) majorK [49]++(pick1 (sparseE e) minorK [48]++(pick1 (sparseE e) realK (decN e.size)++(pick1 (decide (2097151<e.gid)) gidK (decN e.gid)++(pick1 (decide (100<e.link.length)) linkK e.link ++
  (pick1 (beyondE e || decide (e.nano≠0)) mtimeK (St.textL e.sec e.nano)++(pick1 (!(halfF (storedE e)).2.2) pathK (storedE e)++pick1 (decide (2097151<e.uid)) uidK (decN e.uid))))))):=by
 unfold recsE pick1
 cases sparseE e <;> cases (halfF (storedE e)).2.2 <;> simp only [decide_eq_true_eq,Bool.or_eq_true,Bool.not_true,Bool.not_false,Bool.false_eq_true,if_true,if_false,List.cons_append,List.nil_append]
theorem pick_sub (c:Bool) (k v:List UInt8):((pick1 c k v).map (·.1)).Sublist [k]:=by
 unfold pick1
 split
 ·exact List.Sublist.refl _
 ·exact List.nil_sublist _
theorem recsE_keys (e:EntL):((recsE e).map (·.1)).Sublist keysE:=by
 rw [recsE_eq]
 simp only [List.map_append]
 have h:keysE=[majorK]++([minorK]++([realK]++([gidK]++([linkK]++([mtimeK]++([pathK]++[uidK])))))):=rfl
 rw [h]
 exact (pick_sub _ _ _).append ((pick_sub _ _ _).append ((pick_sub _ _ _).append ((pick_sub _ _ _).append ((pick_sub _ _ _).append ((pick_sub _ _ _).append ((pick_sub _ _ _).append (pick_sub _ _ _)))))))
theorem keysE_rising:keysE.Pairwise (·<·):=by decide
theorem recsE_rising (e:EntL):Px.Rising (recsE e):=by
 have h:=keysE_rising.sublist (recsE_keys e)
 rw [List.pairwise_map] at h
 exact h
theorem recsE_length (e:EntL):(recsE e).length≤8:=by
 have:=(recsE_keys e).length_le
 rw [List.length_map] at this
 exact this
theorem mem_pick {c:Bool} {k v:List UInt8} {p:PrL} (h:p∈pick1 c k v):c=true∧p=(k,v):=by
 unfold pick1 at h
 split at h
 ·next hc=>exact ⟨hc,List.mem_singleton.1 h⟩
 ·cases h
theorem textL_len {s n:Int} (h:St.rightB s n=true):(St.textL s n).length≤24∧St.textL s n≠[]:=by
 obtain ⟨t1,t2,t3,t4⟩:=St.rightB_true _ _ h
 unfold St.textL
 split
 ·have h1:=St.dec_len15 s.toNat (by omega)
  have h2:=St.fracL_length n.toNat
  have h3:=dec_pos s.toNat
  refine ⟨by rw [List.length_append];omega,fun hh=>?_⟩
  have:=congrArg List.length hh
  rw [List.length_append,List.length_nil] at this
  omega
 ·split
  ·have h1:=St.dec_len15 (-s).toNat (by omega)
   exact ⟨by rw [List.length_cons];omega,by simp⟩
  ·have h1:=St.dec_len15 (-s - 1).toNat (by omega)
   have h2:=St.fracL_length (1000000000 - n).toNat
   exact ⟨by rw [List.length_cons,List.length_append];omega,by simp⟩
theorem decN_len {n:Int} (h:n≤1099511627776):(decN n).length≤13∧decN n≠[]:=by
 refine ⟨St.dec_len15 n.toNat (by omega),fun hh=>?_⟩
 have:=dec_pos n.toNat
 unfold decN at hh
 rw [hh] at this
 simp at this
theorem rightP_of {k v:List UInt8} (hk:k≠[]) (hb:Px.hasBad k=false) (hl:k.length+v.length≤200):Px.rightP k v=true:=by
 unfold Px.rightP
 rw [hb,decide_eq_true hl]
 cases k with
 | nil=>exact absurd rfl hk
 | cons c k=>rfl
theorem stored_len {e:EntL} (hr:rightE e=true):(storedE e).length≤121∧storedE e≠[]∧∀ c∈storedE e,c≠0:=by
 have h1:=right_txt hr
 have h2:=txtOk_iff.1 h1.2.1
 unfold storedE
 split
 ·refine ⟨by rw [List.length_append,List.length_singleton];omega,by simp,fun c hc=>?_⟩
  rcases List.mem_append.1 hc with hc|hc
  ·exact h2.2 c hc
  ·rw [List.mem_singleton.1 hc];decide
 ·exact ⟨by omega,h1.1,h2.2⟩
theorem recsE_right {e:EntL} (hr:rightE e=true):∀ p∈recsE e,Px.rightP p.1 p.2=true∧p.2≠[]:=by
 obtain ⟨m1,m2,m3,m4,m5,m6⟩:=right_num hr
 have htx:=right_txt hr
 have hln:=(txtOk_iff.1 htx.2.2.1).1
 have hst:=stored_len hr
 have hsz:e.size≤4000:=by
  by_cases hk:e.kind=48
  ·exact (right_file hr hk).1.2
  ·have:=(right_other hr hk).1;omega
 intro p hp
 rw [recsE_eq] at hp
 rcases List.mem_append.1 hp with hp|hp
 ·obtain ⟨_,rfl⟩:=mem_pick hp;exact ⟨by decide,by decide⟩
 rcases List.mem_append.1 hp with hp|hp
 ·obtain ⟨_,rfl⟩:=mem_pick hp;exact ⟨by decide,by decide⟩
 rcases List.mem_append.1 hp with hp|hp
 ·obtain ⟨_,rfl⟩:=mem_pick hp
  have:=decN_len (n:=e.size) (by omega)
  refine show Px.rightP realK (decN e.size)=true∧decN e.size≠[] from ⟨rightP_of (by decide) (by decide) (by rw [show realK.length=19 from rfl];omega),this.2⟩
 rcases List.mem_append.1 hp with hp|hp
 ·obtain ⟨_,rfl⟩:=mem_pick hp
  have:=decN_len (n:=e.gid) (by omega)
  refine show Px.rightP gidK (decN e.gid)=true∧decN e.gid≠[] from ⟨rightP_of (by decide) (by decide) (by rw [show gidK.length=3 from rfl];omega),this.2⟩
 rcases List.mem_append.1 hp with hp|hp
 ·obtain ⟨h1,rfl⟩:=mem_pick hp
  have h1:=of_decide_eq_true h1
  refine show Px.rightP linkK (e.link)=true∧e.link≠[] from ⟨rightP_of (by decide) (by decide) (by rw [show linkK.length=8 from rfl];omega),fun hh=>by rw [hh] at h1;simp at h1⟩
 rcases List.mem_append.1 hp with hp|hp
 ·obtain ⟨_,rfl⟩:=mem_pick hp
  have:=textL_len m4
  refine show Px.rightP mtimeK (St.textL e.sec e.nano)=true∧St.textL e.sec e.nano≠[] from ⟨rightP_of (by decide) (by decide) (by rw [show mtimeK.length=5 from rfl];omega),this.2⟩
 rcases List.mem_append.1 hp with hp|hp
 ·obtain ⟨_,rfl⟩:=mem_pick hp
  refine show Px.rightP pathK (storedE e)=true∧storedE e≠[] from ⟨rightP_of (by decide) (by decide) (by rw [show pathK.length=4 from rfl];omega),hst.2.1⟩
 ·obtain ⟨_,rfl⟩:=mem_pick hp
  have:=decN_len (n:=e.uid) (by omega)
  refine show Px.rightP uidK (decN e.uid)=true∧decN e.uid≠[] from ⟨rightP_of (by decide) (by decide) (by rw [show uidK.length=3 from rfl];omega),this.2⟩
theorem get_pick (c:Bool) (k v key x:List UInt8) (h:k≠key):(pick1 c k v).foldl (fun v p=>if p.1=key then p.2 else v) x=x:=by
 unfold pick1
 split
 ·rw [List.foldl_cons,List.foldl_nil,if_neg h]
 ·rfl
theorem get_major (e:EntL):Px.getL (recsE e) majorK=if sparseE e then [49] else []:=by
 unfold Px.getL
 rw [recsE_eq]
 simp only [List.foldl_append]
 rw [get_pick _ uidK _ _ _ (by decide),get_pick _ pathK _ _ _ (by decide),get_pick _ mtimeK _ _ _ (by decide),get_pick _ linkK _ _ _ (by decide),get_pick _ gidK _ _ _ (by decide),get_pick _ realK _ _ _ (by decide),get_pick _ minorK _ _ _ (by decide)]
 unfold pick1
 split
 ·rw [List.foldl_cons,List.foldl_nil,if_pos rfl]
 ·rfl
theorem get_real (e:EntL) (h:sparseE e=true):Px.getL (recsE e) realK=decN e.size:=by
 unfold Px.getL
 rw [recsE_eq]
 simp only [List.foldl_append]
 rw [get_pick _ uidK _ _ _ (by decide),get_pick _ pathK _ _ _ (by decide),get_pick _ mtimeK _ _ _ (by decide),get_pick _ linkK _ _ _ (by decide),get_pick _ gidK _ _ _ (by decide)]
 rw [show pick1 (sparseE e) realK (decN e.size)=[(realK,decN e.size)] by unfold pick1;rw [if_pos h]]
 rw [List.foldl_cons,List.foldl_nil,if_pos rfl]
theorem apply_cons (x:EntL) (p:PrL) (l:List PrL):applyAll x (p :: l)=if (applyF x p).2≠0 then ((applyF x p).1,(applyF x p).2) else applyAll (applyF x p).1 l:=rfl
theorem apply_app:∀ (A:List PrL) (x y:EntL) (B:List PrL),applyAll x A=(y,0)→applyAll x (A++B)=applyAll y B
 | [],x,y,B,h=>by
  simp only [applyAll,Prod.mk.injEq,and_true] at h
  subst h
  rfl
 | p :: A,x,y,B,h=>by
  rw [apply_cons] at h
  rw [List.cons_append,apply_cons]
  by_cases hp:(applyF x p).2≠0
  ·rw [if_pos hp] at h
   simp only [Prod.mk.injEq] at h
   exact absurd h.2 hp
  ·rw [if_neg hp] at h ⊢
   exact apply_app A _ y B h
theorem apply_pick {c:Bool} {k v:List UInt8} {x y:EntL} (h1:c=true→applyF x (k,v)=(y,0)) (h2:c=false→x=y):applyAll x (pick1 c k v)=(y,0):=by
 unfold pick1
 cases c with
 | true =>
  rw [if_pos rfl]
  rw [apply_cons,h1 rfl,if_neg (by simp)]
  rfl
 | false =>
  rw [if_neg (by simp),h2 rfl]
  rfl
theorem apply_recs {e:EntL} (hr:rightE e=true) (n:Int) :
  applyAll { e with name:=paxName e,uid:=if 2097151<e.uid then 0 else e.uid,gid:=if 2097151<e.gid then 0 else e.gid,size:=n,sec:=if beyondE e then 0 else e.sec,nano:=0,link:=e.link.take 100,data:=[],map:=[] } (recsE e) =
   ({ e with name:=storedE e,size:=n,data:=[],map:=[] },0):=by
 obtain ⟨m1,m2,m3,m4,m5,m6⟩:=right_num hr
 rw [recsE_eq]
 rw [apply_app _ _ _ _ (apply_pick (fun _=>rfl) (fun _=>rfl)),apply_app _ _ _ _ (apply_pick (fun _=>rfl) (fun _=>rfl)),apply_app _ _ _ _ (apply_pick (fun _=>rfl) (fun _=>rfl))]
 rw [apply_app _ _ { e with name:=paxName e,uid:=if 2097151<e.uid then 0 else e.uid,size:=n,sec:=if beyondE e then 0 else e.sec,nano:=0,link:=e.link.take 100,data:=[],map:=[] } _ (apply_pick (fun h=>by
   show (({ e with name:=paxName e,uid:=if 2097151<e.uid then 0 else e.uid,gid:=(smallF (decN e.gid)).2,size:=n,sec:=if beyondE e then 0 else e.sec,nano:=0,link:=e.link.take 100,data:=[],map:=[] }:EntL),(smallF (decN e.gid)).1)=_
   rw [small_back m3.1 (by omega)]) (fun h=>by rw [if_neg (of_decide_eq_false h)]))]
 rw [apply_app _ _ { e with name:=paxName e,uid:=if 2097151<e.uid then 0 else e.uid,size:=n,sec:=if beyondE e then 0 else e.sec,nano:=0,data:=[],map:=[] } _ (apply_pick (fun h=>rfl) (fun h=>by
   have h:=of_decide_eq_false h
   rw [List.take_of_length_le (by omega)]))]
 rw [apply_app _ _ { e with name:=paxName e,uid:=if 2097151<e.uid then 0 else e.uid,size:=n,data:=[],map:=[] } _ (apply_pick (fun h=>by
   show (({ e with name:=paxName e,uid:=if 2097151<e.uid then 0 else e.uid,size:=n,sec:=(St.parseF (St.textL e.sec e.nano)).2.1,nano:=(St.parseF (St.textL e.sec e.nano)).2.2,data:=[],map:=[] }:EntL),(St.parseF (St.textL e.sec e.nano)).1)=_
   rw [St.parse_text _ _ m4]) (fun h=>by
   rw [Bool.or_eq_false_iff,decide_eq_false_iff_not,Classical.not_not] at h
   rw [h.1,h.2]
   rfl))]
 rw [apply_app _ _ { e with name:=storedE e,uid:=if 2097151<e.uid then 0 else e.uid,size:=n,data:=[],map:=[] } _ (apply_pick (fun h=>rfl) (fun h=>by
   have h:(halfF (storedE e)).2.2=true:=by simpa using h
   unfold paxName
   rw [if_pos h]))]
 exact apply_pick (fun h=>by
  show (({ e with name:=storedE e,uid:=(smallF (decN e.uid)).2,size:=n,data:=[],map:=[] }:EntL),(smallF (decN e.uid)).1)=_
  rw [small_back m2.1 (by omega)]) (fun h=>by rw [if_neg (of_decide_eq_false h)])
theorem goodExt (n:Int) (h0:0≤n) (h1:n≤100000):goodL 4 (rawExt n):=by
 have hn:numOk n 12 false=true:=by
  have h2:octOk n 12=true:=by
   unfold octOk
   have:(8:Int) ^ (12 - 1)=8589934592:=by decide
   simp only [Bool.and_eq_true,decide_eq_true_eq]
   omega
  unfold numOk
  rw [h2]
  rfl
 refine ⟨by decide,show (120:UInt8)≠0 by decide,⟨fun h=>absurd h (by decide),fun h=>absurd h (by decide)⟩,?_,show (txtOk extName 100&&(txtOk [] 100&&(txtOk [] 32&&(txtOk [] 32&&txtOk [] 155))))=true by decide⟩
 show (numOk 0 8 false&&(numOk 0 8 false&&(numOk 0 8 false&&(numOk n 12 false&&(numOk 0 12 false&&(decide (4=1) || (numOk 0 8 false&&numOk 0 8 false)))))))=true
 rw [hn]
 decide
theorem ext_step {M:List PrL} (h8:M.length≤8) (hM:∀ p∈M,Px.rightP p.1 p.2=true) {p T:List UInt8} {r:Res}
  (h:Reads (p++(extF M++T)) ⟨p.length+(extF M).length,[],M,none,none⟩ r):Reads (p++(extF M++T)) ⟨p.length,[],[],none,none⟩ r:=by
 unfold extF at *
 by_cases hl:M=[]
 ·subst hl
  exact h
 ·rw [if_neg hl] at *
  have hb:=Px.recsL_bound M hM
  have hg:=goodExt ((Px.recsL M).length:Int) (by omega) (by omega)
  have hi:intsL (rawExt ((Px.recsL M).length:Int)):=by unfold intsL i64 rawExt;dsimp only;omega
  refine .step ?_ h
  rw [List.append_assoc,nextR_at (write_length hg) (write_thick hg) (headF_write hg hi) p _ _ rfl,if_pos (show aheadB (rawExt (Px.recsL M).length).kind=true from (by decide:aheadB 120=true))]
  unfold aheadR
  dsimp only
  rw [takeF_at (S:=p++(writeL 4 (rawExt (Px.recsL M).length)++(fillL (Px.recsL M)++T))) (p:=p++writeL 4 (rawExt (Px.recsL M).length)) (t:=Px.recsL M) (R:=T) (by rw [List.append_assoc]) (by rw [List.length_append,write_length hg]) (show (rawExt (Px.recsL M).length).size=_ from rfl) (show ((Px.recsL M).length:Int)≤4000 by omega)]
  dsimp only
  rw [if_neg (by simp),if_neg (show ¬ (rawExt (Px.recsL M).length).kind=76 from (by decide:¬ (120:UInt8)=76)),if_neg (show ¬ (rawExt (Px.recsL M).length).kind=75 from (by decide:¬ (120:UInt8)=75)),recsR_back (by omega) hM]
  dsimp only
  rw [if_neg (by simp),if_pos (show (rawExt (Px.recsL M).length).kind=120 from rfl),List.length_append,write_length hg]
  rw [show p.length+(512+(fillL (Px.recsL M)).length)=p.length+512+(fillL (Px.recsL M)).length by omega]
theorem pax_back {e:EntL} (hr:rightE e=true) (hdl:e.data.length≤10000) {s:List UInt8} (h:paxF e=(s,0)) (p R:List UInt8) :
  Reads (p++(s++R)) ⟨p.length,[],[],none,none⟩ (.ok e (p.length+s.length) []):=by
 unfold paxF at h
 by_cases h1:(paxX e).2≠0
 ·rw [if_pos h1] at h;simp at h
 rw [if_neg h1] at h
 obtain ⟨X,hX⟩:∃ X,paxX e=(X,0):=⟨(paxX e).1,Prod.ext rfl (Classical.not_not.1 h1)⟩
 rw [hX] at h
 simp only [Prod.mk.injEq,and_true] at h
 subst h
 obtain ⟨m1,m2,m3,m4,m5,m6⟩:=right_num hr
 obtain ⟨t1,t2,t3,t4⟩:=St.rightB_true _ _ m4
 have hdv:devMost e.kind≤2097151:=by unfold devMost;split <;> omega
 have hrec:=recsE_right hr
 have hmap:sparseE e=true→e.kind=48∧e.map.length≤20∧Dense e.map∧0≤e.size∧e.size≤4000:=fun hsp=>by
  have hk48:e.kind=48:=by
   by_cases hh:e.kind=48
   ·exact hh
   ·have:=(right_other hr hh).2.2.2;rw [hsp] at this;cases this
  obtain ⟨⟨z1,z2⟩,hmr⟩:=right_file hr hk48
  obtain ⟨hm1,hm2⟩:=mapRight_parts (by omega) (hmr hsp).1
  exact ⟨hk48,hm1,hm2,z1,z2⟩
 have hpl:(paxData e).length≤14240:=by
  unfold paxData
  split
  ·next hsp =>
   obtain ⟨_,h20,hd,_,_⟩:=hmap hsp
   have hln:(linesL e.map).length≤1000:=by
    have hf:∀ (m:List Pc),Dense m→(m.flatMap lineP).length≤28 * m.length:=by
     intro m
     induction m with
     | nil=>intro _;simp
     | cons q m ih =>
      intro hd
      obtain ⟨⟨a1,a2⟩,a3,a4⟩:=hd q (List.mem_cons_self ..)
      have i1:=ih fun x hx=>hd x (List.mem_cons_of_mem _ hx)
      have i2:=decN_len (n:=q.1) (by omega)
      have i3:=decN_len (n:=q.2) (by omega)
      rw [List.flatMap_cons,List.length_append,List.length_cons]
      have:(lineP q).length=(decN q.1).length+(decN q.2).length+2:=by
       unfold lineP
       simp only [List.length_append,List.length_cons,List.length_nil]
       omega
      omega
    have i1:=hf e.map hd
    have i2:=decN_len (n:=(e.map.length:Int)) (by omega)
    rw [linesL_eq,List.length_append,List.length_cons]
    omega
   have:=fillL_le (linesL e.map)
   rw [List.length_append]
   omega
  ·omega
 unfold paxX at hX
 obtain ⟨q,⟨f,nm,hq⟩,hg,hf,rfl⟩:=whole_parts hX
 have hi:intsL q:=by
  subst hq
  unfold intsL i64 paxRaw
  dsimp only
  refine ⟨by omega,?_,?_,by omega,?_,by omega,by omega⟩
  ·split <;> omega
  ·split <;> omega
  ·split <;> omega
 have hE:entryR q ⟨p.length+(extF (recsE e)).length,[],recsE e,none,none⟩={ e with name:=paxName e,uid:=if 2097151<e.uid then 0 else e.uid,gid:=if 2097151<e.gid then 0 else e.gid,size:=(paxData e).length,sec:=if beyondE e then 0 else e.sec,nano:=0,link:=e.link.take 100,data:=[],map:=[] }:=by
  subst hq
  unfold entryR
  rw [hf]
  rfl
 have hk3:q.kind=e.kind:=by subst hq;rfl
 have hsz2:q.size=(paxData e).length:=by subst hq;rfl
 clear hq
 rw [List.append_assoc]
 refine ext_step (recsE_length e) (fun q hq=>(hrec q hq).1) ?_
 have hkk:e.kind≠83∧e.kind≠55∧aheadB e.kind=false:=by
  rcases right_kinds hr with hh|hh|hh|hh|hh|hh|hh <;> rw [hh] <;> decide
 have hM:mergeF ([]++recsE e)=recsE e:=merge_self (recsE_rising e) fun q hq=>(hrec q hq).2
 have hset:settleF { e with name:=storedE e,kind:=e.kind }=e:=settle_back hr (.inl rfl)
 have hx:=apply_recs hr ((paxData e).length:Int)
 have hlin:linedR { e with name:=storedE e,size:=((paxData e).length:Int),data:=[],map:=[] } (recsE e) (paxData e)=(0,{ e with name:=storedE e }):=by
  cases hsp:sparseE e with
  | false =>
   obtain ⟨hmp,hsz⟩:=dense_parts hsp
   have hpd:paxData e=e.data:=by unfold paxData;rw [if_neg (by rw [hsp];simp)]
   rw [linedR_none (by rw [get_major,if_neg (by rw [hsp];simp)];decide),hpd,hsz,← hmp]
  | true =>
   obtain ⟨hk48,h20,hd,z1,z2⟩:=hmap hsp
   have hpd:paxData e=fillL (linesL e.map)++e.data:=by unfold paxData;rw [if_pos hsp]
   unfold linedR
   rw [if_neg (by rw [get_major,if_pos hsp];simp;exact hk48),get_real e hsp,small_back z1 (by omega),if_neg (by simp),hpd,newMap_back h20 hd]
 generalize extF (recsE e)=X at *
 have:=found_at (write_length hg) (write_thick hg) (headF_write hg hi) (by rw [hk3];exact hkk.2.2) (p:=p++X) (T:=fillL (paxData e)++R) (st:=⟨p.length+X.length,[],recsE e,none,none⟩) (by rw [List.length_append]) hM
  (x:={ e with name:=storedE e,size:=((paxData e).length:Int),data:=[],map:=[] }) (by rw [hE];exact hx) (y:={ e with name:=storedE e }) (a:=p.length+X.length+512+(fillL (paxData e)).length)
  (by
   rw [kindR_plain (x:={ e with name:=storedE e,size:=((paxData e).length:Int),data:=[],map:=[] }) (p:=p++X++writeL 4 q) (t:=paxData e) (R:=R) hkk.1 hkk.2.1 (by simp only [List.append_assoc]) (by rw [List.length_append,write_length hg]) hsz2 hpl,hlin,List.length_append])
  (by rw [hset];exact hr)
 rw [hset] at this
 simp only [List.append_assoc] at this ⊢
 simp only [List.length_append,write_length hg]
 rw [show p.length+(X.length+(512+(fillL (paxData e)).length))=p.length+X.length+512+(fillL (paxData e)).length by omega]
 exact this
theorem back_pure {d:Int} {e:EntL} (hdl:e.data.length≤10000) {s:List UInt8} (h:eWriteF d e=(s,0)) (p R:List UInt8) :
  rightE e=true∧Reads (p++(s++R)) ⟨p.length,[],[],none,none⟩ (.ok e (p.length+s.length) []):=by
 unfold eWriteF at h
 by_cases h1:d<1∨4<d∨rightE e=false
 ·rw [if_pos h1] at h;simp at h
 rw [if_neg h1] at h
 have hr:rightE e=true:=by cases hh:rightE e with|true=>rfl|false=>exact absurd (.inr (.inr hh)) h1
 refine ⟨hr,?_⟩
 by_cases h3:d=3
 ·rw [if_pos h3] at h;exact gnu_back hr hdl h p R
 rw [if_neg h3] at h
 by_cases h4:d=4
 ·rw [if_pos h4] at h;exact pax_back hr hdl h p R
 rw [if_neg h4] at h
 exact old_back (by omega) hr hdl h p R
end Go.Proofs.YtdjcjaidklgamaaGreatDoor
end
set_option linter.unusedSimpArgs false
set_option linter.unusedVariables false
section
namespace Go.Proofs.YtdjcjaidklgamaaGreatDoor
set_option linter.unusedVariables false
theorem Reads.thick {S:List UInt8} {st:RSt} {e:EntL} {n:Nat} {G:List PrL} (h:Reads S st (.ok e n G)):st.at_+512≤S.length∧(sub S st.at_ 512).all (·==0)=false:=by
 have hne:∀ k,nextR S st≠.err k:=fun k hk=>by
  cases h with
  | ok h=>rw [h] at hk;cases hk
  | step h _=>rw [h] at hk;cases hk
 refine ⟨?_,?_⟩
 ·refine Nat.le_of_not_lt fun hl=>?_
  exact hne 3 (by unfold nextR;rw [if_pos hl])
 ·cases hz:(sub S st.at_ 512).all (·==0) with
  | false=>rfl
  | true =>
   by_cases hl:S.length<st.at_+512
   ·exact absurd (by unfold nextR;rw [if_pos hl]) (hne 3)
   ·exact absurd (by unfold nextR;rw [if_neg hl];dsimp only;rw [hz,if_pos rfl]) (hne 3)
theorem Reads.at_ {S:List UInt8} {a:Nat} {A:Int} {G:List PrL} {e:EntL} {n:Nat} {G':List PrL} (h:Reads S ⟨a,G,[],none,none⟩ (.ok e n G')) (hA:A=(a:Int)):EReads S A G (.ok e n G'):=by
 subst hA
 obtain ⟨h1,h2⟩:=h.thick
 dsimp only at h1 h2
 refine .go (by omega) ?_ (by rw [Int.toNat_natCast];exact h)
 rintro (hh|⟨_,hh⟩)
 ·omega
 ·rw [Int.toNat_natCast,h2] at hh;cases hh
theorem back_at {d:Int} {e:EntL} (hdl:e.data.length≤10000) {s:List UInt8} (h:eWriteF d e=(s,0)) (p R:List UInt8) (A:Int) (hA:A=(p.length:Int)) :
  EReads (p++(s++R)) A [] (.ok e (p.length+s.length) []):=(back_pure hdl h p R).2.at_ hA
theorem write_one {d:Int} {e f:EntL} (he:e.data.length≤10000) (hf:f.data.length≤10000) {s:List UInt8} (h:eWriteF d e=(s,0)) (h':eWriteF d f=(s,0)):e=f:=by
 have h1:=(back_pure he h [] []).2.unique (back_pure hf h' [] []).2
 simp only [Res.ok.injEq] at h1
 exact h1.1
theorem oct8 {n:Int} {b:Bool} (h0:0≤n) (h1:n≤2097151):numOk n 8 b=true:=by
 have:(8:Int) ^ (8 - 1)=2097152:=by decide
 unfold numOk octOk
 simp only [Bool.or_eq_true,Bool.and_eq_true,decide_eq_true_eq]
 omega
theorem oct12 {n:Int} {b:Bool} (h0:0≤n) (h1:n≤8589934591):numOk n 12 b=true:=by
 have:(8:Int) ^ (12 - 1)=8589934592:=by decide
 unfold numOk octOk
 simp only [Bool.or_eq_true,Bool.and_eq_true,decide_eq_true_eq]
 omega
theorem bin8 {n:Int} (h0:-36028797018963968≤n) (h1:n≤36028797018963967):numOk n 8 true=true:=by
 unfold numOk binOk
 rw [decide_eq_true h0,decide_eq_true h1]
 simp
theorem bin12 {n:Int}:numOk n 12 true=true:=by
 unfold numOk binOk
 simp
theorem txtOk_of {l:List UInt8} {n:Nat} (h1:l.length≤n) (h2:∀ c∈l,c≠0):txtOk l n=true:=txtOk_iff.2 ⟨h1,h2⟩
theorem half_ok {n:List UInt8} (hz:∀ c∈n,c≠0) (h:(halfF n).2.2=true):txtOk (halfF n).1 155=true∧txtOk (halfF n).2.1 100=true:=by
 rcases halfF_is n with ⟨h0,h1,h2,_⟩|⟨_,⟨i,hi,_,h1,h2,_⟩|⟨_,_,_,h3⟩⟩
 ·rw [h1,h2];exact ⟨by decide,txtOk_of h0 hz⟩
 ·obtain ⟨i1,i2,i3,i4,i5⟩:=hi
  rw [h1,h2]
  exact ⟨txtOk_of (by rw [List.length_take];omega) fun c hc=>hz c (List.mem_of_mem_take hc),txtOk_of (by rw [List.length_drop];omega) fun c hc=>hz c (List.mem_of_mem_drop hc)⟩
 ·rw [h3] at h;cases h
theorem whole_ok {d:Nat} {R:RawL} {n link data:List UInt8} (hn:(namedF d R n).2=true) (hg:goodL d { (namedF d R n).1 with link:=link }):(wholeF d R n link data).2=0:=by
 unfold wholeF
 rw [if_pos ⟨hn,hg⟩]
theorem kind_nz {e:EntL} (hr:rightE e=true):e.kind≠0:=by
 rcases right_kinds hr with h|h|h|h|h|h|h <;> rw [h] <;> decide
theorem room_pax {e:EntL} (hr:rightE e=true) (hp:(paxData e).length≤100000):(paxF e).2=0:=by
 obtain ⟨m1,m2,m3,m4,m5,m6⟩:=right_num hr
 obtain ⟨t1,t2,t3,t4⟩:=St.rightB_true _ _ m4
 have htx:=right_txt hr
 have hst:=stored_len hr
 have hdv:devMost e.kind≤2097151:=by unfold devMost;split <;> omega
 have hh:(halfF (paxName e)).2.2=true:=by
  unfold paxName
  split
  ·next h=>exact h
  ·decide
 have hz:∀ c∈paxName e,c≠0:=by
  unfold paxName
  split
  ·exact hst.2.2
  ·decide
 obtain ⟨g1,g2⟩:=half_ok hz hh
 have hq:(namedF 4 (paxRaw e) (paxName e))=({ paxRaw e with front:=(halfF (paxName e)).1,name:=(halfF (paxName e)).2.1 },(halfF (paxName e)).2.2):=rfl
 have hX:(paxX e).2=0:=by
  unfold paxX
  refine whole_ok (by rw [hq];exact hh) ?_
  rw [hq]
  refine ⟨by decide,kind_nz hr,⟨fun h=>absurd h (by decide),fun h=>absurd h (by decide)⟩,?_,?_⟩
  ·show (numOk e.mode 8 false&&(numOk (if 2097151<e.uid then 0 else e.uid) 8 false&&(numOk (if 2097151<e.gid then 0 else e.gid) 8 false&&(numOk ((paxData e).length:Int) 12 false&&(numOk (if beyondE e then 0 else e.sec) 12 false&&(decide (4=1) || (numOk e.major 8 false&&numOk e.minor 8 false)))))))=true
   rw [oct8 m1.1 (by omega),oct8 (by split <;> omega) (by split <;> omega),oct8 (by split <;> omega) (by split <;> omega),oct12 (by omega) (by omega),oct12 ?_ ?_,oct8 m5.1 (by omega),oct8 m6.1 (by omega)]
   ·rfl
   ·by_cases hb:beyondE e=true
    ·rw [if_pos hb];omega
    ·rw [if_neg hb]
     unfold beyondE at hb
     simp only [Bool.or_eq_true,decide_eq_true_eq] at hb
     omega
   ·by_cases hb:beyondE e=true
    ·rw [if_pos hb];omega
    ·rw [if_neg hb]
     unfold beyondE at hb
     simp only [Bool.or_eq_true,decide_eq_true_eq] at hb
     omega
  ·show (txtOk (halfF (paxName e)).2.1 100&&(txtOk (e.link.take 100) 100&&(txtOk e.user 32&&(txtOk e.group 32&&txtOk (halfF (paxName e)).1 155))))=true
   rw [g1,g2,txtOk_of (by rw [List.length_take];omega) (fun c hc=>(txtOk_iff.1 htx.2.2.1).2 c (List.mem_of_mem_take hc)),htx.2.2.2.1,htx.2.2.2.2]
   rfl
 unfold paxF
 rw [if_neg (by rw [hX];simp)]
theorem room_gnu {e:EntL} (hr:rightE e=true) (hdl:e.data.length≤10000):(gnuX e).2=0:=by
 obtain ⟨m1,m2,m3,m4,m5,m6⟩:=right_num hr
 have htx:=right_txt hr
 have hst:=stored_len hr
 have hdv:devMost e.kind≤2097151:=by unfold devMost;split <;> omega
 have hk:(gnuRaw e).kind≠0:=by
  unfold gnuRaw
  split
  ·show (83:UInt8)≠0;decide
  ·exact kind_nz hr
 have hR:∃ k,gnuRaw e={ rawE e with kind:=k }∧k≠0:=by
  unfold gnuRaw at hk ⊢
  split
  ·next h=>exact ⟨83,rfl,by decide⟩
  ·exact ⟨e.kind,rfl,kind_nz hr⟩
 obtain ⟨k,hR,hk⟩:=hR
 unfold gnuX
 rw [hR]
 have hq:(namedF 3 { rawE e with kind:=k } ((storedE e).take 100))=({ ({ rawE e with kind:=k }:RawL) with front:=[],name:=(storedE e).take 100 },decide (((storedE e).take 100).length≤100)):=rfl
 refine whole_ok (by rw [hq];exact decide_eq_true (by rw [List.length_take];omega)) ?_
 rw [hq]
 refine ⟨by decide,hk,⟨fun h=>absurd h (by decide),fun _=>rfl⟩,?_,?_⟩
 ·show (numOk e.mode 8 true&&(numOk e.uid 8 true&&(numOk e.gid 8 true&&(numOk (e.data.length:Int) 12 true&&(numOk e.sec 12 true&&(decide (3=1) || (numOk e.major 8 true&&numOk e.minor 8 true)))))))=true
  rw [oct8 m1.1 (by omega),bin8 (by omega) (by omega),bin8 (by omega) (by omega),bin12,bin12,oct8 m5.1 (by omega),oct8 m6.1 (by omega)]
  rfl
 ·show (txtOk ((storedE e).take 100) 100&&(txtOk (e.link.take 100) 100&&(txtOk e.user 32&&(txtOk e.group 32&&txtOk [] 155))))=true
  rw [txtOk_of (by rw [List.length_take];omega) (fun c hc=>hst.2.2 c (List.mem_of_mem_take hc)),txtOk_of (by rw [List.length_take];omega) (fun c hc=>(txtOk_iff.1 htx.2.2.1).2 c (List.mem_of_mem_take hc)),htx.2.2.2.1,htx.2.2.2.2]
  decide
theorem gnu_room {e:EntL} (hr:rightE e=true) (hdl:e.data.length≤10000):(gnuF e).2=if e.nano=0 then 0 else 2:=by
 unfold gnuF
 by_cases h:e.nano=0
 ·rw [if_neg (fun hh=>hh h),if_neg (by rw [room_gnu hr hdl];simp),if_pos h]
 ·rw [if_pos h,if_neg h]
theorem old_room {d:Nat} {e:EntL} (h:(oldF d e).2=0):e.nano=0:=by
 unfold oldF at h
 by_cases h1:sparseE e=true∨e.nano≠0
 ·rw [if_pos h1] at h;simp at h
 ·by_cases hh:e.nano=0
  ·exact hh
  ·exact absurd (.inr hh) h1
theorem settle_named {w:EntL} (hr:rightE w=true) {n:List UInt8} (h1:w.kind=53→Lib.trimRightB n 47=w.name) (h2:w.kind≠53→n=w.name):settleF { w with name:=n }=w:=by
 have he:=right_ends hr
 have hl:=right_link hr
 have hm:=right_dev hr
 have ho:=right_other hr
 have hks:=right_kinds hr
 clear hr
 obtain ⟨nm,kd,mode,uid,gid,size,sec,nano,link,user,group,major,minor,data,map⟩:=w
 dsimp only at *
 rcases hks with rfl|rfl|rfl|rfl|rfl|rfl|rfl
 ·obtain rfl:=h2 (by decide)
  obtain rfl:=hl rfl
  obtain ⟨rfl,rfl⟩:=hm rfl
  simp [settleF,isLinkB,isDevB,he]
 ·obtain rfl:=h2 (by decide)
  obtain ⟨rfl,rfl⟩:=hm rfl
  obtain ⟨rfl,rfl,rfl,_⟩:=ho (by decide)
  simp [settleF,isLinkB,isDevB]
 ·obtain rfl:=h2 (by decide)
  obtain ⟨rfl,rfl⟩:=hm rfl
  obtain ⟨rfl,rfl,rfl,_⟩:=ho (by decide)
  simp [settleF,isLinkB,isDevB]
 ·obtain rfl:=h2 (by decide)
  obtain rfl:=hl rfl
  obtain ⟨rfl,rfl,rfl,_⟩:=ho (by decide)
  simp [settleF,isLinkB,isDevB]
 ·obtain rfl:=h2 (by decide)
  obtain rfl:=hl rfl
  obtain ⟨rfl,rfl,rfl,_⟩:=ho (by decide)
  simp [settleF,isLinkB,isDevB]
 ·obtain rfl:=hl rfl
  obtain ⟨rfl,rfl⟩:=hm rfl
  obtain ⟨rfl,rfl,rfl,_⟩:=ho (by decide)
  simp [settleF,isLinkB,isDevB,h1 rfl]
 ·obtain rfl:=h2 (by decide)
  obtain rfl:=hl rfl
  obtain ⟨rfl,rfl⟩:=hm rfl
  obtain ⟨rfl,rfl,rfl,_⟩:=ho (by decide)
  simp [settleF,isLinkB,isDevB]
def rootL:List UInt8:=[114,111,111,116]
def overG (n:List UInt8):List PrL:=[(pathK,n),(unameK,rootL)]
theorem overG_merge {n:List UInt8} (hn:n≠[]):mergeF (overG n)=overG n:=by
 refine merge_self ?_ fun p hp=>?_
 ·unfold overG Px.Rising
  refine List.Pairwise.cons (fun q hq=>?_) (List.Pairwise.cons (fun q hq=>by cases hq) List.Pairwise.nil)
  rw [List.mem_singleton.1 hq]
  show pathK<unameK
  decide
 ·rcases List.mem_cons.1 hp with rfl|hp
  ·exact hn
  ·rw [List.mem_singleton.1 hp]
   decide
def wantE (e:EntL) (n:List UInt8):EntL:={ e with name:=if e.kind=53 then Lib.trimRightB n 47 else n,user:=rootL }
theorem over_back {e:EntL} (hdl:e.data.length≤10000) {s:List UInt8} (h:eWriteF 2 e=(s,0)) {n:List UInt8} (hn:n≠[]) (hw:rightE (wantE e n)=true) :
  EReads s 0 (overG n) (.ok (wantE e n) s.length (overG n)):=by
 unfold eWriteF at h
 by_cases h1:(2:Int)<1∨(4:Int)<2∨rightE e=false
 ·rw [if_pos h1] at h;simp at h
 rw [if_neg h1,if_neg (by decide),if_neg (by decide)] at h
 have h:oldF 2 e=(s,0):=h
 have hr:rightE e=true:=by cases hh:rightE e with|true=>rfl|false=>exact absurd (.inr (.inr hh)) h1
 have hmp:e.map=[]:=by
  unfold oldF at h
  by_cases h1:sparseE e=true∨e.nano≠0
  ·rw [if_pos h1] at h;simp at h
  ·exact (dense_parts (by cases hh:sparseE e with|true=>exact absurd (.inl hh) h1|false=>rfl)).1
 have hR:=old_reads (.inr rfl) hr hdl h [] [] (overG n) (x:={ e with name:=n,user:=rootL }) (by
   rw [overG_merge hn]
   unfold Px.getL overG
   simp only [List.foldl_cons,List.foldl_nil]
   rw [if_neg (by decide),if_neg (by decide)]
   decide) (fun k hk=>by rw [overG_merge hn];rfl) (e':=wantE e n) (fun k hk=>by
   have hk:k=e.kind:=hk.elim id fun hh=>absurd hh.1 (by decide)
   subst hk
   have:=settle_named hw (n:=n) (fun h53=>by
    unfold wantE
    dsimp only
    rw [if_pos (show e.kind=53 from h53)]) (fun h53=>by
    unfold wantE
    dsimp only
    rw [if_neg (show ¬ e.kind=53 from h53)])
   rw [← this]
   unfold wantE
   dsimp only
   rw [hmp]) hw
 have:=Reads.at_ (A:=0) hR rfl
 rw [List.nil_append,List.append_nil,List.length_nil,Nat.zero_add] at this
 exact this
end Go.Proofs.YtdjcjaidklgamaaGreatDoor
end
