import Derived.Test.YtdjcjaidklgamaaGreatDoorQXo
import Derived.Lib.SliceRun
import Derived.Laws.IdiomCopy
set_option linter.unusedSimpArgs false
set_option linter.unusedVariables false
section
namespace Go.Proofs.YtdjcjaidklgamaaGreatDoor.Px
open Go.RowKit Go.Joins
set_option maxHeartbeats 1000000 in
theorem clone_some (a:Addr) (c:Nat) (M:List Pr) (hl:M.length≤100000) (w:World) (h:PairsAt w (some a) M) :
  Calls Tryz.prog 46 #[.slice (some a) M.length c] w fun e w'=>(∃ v,e=.returned v∧w'.ownsRow w.heap.size 43 2 v M.length (pairCells M))∧Below w.heap.size w w':=by
 obtain ⟨i0,hi,hz0,hz1,hz2⟩:=info_parts Tryz.infoPair
 have hb0:=below_alloc1 w (.cells #[] 43)
 have HP:=Lib.hid (h.below hb0)
 have HO:=Lib.hid (show (w.alloc (.cells #[] 43)).ownsRow w.heap.size 43 2 (.slice (some ⟨w.heap.size,0,none⟩) 0 0) 0 [] from World.ownsRow_made w #[] 0 (Nat.le_refl _) (Nat.zero_le _) rfl)
 have HL:=Lib.hid (pairCells_length M)
 obtain ⟨m,hm⟩:∃ m,M.length=m:=⟨_,rfl⟩
 rw [hm] at hl ⊢
 have HM:=Lib.hid hm
 have N:∀ w,(binOp .eql 36 (.slice (some a) m c) (.slice none 0 0)).run Tryz.prog w=.ok (.bool false) w:=fun w=>Lib.run_eql_slice_nil w 36 43 (some a) m c 0 0 Tryz.underlying36
 clear hm h
 go_enter Tryz.func46,Tryz.ntmps46
 go_wp2_with (at_builtin;refine wpList_append_own _ rfl _ _ 36 rfl w.heap.size 43 i0 (.agg #[.string { data:=#[] },.string { data:=#[] }]) 2 32 Tryz.underlying36 hi hz0 hz1 hz2 rfl (by decide) _ _ _ rfl HO.out a m c (pairCells M) rfl (by rw [HL.out,HM.out]) (pairsAt_cells HP.out) (pairCells_one _) (by unfold maxLen;omega) (by omega) (by simp) ?_;intro v' w1 hown' hgrow _)
 have HB:=Lib.hid (below_grown hb0 HO.out (Nat.le_refl _) hgrow)
 have HW:=Lib.hid hown'
 clear hown' hgrow
 go_ret
 refine ⟨⟨_,rfl,?_⟩,HB.out⟩
 have:=HW.out
 rwa [Nat.zero_add,List.nil_append] at this
set_option maxHeartbeats 1000000 in
theorem clone_none (w:World) :
  Calls Tryz.prog 46 #[.slice none 0 0] w fun e w'=>e=.returned (.slice none 0 0)∧Below w.heap.size w w':=by
 have N:∀ w,(binOp .eql 36 (.slice none 0 0) (.slice none 0 0)).run Tryz.prog w=.ok (.bool true) w:=fun w=>Lib.run_eql_slice_nil w 36 43 none 0 0 0 0 Tryz.underlying36
 go_enter Tryz.func46,Tryz.ntmps46
 go_wp2
 go_ret
 exact ⟨rfl,Below.refl _ _⟩
end Go.Proofs.YtdjcjaidklgamaaGreatDoor.Px
end
section
namespace Go.Proofs.YtdjcjaidklgamaaGreatDoor
open Go.RowKit Go.Shelf Go.Joins
theorem zero_no (l:List UInt8) (h:l.length≠512) (hl:l.length≤100000) (w:World):Calls Tryz.prog 45 #[.string (mkS l)] w fun e w'=>e=.returned (.bool false)∧w'=w:=by
 have hsz:=mkS_size l
 have q1:((l.length:Int)==512)=false:=by rw [beq_eq_false_iff_ne];omega
 have q2:((l.length:Int) != 512)=true:=by rw [bne,q1];rfl
 clear h
 go_enter Tryz.func45,Tryz.ntmps45
 go_wp2
 go_ret
 exact ⟨rfl,rfl⟩
theorem tell_is {W:World} {ev:Value} {k:Int} (h:ErrIs W ev k) (hg:ErrLaid W):Calls Tryz.prog 37 #[ev] W fun e w'=>e=.returned (.int .i64 k)∧Below W.heap.size W w':=by
 rcases h with rfl|⟨pb,rfl,h2⟩
 ·exact tell_err k W hg
 ·exact Px.tell_at k pb W hg h2
theorem ErrIs.iface {W:World} {ev:Value} {k:Int} (h:ErrIs W ev k):∃ T v,ev=.iface T v:=by
 rcases h with rfl|⟨pb,rfl,h2⟩
 ·exact ⟨_,_,rfl⟩
 ·exact ⟨_,_,rfl⟩
structure Inv (s:List UInt8) (st:RSt):Prop where
 at_:st.at_≤s.length
 gr:st.G.length * 50≤10000+st.at_
 lO:st.O.length≤20
 tG:∀ p∈st.G,p.1.length≤1000∧p.2.length≤1000
 tO:∀ p∈st.O,p.1.length≤1000∧p.2.length≤1000
 nm:∀ x,st.nm=some x→x.length≤5000
 lk:∀ x,st.lk=some x→x.length≤5000
theorem Inv.ok {s:List UInt8} {st:RSt} (h:Inv s st) (hs:s.length≤30000):StOk s st:=⟨h.at_,by have:=h.gr;have:=h.at_;omega,h.lO,h.tG,h.tO,h.nm,h.lk⟩
theorem recsR_few (d:List UInt8):(recsR d).2.length≤20∧(d=[]→(recsR d).2=[]):=by
 refine ⟨(recsR_ok d).1,fun hd=>?_⟩
 subst hd
 unfold recsR
 split
 ·rfl
 ·split
  ·rfl
  ·have h:=(readM_is []).2.1
   cases hM:readM [] with
   | nil=>rfl
   | cons p M =>
    rw [hM,Px.recsL_cons] at h
    have h2:=h.length_le
    have h3:=Px.recL_pos p.1 p.2
    rw [List.length_append,List.length_nil] at h2
    omega
theorem takeF_step {s:List UInt8} {a:Nat} {n:Int} {most:Int} (h:(takeF s a n most).1=0):((takeF s a n most).2.1=[]∧a≤(takeF s a n most).2.2)∨a+512≤(takeF s a n most).2.2:=by
 unfold takeF at h ⊢
 split at h
 ·simp at h
 ·split at h
  ·simp at h
  ·next h1 h2 =>
   rw [if_neg h1,if_neg h2]
   simp only
   by_cases hn:n=0
   ·left
    subst hn
    exact ⟨by unfold sub;simp,by omega⟩
   ·right
    have h3:0<n:=by omega
    unfold padF
    rw [if_neg (by omega)]
    omega
theorem aheadR_inv {s:List UInt8} {st st':RSt} {r:RawL} (ha:st.at_≤s.length) (h:aheadR s st r=.ahead st'):st.at_≤st'.at_∧st'.at_≤s.length ∧
  ((st'.G=st.G∧(st'.O=st.O∨st'.O.length≤20∧∀ p∈st'.O,p.1.length≤1000∧p.2.length≤1000))∨(st'.O=st.O∧∃ L,st'.G=mergeF (st.G++L)∧L.length≤20∧(∀ p∈L,p.1.length≤1000∧p.2.length≤1000)∧(L=[]∨st.at_+512≤st'.at_))) ∧
  (st'.nm=st.nm∨∃ x,st'.nm=some x∧x.length≤5000)∧(st'.lk=st.lk∨∃ x,st'.lk=some x∧x.length≤5000):=by
 have ht:=takeF_ok s st.at_ r.size 4000 ha (by omega)
 have hst:=@takeF_step s st.at_ r.size 4000
 have hr:=recsR_ok (takeF s st.at_ r.size 4000).2.1
 have hrf:=recsR_few (takeF s st.at_ r.size 4000).2.1
 unfold aheadR at h
 simp only at h
 generalize takeF s st.at_ r.size 4000=T at *
 obtain ⟨k,d,a⟩:=T
 simp only at *
 have hz:=cutZ_le d
 have hb:∀ p∈(recsR d).2,p.1.length≤1000∧p.2.length≤1000:=fun p hp=>by have:=hr.2 p hp;omega
 split at h
 ·cases h
 ·next hk =>
  have hk0:k=0:=by simpa using hk
  split at h
  ·injection h with h;subst h
   exact ⟨ht.2.1,ht.1,.inl ⟨rfl,.inl rfl⟩,.inr ⟨_,rfl,by have:=ht.2.2.2;omega⟩,.inl rfl⟩
  ·split at h
   ·injection h with h;subst h
    exact ⟨ht.2.1,ht.1,.inl ⟨rfl,.inl rfl⟩,.inl rfl,.inr ⟨_,rfl,by have:=ht.2.2.2;omega⟩⟩
   ·split at h
    ·cases h
    ·split at h
     ·injection h with h;subst h
      exact ⟨ht.2.1,ht.1,.inl ⟨rfl,.inr ⟨hr.1,hb⟩⟩,.inl rfl,.inl rfl⟩
     ·injection h with h;subst h
      refine ⟨ht.2.1,ht.1,.inr ⟨rfl,_,rfl,hr.1,hb,?_⟩,.inl rfl,.inl rfl⟩
      rcases hst hk0 with ⟨h1,_⟩|h1
      ·exact .inl (hrf.2 h1)
      ·exact .inr h1
theorem next_inv {s:List UInt8} {st st':RSt} (hs:s.length≤30000) (h:Inv s st) (hn:nextR s st=.ahead st'):Inv s st'∧st.at_+512≤st'.at_:=by
 unfold nextR at hn
 split at hn
 ·cases hn
 ·next hl =>
  simp only at hn
  split at hn
  ·cases hn
  ·split at hn
   ·cases hn
   ·split at hn
    ·obtain ⟨h1,h2,h3,h4,h5⟩:=aheadR_inv (st:={ st with at_:=st.at_+512 }) (by show st.at_+512≤s.length;omega) hn
     simp only at h1 h3 h4 h5
     refine ⟨⟨h2,?_,?_,?_,?_,?_,?_⟩,h1⟩
     ·rcases h3 with ⟨hg,_⟩|⟨_,L,hg,hL,_,hLL⟩
      ·rw [hg];have:=h.gr;omega
      ·have hm:=mergeF_len (st.G++L)
       rw [List.length_append] at hm
       have:=h.gr
       rw [hg]
       rcases hLL with rfl|hLL
       ·simp only [List.length_nil] at hm;omega
       ·omega
     ·rcases h3 with ⟨_,ho|ho⟩|⟨ho,_⟩
      ·rw [ho];exact h.lO
      ·exact ho.1
      ·rw [ho];exact h.lO
     ·rcases h3 with ⟨hg,_⟩|⟨_,L,hg,_,hb,_⟩
      ·rw [hg];exact h.tG
      ·rw [hg]
       intro p hp
       rcases List.mem_append.1 (mergeF_mem hp) with hp|hp
       ·exact h.tG p hp
       ·exact hb p hp
     ·rcases h3 with ⟨_,ho|ho⟩|⟨ho,_⟩
      ·rw [ho];exact h.tO
      ·exact ho.2
      ·rw [ho];exact h.tO
     ·rcases h4 with hn|⟨x,hn,hx⟩
      ·rw [hn];exact h.nm
      ·rw [hn];intro y hy;cases hy;exact hx
     ·rcases h5 with hn|⟨x,hn,hx⟩
      ·rw [hn];exact h.lk
      ·rw [hn];intro y hy;cases hy;exact hx
    ·rw [memberR_eq] at hn
     split at hn
     ·cases hn
     ·split at hn
      ·cases hn
      ·split at hn <;> cases hn
theorem next_any (b:Nat) (s:List UInt8) (st:RSt) (np lp:Option Addr) (gv ov:Value) (hs:s.length≤100000) (ho:StOk s st) (w:World) (hR:RdrAt w b s st np lp gv ov) (hL:∀ W,Bar w.heap.size [b] w W→Laid W) :
  Calls Tryz.prog 47 #[.pointer (some ⟨b,0,none⟩)] w (NxOut b s st np lp gv ov (nextR s st) w):=by
 by_cases h0:s.length<st.at_+512
 ·exact next_short b s st np lp gv ov hs ho w hR hL h0
 cases hz:(sub s st.at_ 512).all (·==0)
 ·by_cases hh:(headF (sub s st.at_ 512)).1=0
  ·cases hk:aheadB (rawAt (sub s st.at_ 512)).kind
   ·cases hm:memberR s { st with at_:=st.at_+512 } (rawAt (sub s st.at_ 512)) (sub s st.at_ 512) with
    | err k =>
     have:=next_merr b s st np lp gv ov hs ho w hR hL h0 hz hh hk k hm
     exact this
    | ahead st' =>
     exfalso
     rw [memberR_eq] at hm
     split at hm
     ·cases hm
     ·split at hm
      ·cases hm
      ·split at hm <;> cases hm
    | found e a=>exact next_mok b s st np lp gv ov hs ho w hR hL h0 hz hh hk e a hm
   ·exact next_ahead b s st np lp gv ov hs ho w hR hL h0 hz hh hk
  ·exact next_head b s st np lp gv ov hs ho w hR hL h0 hz hh
 ·exact next_zero b s st np lp gv ov hs ho w hR hL h0 hz
def ROut (s:List UInt8) (q:Res) (w:World) (r:Ending) (W:World):Prop :=
 Below w.heap.size w W∧((∃ k,q=.bare k∧k≠0∧r=.returned (.tuple #[.agg zeroC,.int .i64 0,.slice none 0 0,.iface 68 (.int .i64 k)])) ∨
  (∃ k p pb,q=.err k p∧k≠0∧r=.returned (.tuple #[.agg zeroC,.int .i64 0,.slice none 0 0,.iface 85 (.pointer (some ⟨pb,0,none⟩))])∧W.cell? ⟨pb,0,none⟩=some (.int .i64 k)∧W.cell? ⟨pb,1,none⟩=some (.int .i64 (p:Nat))) ∨
  (∃ e a G v gv,q=.ok e a G∧r=.returned (.tuple #[entV e v,.int .i64 (a:Nat),gv,.nilIface])∧PcNew w.heap.size W v e.map∧GoodE e∧a≤s.length∧Px.SliceIs W gv G))
set_option maxRecDepth 100000 in
set_option maxHeartbeats 8000000 in
theorem read_range (s:List UInt8) (A:Int) (gv:Value) (G:List PrL) (hs:s.length≤30000) (w:World) (h:¬ (0≤A∧A≤s.length)) (hA:-9223372036854775808≤A) :
  Calls Tryz.prog 22 #[.string (mkS s),.int .i64 A,gv] w fun r W=>∃ q,EReads s A G q∧ROut s q w r W:=by
 have hz:=mkS_size s
 have HX:=Lib.hid (EReads.range (G:=G) h)
 have HB0:=Lib.hid (below_alloc1 w (.cells zeroC 26))
 have HE0:=Lib.hid (heap_alloc_new w (.cells zeroC 26))
 have hlt:A<0∨(¬ A<0∧(s.length:Int)<A):=by omega
 clear h
 unfold zeroC at HB0 HE0
 rcases hlt with hlt|⟨hge,hlt⟩
 all_goals
  go_enter Tryz.func22,Tryz.ntmps22
  go_wp2_with (first
   |(refine wpList_store_row rfl _ _ _ rfl w.heap.size zeroC rfl rfl _ _ HE0.out (by kernel_rfl) rfl zeroC_all ?_;rw [setRow_id HE0.out])
   | fail)
  refine bodyPost_ret (results_row4 rfl _ _ w.heap.size _ _ _ _ rfl HE0.out Tryz.underlying26 rfl entInfo) rfl ?_
  exact ⟨_,HX.out,HB0.out,.inl ⟨2,rfl,by decide,rfl⟩⟩
theorem none_any (s:List UInt8) (a:Nat) (ha:a<s.length) (hs:s.length≤30000) (w:World) :
  Calls Tryz.prog 45 #[.string (mkS (sub s a (min 512 (s.length - a))))] w fun e w'=>e=.returned (.bool (decide (a+512≤s.length)&&(sub s a 512).all (·==0)))∧w'=w:=by
 by_cases h:a+512≤s.length
 ·rw [decide_eq_true h,Bool.true_and,show min 512 (s.length - a)=512 by omega]
  exact zeroB_any _ (by unfold sub;rw [List.length_take,List.length_drop];omega) w
 ·rw [decide_eq_false h,Bool.false_and,show min 512 (s.length - a)=s.length - a by omega]
  exact zero_no _ (by unfold sub;rw [List.length_take,List.length_drop];omega) (by unfold sub;rw [List.length_take,List.length_drop];omega) w
set_option maxRecDepth 100000 in
set_option maxHeartbeats 8000000 in
theorem read_none (s:List UInt8) (a:Nat) (gv:Value) (G:List PrL) (hs:s.length≤30000) (w:World) (ha:a≤s.length) (h:a=s.length∨(a+512≤s.length∧(sub s a 512).all (·==0)=true)) :
  Calls Tryz.prog 22 #[.string (mkS s),.int .i64 (a:Int),gv] w fun r W=>∃ q,EReads s (a:Int) G q∧ROut s q w r W:=by
 have hz:=mkS_size s
 have HX:=Lib.hid (EReads.none (s:=s) (G:=G) (a:=(a:Int)) ⟨by omega,by omega⟩ (by
  rcases h with h|⟨h1,h2⟩
  ·exact .inl (by omega)
  ·exact .inr ⟨by omega,by rw [Int.toNat_natCast];exact h2⟩))
 have HB0:=Lib.hid (below_alloc1 w (.cells zeroC 26))
 have HE0:=Lib.hid (heap_alloc_new w (.cells zeroC 26))
 have hq0:decide ((s.length:Int)<(a:Int))=false:=decide_eq_false (by omega)
 have hq1:decide ((a:Int)<0)=false:=decide_eq_false (by omega)
 have hle0:(a:Int)≤(s.length:Int):=by omega
 have hle1:(0:Int)≤(a:Int):=by omega
 by_cases he:a=s.length
 ·have hq:((a:Int)==(s.length:Int))=true:=by rw [beq_iff_eq];omega
  clear h ha he
  unfold zeroC at HB0 HE0
  go_enter Tryz.func22,Tryz.ntmps22
  go_wp2_with (first
   |(refine wpList_store_row rfl _ _ _ rfl w.heap.size zeroC rfl rfl _ _ HE0.out (by kernel_rfl) rfl zeroC_all ?_;rw [setRow_id HE0.out])
   | fail)
  refine bodyPost_ret (results_row4 rfl _ _ w.heap.size _ _ _ _ rfl HE0.out Tryz.underlying26 rfl entInfo) rfl ?_
  exact ⟨_,HX.out,HB0.out,.inl ⟨8,rfl,by decide,rfl⟩⟩
 ·have hq:((a:Int)==(s.length:Int))=false:=by rw [beq_eq_false_iff_ne];omega
  have hb:(decide (a+512≤s.length)&&(sub s a 512).all (·==0))=true:=by
   rcases h with h|⟨h1,h2⟩
   ·exact absurd h he
   ·rw [decide_eq_true h1,h2];rfl
  have CZ:=Lib.hid (fun w=>none_any s a (by omega) hs w)
  rw [hb] at CZ
  have hsl:∀ w,(Instr.slice 9 (.string (mkS s)) (some (.int .i64 (a:Int))) (some (.int .i64 (min ((a:Int)+512) (s.length:Int)))) none).run Tryz.prog w=.ok (.string (mkS (sub s a (min 512 (s.length - a))))) w:=fun w=>by
   have:=mkS_mid s a (a+min 512 (s.length - a)) (by omega) (by omega) w
   rw [show a+min 512 (s.length - a) - a=min 512 (s.length - a) by omega] at this
   rwa [show ((a+min 512 (s.length - a):Nat):Int)=min ((a:Int)+512) (s.length:Int) by omega] at this
  generalize hmm:min ((a:Int)+512) (s.length:Int)=mm at *
  have HM:=Lib.hid hmm
  have hwq:IntKind.i64.wrap ((a:Int)+512)=(a:Int)+512:=IntWalk.i64_in _ ⟨by omega,by omega⟩
  generalize sub s a (min 512 (s.length - a))=hd at *
  clear h ha he hb
  unfold zeroC at HB0 HE0
  go_enter Tryz.func22,Tryz.ntmps22
  go_wp2_with (first
   |(go_at_call 45;(with_reducible refine (CZ.out _).mono ?_);rintro q wz ⟨rfl,g⟩;replace g:=g.symm;subst g)
   |(refine wpList_store_row rfl _ _ _ rfl w.heap.size zeroC rfl rfl _ _ HE0.out (by kernel_rfl) rfl zeroC_all ?_;rw [setRow_id HE0.out])
   | fail)
  refine bodyPost_ret (results_row4 rfl _ _ w.heap.size _ _ _ _ rfl HE0.out Tryz.underlying26 rfl entInfo) rfl ?_
  exact ⟨_,HX.out,HB0.out,.inl ⟨8,rfl,by decide,rfl⟩⟩
structure RdS (w:World) (b:Nat) (s:List UInt8) (st:RSt) (np lp:Option Addr) (gv ov:Value) (W:World):Prop where
 below:Below w.heap.size w W
 bge:w.heap.size+1≤b
 res:W.heap[w.heap.size]?=some (.cells zeroC 26 (0,0))
 rdr:RdrAt W b s st np lp gv ov
theorem RdS.next {w:World} {b:Nat} {s:List UInt8} {st:RSt} {np lp:Option Addr} {gv ov:Value} {W W':World} (h:RdS w b s st np lp gv ov W) (hB:Below W.heap.size W W'):RdS w b s st np lp gv ov W' :=
 ⟨h.below.trans (hB.mono h.below.size),h.bge,(hB.block _ (Array.getElem?_eq_some_iff.1 h.res).1).trans h.res,h.rdr.below hB⟩
theorem RdS.on {w:World} {b:Nat} {s:List UInt8} {st st':RSt} {np lp np' lp':Option Addr} {gv ov gv' ov':Value} {W W':World} (h:RdS w b s st np lp gv ov W) (hB:Bar W.heap.size [b] W W') (hr:RdrAt W' b s st' np' lp' gv' ov'):RdS w b s st' np' lp' gv' ov' W' :=
 ⟨h.below.trans ((hB.cut h.below.size).below (fun x hx=>by have:=h.bge;simp at hx;omega)),h.bge,hB.row h.res (Array.getElem?_eq_some_iff.1 h.res).1 (by have:=h.bge;simp;omega),hr⟩
def GOff (n:Nat) (gv:Value) (st:RSt):Prop:=(∀ p∈st.G,p.2≠[])∨∀ a m c,gv=.slice (some a) m c→n<a.block
theorem GOff.slice {w:World} {b:Nat} {s:List UInt8} {st:RSt} {np lp:Option Addr} {gv ov:Value} {W:World} (h:GOff w.heap.size gv st) (hR:RdS w b s st np lp gv ov W) (cs:Array Value):Px.SliceIs (W.setRow w.heap.size cs) gv st.G:=by
 refine slice_bar hR.rdr.g ((Bar.refl W.heap.size [w.heap.size] W).setRow (.inl (by simp)) cs) fun i p ad n cap c off hi hv ha hc=>?_
 have hc':c=w.heap.size:=by simpa using hc
 rcases h with h|h
 ·obtain ⟨ad',cap',k1,_,k3⟩:=hR.rdr.g
  rw [k1] at hv
  injection hv with e1 e2 e3
  subst e1
  obtain ⟨c2,off2,j1,j2,j3,j4⟩:=k3 i p hi
  rw [ha] at j1
  injection j1 with j1
  injection j1 with j1 j1' _
  subst j1 j1' hc'
  have hp:=h p (List.mem_of_getElem? hi)
  simp only [World.cell?,hR.res] at j3 j4
  generalize off+i * 2=j at j3 j4
  unfold zeroC at j3 j4
  have he:p.2=[]:=by
   match j,j3,j4 with
   | 0,_,h=>simp at h
   | 1,_,h=>simp at h
   | 2,_,h=>simp at h
   | 3,_,h=>simp at h
   | 4,_,h=>simp at h
   | 5,_,h=>simp at h
   | 6,_,h=>simp at h
   | 7,_,h=>have:=(mkS_inj [] p.2).1 (by simp at h;exact h);exact this.symm
   | 8,_,h=>have:=(mkS_inj [] p.2).1 (by simp at h;exact h);exact this.symm
   | 9,_,h=>have:=(mkS_inj [] p.2).1 (by simp at h;exact h);exact this.symm
   | 10,_,h=>simp at h
   | 11,_,h=>simp at h
   | 12,_,h=>have:=(mkS_inj [] p.2).1 (by simp at h;exact h);exact this.symm
   | 13,_,h=>simp at h
   | j+14,_,h=>simp at h
  exact hp he
 ·subst ha
  have:=h _ _ _ hv
  simp only at this
  omega
theorem laid_below {w W:World} (h:Laid w) (hB:Below w.heap.size w W):Laid W:=⟨h.1.below hB,h.2.below hB⟩
theorem rd_err {b:Nat} {s:List UInt8} {st:RSt} {np lp:Option Addr} {gv ov:Value} {k:Int} {w:World} {r:Ending} {W:World} (h:NxOut b s st np lp gv ov (.err k) w r W):Bar w.heap.size [b] w W∧∃ T v bl,r=.returned (.tuple #[.agg zeroC,.bool bl,.iface T v])∧ErrIs W (.iface T v) k∧k≠0:=by
 refine ⟨h.1,?_⟩
 rcases h.2 with ⟨k',ev,bl,h1,h2,h3,h4⟩|⟨_,_,_,_,_,h1,_⟩|⟨_,_,_,h1,_⟩
 ·cases h1
  obtain ⟨T,v,rfl⟩:=h4.iface
  exact ⟨T,v,bl,h3,h4,h2⟩
 ·cases h1
 ·cases h1
theorem rd_ahead {b:Nat} {s:List UInt8} {st st':RSt} {np lp:Option Addr} {gv ov:Value} {w:World} {r:Ending} {W:World} (h:NxOut b s st np lp gv ov (.ahead st') w r W):Bar w.heap.size [b] w W∧r=.returned (.tuple #[.agg zeroC,.bool false,.nilIface])∧∃ np' lp' gv' ov',RdrAt W b s st' np' lp' gv' ov'∧((gv'=gv∧st'.G=st.G)∨∀ p∈st'.G,p.2≠[]):=by
 refine ⟨h.1,?_⟩
 rcases h.2 with ⟨_,_,_,h1,_⟩|⟨st2,np',lp',gv',ov',h1,h2,h3,h4⟩|⟨_,_,_,h1,_⟩
 ·cases h1
 ·cases h1
  exact ⟨h2,np',lp',gv',ov',h3,h4⟩
 ·cases h1
theorem rd_found {b:Nat} {s:List UInt8} {st:RSt} {np lp:Option Addr} {gv ov:Value} {e:EntL} {a:Nat} {w:World} {r:Ending} {W:World} (h:NxOut b s st np lp gv ov (.found e a) w r W):Bar w.heap.size [b] w W∧∃ ad n cap,r=.returned (.tuple #[entV e (.slice ad n cap),.bool true,.nilIface])∧PcNew w.heap.size W (.slice ad n cap) e.map∧GoodE e∧a≤s.length∧RdrAt W b s { st with at_:=a } np lp gv ov:=by
 refine ⟨h.1,?_⟩
 rcases h.2 with ⟨_,_,_,h1,_⟩|⟨_,_,_,_,_,h1,_⟩|⟨e2,a2,v,h1,h2,h3,h4⟩
 ·cases h1
 ·cases h1
 ·cases h1
  obtain ⟨ad,n,cap,hv⟩:=h3.shape
  subst hv
  exact ⟨ad,n,cap,h2,h3,h4⟩
theorem clone_off (v:Value) (G:List PrL) (hl:G.length≤100000) (w:World) (h:Px.SliceIs w v G) :
  Calls Tryz.prog 46 #[v] w fun e w'=>(∃ ad n cap,e=.returned (.slice ad n cap)∧Px.SliceIs w' (.slice ad n cap) G∧∀ a,ad=some a→w.heap.size≤a.block)∧Below w.heap.size w w':=by
 obtain ⟨ad,cap,rfl,h2,h3⟩:=h
 cases ad with
 | none =>
  obtain rfl:=h2 rfl
  have hG:G=[]:=by
   cases G with
   | nil=>rfl
   | cons p G=>obtain ⟨b,off,h,_⟩:=h3 0 p rfl;cases h
  subst hG
  exact (Px.clone_none w).mono fun e w' ⟨he,hb⟩=>⟨⟨none,0,0,he,⟨none,0,rfl,fun _=>rfl,fun i p h=>by simp at h⟩,fun a h=>by cases h⟩,hb⟩
 | some a =>
  refine (Px.clone_some a cap G hl w h3).mono fun e w' ⟨⟨v,he,hr⟩,hb⟩=>⟨?_,hb⟩
  obtain ⟨ad,c2,hv,k2,k3,k4⟩:=Px.sliceNew_of_row hr (Nat.le_refl _)
  subst hv
  exact ⟨ad,_,c2,he,⟨ad,c2,rfl,k2,k3⟩,k4⟩
set_option maxRecDepth 100000 in
set_option maxHeartbeats 16000000 in
theorem read_go (s:List UInt8) (a:Nat) (gv:Value) (G:List PrL) (hs:s.length≤30000) (w:World) (ha:a≤s.length) (h:¬ (a=s.length∨(a+512≤s.length∧(sub s a 512).all (·==0)=true))) (hI:Inv s ⟨a,G,[],none,none⟩) (hG:Px.SliceIs w gv G) (hL:Laid w) (hE:ErrLaid w) :
  Calls Tryz.prog 22 #[.string (mkS s),.int .i64 (a:Int),gv] w fun r W=>∃ q,EReads s (a:Int) G q∧ROut s q w r W:=by
 have hz:=mkS_size s
 have HX:=Lib.hid (fun q (hq:Reads s ⟨a,G,[],none,none⟩ q)=>EReads.go (s:=s) (G:=G) (a:=(a:Int)) ⟨by omega,by omega⟩ (by
  rintro (h1|⟨h1,h2⟩)
  ·exact h (.inl (by omega))
  ·exact h (.inr ⟨by omega,by rw [Int.toNat_natCast] at h2;exact h2⟩)) (by rw [Int.toNat_natCast];exact hq))
 have HB0:=Lib.hid (below_alloc1 w (.cells zeroC 26))
 have HE0:=Lib.hid (heap_alloc_new w (.cells zeroC 26))
 have hle0:(a:Int)≤(s.length:Int):=by omega
 have hle1:(0:Int)≤(a:Int):=by omega
 have hne:a≠s.length:=fun e=>h (.inl e)
 have hq0:decide ((s.length:Int)<(a:Int))=false:=decide_eq_false (by omega)
 have hq1:decide ((a:Int)<0)=false:=decide_eq_false (by omega)
 have hq:((a:Int)==(s.length:Int))=false:=by rw [beq_eq_false_iff_ne];omega
 have hb:(decide (a+512≤s.length)&&(sub s a 512).all (·==0))=false:=by
  by_cases h1:a+512≤s.length
  ·rw [decide_eq_true h1,Bool.true_and]
   cases h2:(sub s a 512).all (·==0)
   ·rfl
   ·exact absurd (.inr ⟨h1,h2⟩) h
  ·rw [decide_eq_false h1];rfl
 have CZ:=Lib.hid (fun w=>none_any s a (by omega) hs w)
 rw [hb] at CZ
 have hsl:∀ w,(Instr.slice 9 (.string (mkS s)) (some (.int .i64 (a:Int))) (some (.int .i64 (min ((a:Int)+512) (s.length:Int)))) none).run Tryz.prog w=.ok (.string (mkS (sub s a (min 512 (s.length - a))))) w:=fun w=>by
  have:=mkS_mid s a (a+min 512 (s.length - a)) (by omega) (by omega) w
  rw [show a+min 512 (s.length - a) - a=min 512 (s.length - a) by omega] at this
  rwa [show ((a+min 512 (s.length - a):Nat):Int)=min ((a:Int)+512) (s.length:Int) by omega] at this
 generalize hmm:min ((a:Int)+512) (s.length:Int)=mm at *
 have HM:=Lib.hid hmm
 have hwq:IntKind.i64.wrap ((a:Int)+512)=(a:Int)+512:=IntWalk.i64_in _ ⟨by omega,by omega⟩
 generalize sub s a (min 512 (s.length - a))=hd at *
 have CC:=Lib.hid (fun W (hW:Below w.heap.size w W)=>clone_off gv G (by have:=hI.gr;have:=hI.at_;simp only at *;omega) W (hG.below hW))
 have HI:=Lib.hid hI
 have HS:=Lib.hid hs
 have HL:=Lib.hid hL
 have HEr:=Lib.hid hE
 clear h ha hne hb hI hG hL hE
 unfold zeroC at HB0 HE0
 go_enter Tryz.func22,Tryz.ntmps22
 go_wp2_with (first
  |(go_at_call 45;(with_reducible refine (CZ.out _).mono ?_);rintro q wz ⟨rfl,g⟩;replace g:=g.symm;subst g)
  |(go_at_call 46;(with_reducible refine (CC.out _ HB0.out).mono ?_);rintro q w3 ⟨⟨cad,cn,ccap,rfl,g1,g2⟩,g3⟩;have HB3:=Lib.hid (HB0.out.trans (g3.mono HB0.out.size));have HE3:=Lib.hid ((g3.block _ (Array.getElem?_eq_some_iff.1 HE0.out).1).trans HE0.out);have HC3:=Lib.hid (And.intro g1 (fun a ha=>Nat.lt_of_lt_of_le (Array.getElem?_eq_some_iff.1 HE0.out).1 (g2 a ha)));clear g1 g2 g3)
  | fail)
 have hbr:=(Below.refl w3.heap.size w3).alloc (Nat.le_refl _) (.cells (rdrC s a none none (.slice cad cn ccap) (.slice none 0 0)) 82)
 have hlt3:=(Array.getElem?_eq_some_iff.1 HE3.out).1
 have H5:=Lib.hid (show RdS w w3.heap.size s ⟨a,G,[],none,none⟩ none none (.slice cad cn ccap) (.slice none 0 0) (w3.alloc (.cells (rdrC s a none none (.slice cad cn ccap) (.slice none 0 0)) 82)) from
  ⟨HB3.out.trans (hbr.mono HB3.out.size),hlt3,(hbr.block _ hlt3).trans HE3.out,heap_alloc_new w3 _,.inl ⟨rfl,rfl⟩,.inl ⟨rfl,rfl⟩,HC3.out.1.below hbr,⟨none,0,rfl,fun _=>rfl,fun i p h=>by simp at h⟩⟩)
 have HO:=Lib.hid (show GOff w.heap.size (.slice cad cn ccap) ⟨a,G,[],none,none⟩ from .inr fun a' m c h=>by injection h with h1 h2 h3;exact HC3.out.2 a' h1)
 clear hbr hlt3 CC CZ
 unfold rdrC at H5
 go_loopg [11,12,13,14] s.length (fun g _ _ _ _ wr=>∃ (st:RSt) (np lp:Option Addr) (gv' ov:Value),s.length - st.at_≤g∧Aside (RdS w w3.heap.size s st np lp gv' ov wr∧Inv s st∧GOff w.heap.size gv' st∧∀ q,Reads s st q→Reads s ⟨a,G,[],none,none⟩ q))
 case atStart=>exact ⟨⟨a,G,[],none,none⟩,none,none,_,_,by simp only;omega,H5.out,HI.out,HO.out,fun q h=>h⟩
 case round =>
  obtain ⟨st,np,lp,gv',ov,hg,A⟩:=hrel
  have HA:=Lib.hid A.out
  clear A
  have k1:=row_cell HA.out.1.rdr.row 1 (.int .i64 (st.at_:Int)) rfl
  have CN:=Lib.hid (next_any w3.heap.size s st np lp gv' ov (by have:=HS.out;omega) (HA.out.2.1.ok HS.out) wr HA.out.1.rdr (fun W hW=>laid_below HL.out (HA.out.1.below.trans ((hW.cut HA.out.1.below.size).below (fun x hx=>by have:=HA.out.1.bge;simp at hx;omega)))))
  cases hN:nextR s st with
  | err k =>
   rw [hN] at CN
   have HX2:=Lib.hid (HX.out _ (HA.out.2.2.2 _ (.err hN)))
   replace CN:=Lib.hid (CN.out.mono fun r W h=>rd_err h)
   clear hN
   go_wp2_with (first
    |(go_at_call 47;(with_reducible refine CN.out.mono ?_);rintro q w5 ⟨g1,T,v,bl,rfl,g2,g3⟩;have hbl:=(Below.refl w5.heap.size w5).alloc (Nat.le_refl _) (.cells zeroC 26);have hb5:Below w.heap.size w w5:=HA.out.1.below.trans ((g1.cut HA.out.1.below.size).below (fun x hx=>by have:=HA.out.1.bge;simp at hx;omega));have he5:=g1.row HA.out.1.res (Array.getElem?_eq_some_iff.1 HA.out.1.res).1 (by have:=HA.out.1.bge;simp;omega);have HB6:=Lib.hid (hb5.trans (hbl.mono hb5.size));have HE6:=Lib.hid ((hbl.block _ (Array.getElem?_eq_some_iff.1 he5).1).trans he5);have HG:=Lib.hid (And.intro (g2.below hbl) g3);unfold zeroC at HB6 HE6 HG;clear g1 g2 g3 hbl hb5 he5 k1)
    |(go_at_call 37;(with_reducible refine (tell_is HG.out.1 (HEr.out.below HB6.out)).mono ?_);rintro q w7 ⟨rfl,g⟩;have HB7:=Lib.hid (HB6.out.trans (g.mono HB6.out.size));have HE7:=Lib.hid ((g.block _ (Array.getElem?_eq_some_iff.1 HE6.out).1).trans HE6.out);clear g)
    |(refine wpList_store_row rfl _ _ _ rfl w.heap.size zeroC rfl rfl _ _ ((((Below.refl w7.heap.size w7).alloc (Nat.le_refl _) (.cells #[.int .i64 k,.int .i64 (st.at_:Int)] 87)).block _ (Array.getElem?_eq_some_iff.1 HE7.out).1).trans HE7.out) (by kernel_rfl) rfl zeroC_all ?_;rw [setRow_id ((((Below.refl w7.heap.size w7).alloc (Nat.le_refl _) (.cells #[.int .i64 k,.int .i64 (st.at_:Int)] 87)).block _ (Array.getElem?_eq_some_iff.1 HE7.out).1).trans HE7.out)])
    | fail)
   refine bodyPost_ret (results_row4 rfl _ _ w.heap.size _ _ _ _ rfl ((((Below.refl w7.heap.size w7).alloc (Nat.le_refl _) (.cells #[.int .i64 k,.int .i64 (st.at_:Int)] 87)).block _ (Array.getElem?_eq_some_iff.1 HE7.out).1).trans HE7.out) Tryz.underlying26 rfl entInfo) rfl ?_
   exact ⟨_,HX2.out,HB7.out.alloc HB7.out.size _,.inr (.inl ⟨k,st.at_,w7.heap.size,rfl,HG.out.2,rfl,row_cell (heap_alloc_new w7 _) 0 _ rfl,row_cell (heap_alloc_new w7 _) 1 _ rfl⟩)⟩
  | ahead st' =>
   rw [hN] at CN
   have hni:=next_inv HS.out HA.out.2.1 hN
   have HX2:=Lib.hid (fun q (h:Reads s st' q)=>HA.out.2.2.2 q (.step hN h))
   have HNI:=Lib.hid hni
   replace CN:=Lib.hid (CN.out.mono fun r W h=>rd_ahead h)
   clear hN hni
   go_wp2_with (first
    |(go_at_call 47;(with_reducible refine CN.out.mono ?_);rintro q w5 ⟨g1,rfl,np',lp',gv2,ov',g2,g3⟩;have H6:=Lib.hid ((HA.out.1.on g1 g2).next ((Below.refl w5.heap.size w5).alloc (Nat.le_refl _) (.cells zeroC 26)));have HG:=Lib.hid g3;unfold zeroC at H6;clear g1 g2 g3 k1)
    | fail)
   go_roundg (s.length - st'.at_)
   case measure=>have h1:=HNI.out.2;have h2:=HNI.out.1.at_;omega
   case rel =>
    refine ⟨st',np',lp',gv2,ov',Nat.le_refl _,H6.out,HNI.out.1,?_,HX2.out⟩
    rcases HG.out with ⟨e1,e2⟩|h
    ·rcases HA.out.2.2.1 with h|h
     ·exact .inl (by rw [e2];exact h)
     ·exact .inr (by rw [e1];exact h)
    ·exact .inl h
  | found e0 a0 =>
   rw [hN] at CN
   have HX2:=Lib.hid (HX.out _ (HA.out.2.2.2 _ (.ok hN)))
   replace CN:=Lib.hid (CN.out.mono fun r W h=>rd_found h)
   unfold entV at CN
   clear hN
   go_upto_region 11 with (first
    |(go_at_call 47;(with_reducible refine CN.out.mono ?_);rintro q w5 ⟨g1,ad,n,cap,rfl,g2,g3,g4,g5⟩;have hbl:=(Below.refl w5.heap.size w5).alloc (Nat.le_refl _) (.cells (entC e0 (.slice ad n cap)) 26);have H6:=Lib.hid ((HA.out.1.on g1 g5).next hbl);have HP6:=Lib.hid (g2.bar (X:=[]) (.of_below hbl) (fun x hx=>by cases hx));have HN6:=Lib.hid (EntAt.of_row (heap_alloc_new w5 (.cells (entC e0 (.slice ad n cap)) 26)));have HNR:=Lib.hid (heap_alloc_new w5 (.cells (entC e0 (.slice ad n cap)) 26));have HCB:=Lib.hid g1.size;have HG:=Lib.hid (And.intro g3 g4);unfold entC at H6 HP6 HNR;clear g1 g2 g3 g4 g5 hbl k1)
    | fail)
   generalize (w5.alloc (.cells _ 26))=w6 at *
   generalize w5.heap.size=cb at *
   obtain ⟨c0,c1,c2,c3,c4,c5,c6,c7,c8,c9,c10,c11,c12,c13,c14⟩:=id HN6.out
   have k1:=row_cell H6.out.rdr.row 1 (.int .i64 (a0:Int)) rfl
   have k4:=row_cell H6.out.rdr.row 4 gv' rfl
   clear c0 c1 c2 c3 c4 c5 c6 c7 c8 c9 c10 c11 c12 c13 c14
   have HSz:=Lib.hid (show w.heap.size<wr.heap.size from (Array.getElem?_eq_some_iff.1 HA.out.1.res).1)
   have hne1:w3.heap.size≠w.heap.size:=by have:=HA.out.1.bge;omega
   have hne2:cb≠w.heap.size:=by have:=HCB.out;have:=HSz.out;omega
   refine wp_region_held_drew (S:=fun w'=>(∃ g:Array Value,w'.heap[w.heap.size]?=some (.cells g 26 (0,0))∧g.size=15)∧w'.heap[cb]?=some (.cells (entC e0 (.slice ad n cap)) 26 (0,0))∧w'.heap[w3.heap.size]?=some (.cells (rdrC s a0 np lp gv' ov) 82 (0,0))) (by kernel_rfl) ⟨⟨_,H6.out.res,rfl⟩,HNR.out,H6.out.rdr.row⟩ (fun hHeld=>?_)
   clear k1 k4
   refine take_to (i:=0) 64 (.agg (entC e0 (.slice ad n cap))) rfl rfl (by kernel_rfl) (by kernel_rfl) (by kernel_rfl) (fun _ _ _ h=>h) (Or.inl ⟨by rfl,fun w1 h1=>exec_load_row _ _ rfl cb rfl h1.2.1 Tryz.underlying26 rfl entInfo⟩) (by assumption) ?_
   simp only [List.setIfInBounds_toArray,List.set_cons_succ,List.set_cons_zero]
   refine take_to (i:=1) 65 (.pointer (some ⟨w3.heap.size,1,none⟩)) rfl rfl (by kernel_rfl) (by kernel_rfl) (by kernel_rfl) (fun _ _ _ h=>h) (Or.inl ⟨by rfl,?_⟩) (by assumption) ?_
   ·(intro w hSw;(try dsimp only at hSw);go_simp;try with_reducible rfl)
   simp only [List.setIfInBounds_toArray,List.set_cons_succ,List.set_cons_zero]
   refine take_to (i:=2) 66 (.int .i64 (a0:Int)) rfl rfl (by kernel_rfl) (by kernel_rfl) (by kernel_rfl) (fun _ _ _ h=>h) (Or.inl ⟨by rfl,?_⟩) (by assumption) ?_
   ·(intro w hSw;have k1:=row_cell hSw.2.2 1 (.int .i64 (a0:Int)) rfl;clear hSw;go_simp;try with_reducible rfl)
   simp only [List.setIfInBounds_toArray,List.set_cons_succ,List.set_cons_zero]
   refine take_to (i:=3) 67 (.pointer (some ⟨w3.heap.size,4,none⟩)) rfl rfl (by kernel_rfl) (by kernel_rfl) (by kernel_rfl) (fun _ _ _ h=>h) (Or.inl ⟨by rfl,?_⟩) (by assumption) ?_
   ·(intro w hSw;(try dsimp only at hSw);go_simp;try with_reducible rfl)
   simp only [List.setIfInBounds_toArray,List.set_cons_succ,List.set_cons_zero]
   refine take_to (i:=4) 68 gv' rfl rfl (by kernel_rfl) (by kernel_rfl) (by kernel_rfl) (fun _ _ _ h=>h) (Or.inl ⟨by rfl,?_⟩) (by assumption) ?_
   ·(intro w hSw;have k4:=row_cell hSw.2.2 4 gv' rfl;clear hSw;go_simp;try with_reducible rfl)
   simp only [List.setIfInBounds_toArray,List.set_cons_succ,List.set_cons_zero]
   refine wpAnyH_ready (rs:=[5]) (by kernel_rfl) (by simp) ?_
   refine AllReadyH.cons rfl (fun K hK=>?_) AllReadyH.nil
   rw [if_pos (by rfl)]
   obtain ⟨⟨g,hg0,hgs⟩,hg1,hg2⟩:=hHeld
   have hdr:=(Below.refl w6.heap.size w6).drew
   have H7:=H6.out.next hdr
   have HP7:=HP6.out.bar (X:=[]) (.of_below hdr) (fun x hx=>by cases hx)
   have HR8:=Lib.hid (setRow_heap _ _ _ (entC e0 (.slice ad n cap)) _ _ hg0)
   have HB8:=Lib.hid (below_setRow H7.below (Nat.le_refl _) (entC e0 (.slice ad n cap)))
   have HS8:=Lib.hid (GOff.slice (st:={ st with at_:=a0 }) (gv:=gv') HA.out.2.2.1 H7 (entC e0 (.slice ad n cap)))
   have HP8:=Lib.hid (HP7.bar (X:=[w.heap.size]) ((Bar.refl _ _ _).setRow (b:=w.heap.size) (.inl (by simp)) (entC e0 (.slice ad n cap))) (fun x hx=>by have:=HSz.out;simp at hx;omega))
   refine store_row_no rfl _ _ _ rfl _ (entC e0 (.slice ad n cap)) rfl rfl _ _ hg0 entInfo (by rw [hgs];rfl) (entC_all _ _ rfl) ?_
   refine hK.out _ _ ⟨⟨_,HR8.out,rfl⟩,(setRow_other _ _ _ _ hne2).trans hg1,(setRow_other _ _ _ _ hne1).trans hg2⟩ (fun hHeld=>?_)
   clear hg0 hg1 hg2 hK hdr H7 HP7 hgs
   generalize (World.setRow _ _ _)=w8 at *
   refine take_to (i:=6) 7 (.int .i64 (a0:Int)) rfl rfl (by kernel_rfl) (by kernel_rfl) (by kernel_rfl) (fun _ _ _ h=>h) (Or.inl ⟨by rfl,?_⟩) (by assumption) ?_
   ·intro w hSw;rfl
   simp only [List.setIfInBounds_toArray,List.set_cons_succ,List.set_cons_zero]
   refine take_to (i:=7) 8 gv' rfl rfl (by kernel_rfl) (by kernel_rfl) (by kernel_rfl) (fun _ _ _ h=>h) (Or.inl ⟨by rfl,?_⟩) (by assumption) ?_
   ·intro w hSw;rfl
   simp only [List.setIfInBounds_toArray,List.set_cons_succ,List.set_cons_zero]
   refine take_to (i:=8) 9 .nilIface rfl rfl (by kernel_rfl) (by kernel_rfl) (by kernel_rfl) (fun _ _ _ h=>h) (Or.inl ⟨by rfl,?_⟩) (by assumption) ?_
   ·intro w hSw;rfl
   simp only [List.setIfInBounds_toArray,List.set_cons_succ,List.set_cons_zero]
   refine wpAnyH_done (by kernel_rfl) ?_ _
   go_wp2
   refine bodyPost_ret (results_row4 rfl _ _ w.heap.size _ _ _ _ rfl HR8.out Tryz.underlying26 rfl entInfo) rfl ?_
   exact ⟨_,HX2.out,HB8.out,.inr (.inr ⟨e0,a0,st.G,_,gv',rfl,rfl,HP8.out.mono (Nat.le_of_lt HSz.out),HG.out.1,HG.out.2,HS8.out⟩)⟩
theorem eread_any (s:List UInt8) (A:Int) (gv:Value) (G:List PrL) (hs:s.length≤30000) (hA:-9223372036854775808≤A) (w:World) (hg:G.length≤200) (ht:∀ p∈G,p.1.length≤1000∧p.2.length≤1000) (hG:Px.SliceIs w gv G) (hL:Laid w) (hE:ErrLaid w) :
  Calls Tryz.prog 22 #[.string (mkS s),.int .i64 A,gv] w fun r W=>∃ q,EReads s A G q∧ROut s q w r W:=by
 by_cases h:0≤A∧A≤s.length
 ·obtain ⟨a,rfl⟩:=Int.eq_ofNat_of_zero_le h.1
  by_cases hn:a=s.length∨(a+512≤s.length∧(sub s a 512).all (·==0)=true)
  ·exact read_none s a gv G hs w (by omega) hn
  ·exact read_go s a gv G hs w (by omega) hn ⟨by simp only;omega,by simp only;omega,by simp,ht,(fun p hp=>by cases hp),(fun x hx=>by cases hx),(fun x hx=>by cases hx)⟩ hG hL hE
 ·exact read_range s A gv G hs w h hA
end Go.Proofs.YtdjcjaidklgamaaGreatDoor
end
