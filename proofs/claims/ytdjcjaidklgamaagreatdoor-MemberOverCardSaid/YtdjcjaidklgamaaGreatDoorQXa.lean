import Derived.Test.YtdjcjaidklgamaaGreatDoorQRd
import Derived.StillTailTactics
set_option linter.unusedSimpArgs false
set_option linter.unusedVariables false
section
namespace Go.Proofs.YtdjcjaidklgamaaGreatDoor
open Go.RowKit Go.Joins
theorem text_emp (a:List UInt8):(mkS a).toList.isEmpty=a.isEmpty:=by
 rw [ByteArray.toList_eq,mkS_list]
theorem atoi_digs (l:List UInt8) (h:l.all St.dig=true) (hn:l≠[]):Lib.atoi l=some (St.valD l):=by
 have key:∀ (l:List UInt8) (acc:Nat),l.all St.dig=true→∃ m:Nat,Lib.decFrom acc l=some m∧l.foldl (fun n c=>10 * n+((c.toNat:Int) - 48)) (acc:Int)=(m:Int):=by
  intro l
  induction l with
  | nil=>exact fun acc _=>⟨acc,rfl,rfl⟩
  | cons c l ih =>
   intro acc h
   simp only [List.all_cons,Bool.and_eq_true] at h
   have hc:=(St.dig_iff c).1 h.1
   obtain ⟨m,h1,h2⟩:=ih (acc * 10+(c.toNat - 48)) h.2
   refine ⟨m,?_,?_⟩
   ·rw [Lib.decFrom,Lib.digitVal,if_pos hc];exact h1
   ·rw [List.foldl_cons,← h2];congr 1;omega
 cases l with
 | nil=>exact absurd rfl hn
 | cons c r =>
  obtain ⟨m,h1,h2⟩:=key (c :: r) 0 h
  have hc:=(St.dig_iff c).1 (List.all_eq_true.1 h c (by simp))
  have n1:(c==45)=false:=by simp only [beq_eq_false_iff_ne];rintro rfl;revert hc;decide
  have n2:(c==43)=false:=by simp only [beq_eq_false_iff_ne];rintro rfl;revert hc;decide
  rw [Lib.atoi,n1,n2]
  simp only [Bool.false_eq_true,if_false,Lib.decNat,List.isEmpty_cons,h1,Option.map_some]
  exact congrArg some h2.symm
set_option maxRecDepth 100000 in
set_option maxHeartbeats 4000000 in
theorem decimal_any (l:List UInt8) (hl:l.length≤100000) (w:World) (hA:Px.AtoiLaid w) :
  Calls Tryz.prog 167 #[.string (mkS l)] w fun e w'=>e=.returned (.tuple #[.int .i64 (smallF l).2,errV (smallF l).1])∧Below w.heap.size w w':=by
 have hz:=mkS_size l
 have e0:errV 0=.nilIface:=rfl
 have e3:errV 3=.iface 68 (.int .i64 3):=rfl
 by_cases h15:l.length≤15
 ·have q:decide ((15:Int)<(l.length:Int))=false:=decide_eq_false (by omega)
  have CT:=Lib.hid (fun w=>St.trimDigits_any l w (by omega))
  by_cases hd:l.all St.dig=true
  ·have hT:=(St.trimS_nil l).2 hd
   rw [hT] at CT
   have HA:=Lib.hid (fun w' (h:Below w.heap.size w w')=>hA.below h)
   have hem:(mkS []).toList.isEmpty=true:=by rw [text_emp];rfl
   by_cases hn:l=[]
   ·subst hn
    have CA:=Lib.hid (fun w' (h:Below w.heap.size w w')=>show Calls Tryz.prog 190 #[.string (mkS [])] w' fun e w''=>(∃ v te pe,e=.returned (.tuple #[.int .i64 v,.iface te pe]))∧Below w'.heap.size w' w'' from
     (Px.atoi_any [] (by simp) w' (HA.out w' h)).mono fun e w'' ⟨he,hb⟩=>⟨by
      rcases he with ⟨v,h1,_⟩|⟨_,v,te,pe,h2⟩
      ·exact absurd h1 (by simp [Lib.atoiAll])
      ·exact ⟨v,te,pe,h2⟩,hb⟩)
    rw [show smallF []=(3,0) from rfl,e3]
    clear hd hT e0 e3 hA HA
    go_enter Tryz.func167,Tryz.ntmps167
    go_wp2_with (first
     |(go_at_call 66;(with_reducible refine (CT.out _).mono ?_);rintro e w2 ⟨rfl,h2⟩;have H2:=Lib.hid h2;clear h2)
     |(go_at_call 190;(with_reducible refine (CA.out _ H2.out).mono ?_);rintro e w3 ⟨⟨v,te,pe,rfl⟩,h3⟩;have H3:=Lib.hid (H2.out.trans (h3.mono H2.out.size));clear h3)
     | fail)
    first|go_ret2|go_ret
    exact ⟨rfl,H3.out⟩
   ·have hv:=(St.valD_lt l.length l rfl hd)
    have hv2:(10 ^ l.length:Nat)≤10 ^ 15:=Nat.pow_le_pow_right (by omega) h15
    have CA:=Lib.hid (fun w=>show Calls Tryz.prog 190 #[.string (mkS l)] w fun e w'=>e=.returned (.tuple #[.int .i64 (St.valD l),.nilIface])∧Below w.heap.size w w' from (Tryz.strconv_Atoi (mkS l) (St.valD l) (by rw [mkS_size];omega) (by rw [mkS_list];exact atoi_digs l hd hn) w).mono fun e w' ⟨he,t,ht⟩=>⟨he,ht ▸ below_bytesWorld w _ _⟩)
    have hF:smallF l=(0,St.valD l):=by
     unfold smallF smallB St.isDig
     rw [if_pos (by rw [hd,decide_eq_false hn,decide_eq_true h15];rfl)]
    rw [hF,e0]
    clear hd hT e0 e3 hA HA hF hn hv2
    go_enter Tryz.func167,Tryz.ntmps167
    go_wp2_with (first
     |(go_at_call 66;(with_reducible refine (CT.out _).mono ?_);rintro e w2 ⟨rfl,h2⟩;have H2:=Lib.hid h2;clear h2)
     |(go_at_call 190;(with_reducible refine (CA.out _).mono ?_);rintro e w3 ⟨rfl,h3⟩;have H3:=Lib.hid (H2.out.trans (h3.mono H2.out.size));clear h3)
     | fail)
    first|go_ret2|go_ret
    exact ⟨rfl,H3.out⟩
  ·have hT:Lib.trimS l St.digitsL≠[]:=fun h=>hd ((St.trimS_nil l).1 h)
   have hF:smallF l=(3,0):=by
    unfold smallF smallB St.isDig
    rw [if_neg (by rw [Bool.eq_false_iff.2 hd];simp)]
   rw [hF,e3]
   generalize Lib.trimS l St.digitsL=T at CT hT
   have hne:(mkS T).toList.isEmpty=false:=by
    rw [text_emp]
    cases T with
    | nil=>exact absurd rfl hT
    | cons c r=>rfl
   clear hd hT e0 e3 hA hF
   go_enter Tryz.func167,Tryz.ntmps167
   go_wp2_with (first
    |(go_at_call 66;(with_reducible refine (CT.out _).mono ?_);rintro e w2 ⟨rfl,h2⟩;have H2:=Lib.hid h2;clear h2)
    | fail)
   first|go_ret2|go_ret
   exact ⟨rfl,H2.out⟩
 ·have q:decide ((15:Int)<(l.length:Int))=true:=decide_eq_true (by omega)
  have hF:smallF l=(3,0):=by
   unfold smallF smallB
   rw [if_neg (by rw [decide_eq_false h15];simp)]
  rw [hF,e3]
  clear e0 e3 hA hF
  go_enter Tryz.func167,Tryz.ntmps167
  go_wp2_with fail
  first|go_ret2|go_ret
  exact ⟨rfl,Below.refl _ _⟩
end Go.Proofs.YtdjcjaidklgamaaGreatDoor
end
section
namespace Go.Proofs.YtdjcjaidklgamaaGreatDoor
open Go.RowKit Go.Joins
def pieceF (t:List UInt8):Pc × Int :=
 if (readF (sub t 0 12)).2≠0 then ((0,0),(readF (sub t 0 12)).2) else
 if (readF (sub t 12 12)).2≠0 then ((0,0),(readF (sub t 12 12)).2) else (((readF (sub t 0 12)).1,(readF (sub t 12 12)).1),0)
theorem number_any (l:List UInt8) (hl:l.length≤100000) (w:World) :
  Calls Tryz.prog 129 #[.string (mkS l)] w fun e w'=>e=.returned (.tuple #[.int .i64 (readF l).1,errV (readF l).2])∧Below w.heap.size w w':=by
 have h:=read_any (mkS l) w (by rw [mkS_size];omega)
 unfold NumErr readS at h
 rwa [mkS_list] at h
set_option maxRecDepth 100000 in
set_option maxHeartbeats 4000000 in
theorem readPiece_any (t:List UInt8) (ht:24≤t.length) (hl:t.length≤100000) (w:World) :
  Calls Tryz.prog 209 #[.string (mkS t)] w fun e w'=>e=.returned (.tuple #[.agg #[.int .i64 (pieceF t).1.1,.int .i64 (pieceF t).1.2],errV (pieceF t).2])∧Below w.heap.size w w':=by
 have h1:∀ w,(Instr.slice 9 (.string (mkS t)) none (some (.int .i64 12)) none).run Tryz.prog w=.ok (.string (mkS (sub t 0 12))) w:=fun w=>mkS_upto t 12 (by omega) w
 have h2:∀ w,(Instr.slice 9 (.string (mkS t)) (some (.int .i64 12)) (some (.int .i64 24)) none).run Tryz.prog w=.ok (.string (mkS (sub t 12 12))) w:=fun w=>mkS_mid t 12 24 (by omega) (by omega) w
 have C1:=Lib.hid (fun w=>number_any (sub t 0 12) (by unfold sub;rw [List.length_take];omega) w)
 have C2:=Lib.hid (fun w=>number_any (sub t 12 12) (by unfold sub;rw [List.length_take];omega) w)
 have hB:=Lib.hid (below_alloc1 w (.cells #[.int .i64 0,.int .i64 0] 77))
 have hR:=Lib.hid (show (w.alloc (.cells #[.int .i64 0,.int .i64 0] 77)).heap[w.heap.size]?=some (.cells #[.int .i64 0,.int .i64 0] 77 (0,0)) from heap_alloc_new w _)
 unfold pieceF
 generalize readF (sub t 0 12)=a at *
 generalize readF (sub t 12 12)=b at *
 obtain ⟨a1,a2⟩:=a
 obtain ⟨b1,b2⟩:=b
 simp only at C1 C2 ⊢
 generalize sub t 0 12=u at *
 generalize sub t 12 12=v at *
 by_cases ha:a2=0
 ·subst ha
  rw [if_neg (by simp)]
  by_cases hb:b2=0
  ·subst hb
   rw [if_neg (by simp)]
   simp only
   rw [show errV 0=.nilIface from rfl] at C1 C2 ⊢
   go_enter Tryz.func209,Tryz.ntmps209
   go_wp2_with (first
    |(go_at_call 129;(with_reducible refine (C1.out _).mono ?_);rintro e w2 ⟨rfl,g⟩;have hB2:=Lib.hid (hB.out.trans (g.mono hB.out.size));have hR2:=Lib.hid ((g.block _ (Array.getElem?_eq_some_iff.1 hR.out).1).trans hR.out);clear g)
    |(go_at_call 129;(with_reducible refine (C2.out _).mono ?_);rintro e w3 ⟨rfl,g⟩;have hB3:=Lib.hid (hB2.out.trans (g.mono hB2.out.size));have hR3:=Lib.hid ((g.block _ (Array.getElem?_eq_some_iff.1 hR2.out).1).trans hR2.out);have k0:=row_cell hR3.out 0 _ rfl;have k1:=row_cell hR3.out 1 _ rfl;have f0:=row_free hR3.out 0;have f1:=row_free hR3.out 1;clear g)
    | fail)
   have s0:=setCell_row (i:=0) (v:=.int .i64 a1) hR3.out
   have s1:=setCell_row (i:=1) (v:=.int .i64 b1) s0.1
   refine bodyPost_ret (results_row2 rfl _ _ w.heap.size _ _ _ _ rfl s1.1 Tryz.underlying77 rfl (by kernel_rfl)) rfl ?_
   exact ⟨rfl,s1.2 _ (Nat.le_refl _) _ (s0.2 _ (Nat.le_refl _) _ hB3.out)⟩
  ·rw [if_pos hb]
   simp only
   rw [show errV 0=.nilIface from rfl] at C1
   have E:errV b2=.iface 68 (.int .i64 b2):=if_neg hb
   rw [E] at C2 ⊢
   clear E hb
   go_enter Tryz.func209,Tryz.ntmps209
   go_wp2_with (first
    |(go_at_call 129;(with_reducible refine (C1.out _).mono ?_);rintro e w2 ⟨rfl,g⟩;have hB2:=Lib.hid (hB.out.trans (g.mono hB.out.size));have hR2:=Lib.hid ((g.block _ (Array.getElem?_eq_some_iff.1 hR.out).1).trans hR.out);clear g)
    |(go_at_call 129;(with_reducible refine (C2.out _).mono ?_);rintro e w3 ⟨rfl,g⟩;have hB3:=Lib.hid (hB2.out.trans (g.mono hB2.out.size));have hR3:=Lib.hid ((g.block _ (Array.getElem?_eq_some_iff.1 hR2.out).1).trans hR2.out);have k0:=row_cell hR3.out 0 _ rfl;have k1:=row_cell hR3.out 1 _ rfl;have f0:=row_free hR3.out 0;have f1:=row_free hR3.out 1;clear g)
    | fail)
   have s0:=setCell_row (i:=0) (v:=.int .i64 0) hR3.out
   have s1:=setCell_row (i:=1) (v:=.int .i64 0) s0.1
   refine bodyPost_ret (results_row2 rfl _ _ w.heap.size _ _ _ _ rfl s1.1 Tryz.underlying77 rfl (by kernel_rfl)) rfl ?_
   exact ⟨rfl,s1.2 _ (Nat.le_refl _) _ (s0.2 _ (Nat.le_refl _) _ hB3.out)⟩
 ·rw [if_pos ha]
  simp only
  have E:errV a2=.iface 68 (.int .i64 a2):=if_neg ha
  rw [E] at C1 ⊢
  clear E ha
  go_enter Tryz.func209,Tryz.ntmps209
  go_wp2_with (first
   |(go_at_call 129;(with_reducible refine (C1.out _).mono ?_);rintro e w3 ⟨rfl,g⟩;have hB3:=Lib.hid (hB.out.trans (g.mono hB.out.size));have hR3:=Lib.hid ((g.block _ (Array.getElem?_eq_some_iff.1 hR.out).1).trans hR.out);have k0:=row_cell hR3.out 0 _ rfl;have k1:=row_cell hR3.out 1 _ rfl;have f0:=row_free hR3.out 0;have f1:=row_free hR3.out 1;clear g)
   | fail)
  have s0:=setCell_row (i:=0) (v:=.int .i64 0) hR3.out
  have s1:=setCell_row (i:=1) (v:=.int .i64 0) s0.1
  refine bodyPost_ret (results_row2 rfl _ _ w.heap.size _ _ _ _ rfl s1.1 Tryz.underlying77 rfl (by kernel_rfl)) rfl ?_
  exact ⟨rfl,s1.2 _ (Nat.le_refl _) _ (s0.2 _ (Nat.le_refl _) _ hB3.out)⟩
end Go.Proofs.YtdjcjaidklgamaaGreatDoor
end
section
namespace Go.Proofs.YtdjcjaidklgamaaGreatDoor
open Go.RowKit Go.Joins
set_option maxRecDepth 100000 in
set_option maxHeartbeats 4000000 in
theorem take_any (s:List UInt8) (st:RSt) (b:Nat) (np lp:Option Addr) (gv ov:Value) (n most:Int) (hs:s.length≤100000) (hat:st.at_≤s.length) (hm:most≤20000) (w:World) (hR:RdrAt w b s st np lp gv ov) :
  Calls Tryz.prog 84 #[.pointer (some ⟨b,0,none⟩),.int .i64 n,.int .i64 most] w fun e w'=>e=.returned (.tuple #[.string (mkS (takeF s st.at_ n most).2.1),errV (takeF s st.at_ n most).1])∧RdrAt w' b s { st with at_:=(takeF s st.at_ n most).2.2 } np lp gv ov∧Bar w.heap.size [b] w w':=by
 have hz:=mkS_size s
 have k0:=row_cell hR.row 0 (.string (mkS s)) rfl
 have k1:=row_cell hR.row 1 (.int .i64 (st.at_:Int)) rfl
 have f1:=row_free hR.row 1
 have HR:=Lib.hid hR
 unfold takeF
 generalize hA:st.at_=A at *
 by_cases h1:most<n
 ·rw [if_pos h1,show errV ((4:Int),([]:List UInt8),A).1=.iface 68 (.int .i64 4) from rfl]
  clear hR
  go_enter Tryz.func84,Tryz.ntmps84
  go_wp2_with fail
  first|go_ret2|go_ret
  exact ⟨rfl,by rw [← hA];exact HR.out,Bar.refl _ _ _⟩
 ·rw [if_neg h1]
  by_cases h2:n<0
  ·rw [if_pos (.inl h2),show errV ((3:Int),([]:List UInt8),A).1=.iface 68 (.int .i64 3) from rfl]
   clear hR
   go_enter Tryz.func84,Tryz.ntmps84
   go_wp2_with fail
   go_quiet (fail)
   have HB:=Lib.hid (below_draws w.heap.size w nq)
   go_wp2_with fail
   first|go_ret2|go_ret
   exact ⟨rfl,by have:=HR.out.below HB.out;rw [← hA];exact this,Bar.of_below HB.out⟩
  ·obtain ⟨N,rfl⟩:=Int.eq_ofNat_of_zero_le (show 0≤n by omega)
   have hp:=padF_range (N:Int)
   have CP:=Lib.hid (fun w=>pad_any (N:Int) w (by omega))
   generalize padF (N:Int)=P at *
   have wq1:IntKind.i64.wrap ((N:Int)+P)=(N:Int)+P:=IntWalk.i64_in _ ⟨by omega,by omega⟩
   have wq2:IntKind.i64.wrap ((s.length:Int) - (A:Int))=(s.length:Int) - (A:Int):=IntWalk.i64_in _ ⟨by omega,by omega⟩
   by_cases h3:(s.length:Int) - A<(N:Int)+P
   ·rw [if_pos (.inr h3),show errV ((3:Int),([]:List UInt8),A).1=.iface 68 (.int .i64 3) from rfl]
    clear hR
    go_enter Tryz.func84,Tryz.ntmps84
    go_wp2_with fail
    go_quiet ((go_at_call 119;exact Calls.quiet_of_same (CP.out _)))
    have HB:=Lib.hid (below_draws w.heap.size w nq)
    go_wp2_with fail
    first|go_ret2|go_ret
    exact ⟨rfl,by have:=HR.out.below HB.out;rw [← hA];exact this,Bar.of_below HB.out⟩
   ·rw [if_neg (by rintro (h|h);exact h2 h;exact h3 h),show errV ((0:Int),sub s A (N:Int).toNat,A+((N:Int)+P).toNat).1=.nilIface from rfl]
    simp only [Int.toNat_natCast]
    have hsl:∀ w,(Instr.slice 9 (.string (mkS s)) (some (.int .i64 (A:Int))) (some (.int .i64 ((A:Int)+(N:Int)))) none).run Tryz.prog w=.ok (.string (mkS (sub s A N))) w:=fun w=>by
     have:=mkS_mid s A (A+N) (by omega) (by omega) w
     rw [show A+N - A=N by omega] at this
     rwa [show ((A+N:Nat):Int)=(A:Int)+(N:Int) from by omega] at this
    generalize sub s A N=U at *
    have hE:((A:Int)+((N:Int)+P))=((A+((N:Int)+P).toNat:Nat):Int):=by omega
    have HE:=Lib.hid hE
    clear hR hE
    go_enter Tryz.func84,Tryz.ntmps84
    go_wp2_with fail
    go_quiet ((go_at_call 119;exact Calls.quiet_of_same (CP.out _)))
    have HB:=Lib.hid (below_draws w.heap.size w nq)
    generalize w.drewN nq=w2 at *
    have HR2:=Lib.hid (HR.out.below HB.out)
    clear k0 k1 f1
    have k0:=row_cell HR2.out.row 0 (.string (mkS s)) rfl
    have k1:=row_cell HR2.out.row 1 (.int .i64 (A:Int)) (by rw [hA];rfl)
    go_wp2_with fail
    go_quiet (fail)
    have HB2:=Lib.hid (HB.out.trans ((below_draws w2.heap.size w2 nq).mono HB.out.size))
    generalize w2.drewN nq=w3 at *
    have HR3:=Lib.hid (HR.out.below HB2.out)
    clear k0 k1 HR2 HB
    have k0:=row_cell HR3.out.row 0 (.string (mkS s)) rfl
    have k1:=row_cell HR3.out.row 1 (.int .i64 (A:Int)) (by rw [hA];rfl)
    have f1:=row_free HR3.out.row 1
    go_wp2_with fail
    go_still_tail 11,(by kernel_rfl)
    still_call (CP.out _)
    repeat still_step
    refine wpStill_nil ?_
    change wpList _ _ _ _ _ w3.drew
    have HB4:=Lib.hid (HB2.out.trans ((Below.refl w3.heap.size w3).drew.mono HB2.out.size))
    generalize w3.drew=w4 at *
    have HR4:=Lib.hid (HR.out.below HB4.out)
    clear k0 k1 f1 HR3 HB2
    have k0:=row_cell HR4.out.row 0 (.string (mkS s)) rfl
    have k1:=row_cell HR4.out.row 1 (.int .i64 (A:Int)) (by rw [hA];rfl)
    have f1:=row_free HR4.out.row 1
    go_wp2_with (first
     |(go_at_call 119;(with_reducible refine (CP.out _).mono ?_);rintro e w5 ⟨rfl,h5⟩;replace h5:=h5.symm;subst h5)
     | fail)
    first|go_ret2|go_ret
    have hS:=setCell_row (i:=1) (v:=.int .i64 ((A:Int)+((N:Int)+P))) HR4.out.row
    have hBar:=(Bar.of_below (X:=[b]) HB4.out).setCell (i:=1) (v:=.int .i64 ((A:Int)+((N:Int)+P))) HR4.out.row (.inl (by simp))
    refine ⟨rfl,?_,hBar⟩
    refine HR.out.bar hBar (fun x hx _=>by simpa using hx) ?_
    rw [hS.1,HE.out]
    rfl
end Go.Proofs.YtdjcjaidklgamaaGreatDoor
end
