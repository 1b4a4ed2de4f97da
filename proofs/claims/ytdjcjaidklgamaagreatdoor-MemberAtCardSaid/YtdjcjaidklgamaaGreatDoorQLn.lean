import Derived.Test.YtdjcjaidklgamaaGreatDoorQPp
import Derived.Test.YtdjcjaidklgamaaGreatDoorQPa
set_option linter.unusedSimpArgs false
set_option linter.unusedVariables false
section
namespace Go.Proofs.YtdjcjaidklgamaaGreatDoor
open Go.RowKit Go.Joins
set_option linter.unusedVariables false
set_option linter.unusedSimpArgs false
theorem itoaN (n:Int) (h0:0≤n) (h1:n≤9223372036854775807) (w:World) (hp:Px.PowLaid w) :
  Calls Tryz.prog 77 #[.int .i64 n] w fun e w'=>e=.returned (.string (mkS (decN n)))∧Below w.heap.size w w':=by
 have h:=Px.itoa_mk n (by omega) h1 w hp
 rwa [itoa_nat n h0] at h
theorem decN_le {n:Int} (h:n≤99999999999999):(decN n).length≤14:=by
 unfold decN
 obtain ⟨m,hm⟩:∃ m,n.toNat=m:=⟨_,rfl⟩
 have hm2:m<10 ^ 14:=by omega
 rw [hm]
 have key:∀ (k m:Nat),m<10 ^ (k+1)→(Lib.decDigits m).length≤k+1:=by
  intro k
  induction k with
  | zero=>intro m h;rw [dec_small m (by omega)];simp
  | succ k ih =>
   intro m h
   by_cases h10:m<10
   ·rw [dec_small m h10];simp
   ·rw [dec_step m h10,List.length_append,List.length_singleton]
    have:=ih (m / 10) (by rw [Nat.pow_succ] at h;omega)
    omega
 exact key 13 m hm2
theorem kp_of {b:Nat} {w w1 w2:World} (h1:Below w.heap.size w w1) (h2:Kp b w1 w2):Kp b w w2:=fun k o hk h3 h4=>h2 k o ((h1.block k (Array.getElem?_eq_some_iff.1 hk).1).trans hk) h3 h4
theorem kp_trans {b:Nat} {w w1 w2:World} (h1:Kp b w w1) (h2:Kp b w1 w2):Kp b w w2:=fun k o hk h3 h4=>h2 k o (h1 k o hk h3 h4) h3 h4
set_option maxRecDepth 100000 in
set_option maxHeartbeats 8000000 in
theorem line_any (n:Int) (h0:0≤n) (h1:n≤99999999999999) (B b:Nat) (l:List UInt8) (hl:l.length≤100000) (w:World) (h:Bd B b l w) (hB:B≤w.heap.size) (hp:Px.PowLaid w) :
  Calls Tryz.prog 121 #[.int .i64 n,.pointer (some ⟨b,0,none⟩)] w fun e w'=>e=.returned (.tuple #[])∧Bd B b (l++(decN n++[10])) w'∧Below B w w'∧Kp b w w':=by
 have CI:=Lib.hid (itoaN n h0 (by omega) w hp)
 have HL:=Lib.hid (decN_le h1)
 generalize decN n=D at *
 have H:=Lib.hid h
 clear h hp
 go_enter Tryz.func121,Tryz.ntmps121
 go_wp2_with (first
  |(go_at_call 77;(with_reducible refine CI.out.mono ?_);rintro e w2 ⟨rfl,h2⟩;have HB2:=Lib.hid (h2.mono hB);have HD2:=Lib.hid (bd_below H.out h2);have HK2:=Lib.hid h2;clear h2)
  |(go_at_call 58;(with_reducible refine (bd_write B b l D _ HD2.out (by have:=HL.out;omega) (Nat.le_trans hB HB2.out.size)).mono ?_);rintro e w3 ⟨rfl,h3,h4,h5⟩;have HB3:=Lib.hid (HB2.out.trans h4);have HD3:=Lib.hid h3;have HK3:=Lib.hid (kp_of HK2.out h5);clear h3 h4 h5)
  |(go_at_call 120;(with_reducible refine (bd_byteI B b (l++D) 10 10 rfl _ HD3.out (by have:=HL.out;rw [List.length_append];omega) (Nat.le_trans hB HB3.out.size)).mono ?_);rintro e w4 ⟨rfl,h3,h4,h5⟩;have HB4:=Lib.hid (HB3.out.trans h4);have HD4:=Lib.hid h3;have HK4:=Lib.hid (kp_trans HK3.out h5);clear h3 h4 h5)
  | fail)
 first|go_end0|go_ret2|go_ret
 exact ⟨rfl,by have h:=HD4.out;rw [List.append_assoc] at h;exact h,HB4.out,HK4.out⟩
def lineQ (p:Pc):List UInt8:=decN p.1++(10 :: (decN p.2++[10]))
def linesT (l:List Pc) (i:Nat):List UInt8:=(decN l.length++[10])++(l.take i).flatMap lineQ
theorem linesT_all (l:List Pc):linesT l l.length=linesL l:=by
 unfold linesT
 rw [List.take_length,List.append_assoc]
 rfl
theorem linesT_succ {l:List Pc} {i:Nat} {p:Pc} (h:l[i]?=some p):linesT l i++(decN p.1++[10])++(decN p.2++[10])=linesT l (i+1):=by
 unfold linesT
 rw [List.take_add_one,h,Option.toList_some,List.flatMap_append]
 simp only [List.flatMap_cons,List.flatMap_nil,lineQ,List.append_assoc,List.cons_append,List.nil_append,List.append_nil]
theorem linesT_len {l:List Pc} (ho:Octs l) (hl:l.length≤1000):∀ i,(linesT l i).length≤15+30 * i
 | 0=>by
  have:=decN_le (n:=(l.length:Int)) (by omega)
  unfold linesT
  simp
  omega
 | i+1=>by
  have ih:=linesT_len ho hl i
  cases h:l[i]? with
  | some p =>
   obtain ⟨⟨z1,z2⟩,z3,z4⟩:=ho p (List.mem_of_getElem? h)
   have h1:=decN_le (n:=p.1) (by omega)
   have h2:=decN_le (n:=p.2) (by omega)
   rw [← linesT_succ h]
   simp only [List.length_append,List.length_singleton]
   omega
  | none =>
   have hle:=List.getElem?_eq_none_iff.1 h
   have e:linesT l (i+1)=linesT l i:=by unfold linesT;rw [List.take_of_length_le (by omega),List.take_of_length_le (by omega)]
   rw [e]
   omega
set_option maxRecDepth 100000 in
set_option maxHeartbeats 8000000 in
theorem pieceLines_any (ad:Option Addr) (cap:Nat) (l:List Pc) (hl:l.length≤1000) (ho:Octs l) (w:World) (hp:Px.PowLaid w) (hM:PiecesAt w ad l) :
  Calls Tryz.prog 79 #[.slice ad l.length cap] w fun e w'=>e=.returned (.string (mkS (linesL l)))∧Below w.heap.size w w':=by
 have HF:=Lib.hid (And.intro (below_alloc1 w (.cells #[.pointer none,.slice none 0 0] 99)) (bd_new w))
 have HM:=Lib.hid (fun W (h:Below w.heap.size w W)=>hM.below h)
 have HO:=Lib.hid ho
 have HP:=Lib.hid (fun W (h:Below w.heap.size w W)=>hp.below h)
 have HA:=Lib.hid (linesT_all l)
 have HN:=Lib.hid (linesT_len ho hl)
 have HS:=Lib.hid (fun (i:Nat) (p:Pc) (h:l[i]?=some p)=>linesT_succ h)
 have H0:=Lib.hid (show linesT l 0=decN l.length++[10] by unfold linesT;simp)
 have CL0:=Lib.hid (fun W (h1:Below w.heap.size w W) (h2:Bd w.heap.size w.heap.size [] W)=>show Calls Tryz.prog 121 #[.int .i64 (l.length:Int),.pointer (some ⟨w.heap.size,0,none⟩)] W fun e w'=>e=.returned (.tuple #[])∧Bd w.heap.size w.heap.size (linesT l 0) w'∧Below w.heap.size W w'∧Kp w.heap.size W w' by
  have h:=line_any (l.length:Int) (by omega) (by omega) w.heap.size w.heap.size [] (by simp) W h2 h1.size (hp.below h1)
  rw [List.nil_append,← H0.out] at h
  exact h)
 clear hM ho hp H0
 go_enter Tryz.func79,Tryz.ntmps79
 go_upto_region 5 with (first
  |(go_at_call 121;(with_reducible refine (CL0.out _ HF.out.1 HF.out.2).mono ?_);rintro e w2 ⟨rfl,h1,h2,_⟩;have HI:=Lib.hid (And.intro (HF.out.1.trans h2) h1);clear h1 h2)
  | fail)
 clear HF CL0
 generalize hn:l.length=n at *
 go_loopg [14] n (fun g s14 wr=>∃ i:Nat,i≤n∧n - i≤g∧s14=.int .i64 (i:Int)∧Aside (Below w.heap.size w wr∧Bd w.heap.size w.heap.size (linesT l i) wr))
 case atStart=>exact ⟨0,by omega,by omega,rfl,HI.out⟩
 case round =>
  obtain ⟨i,hi,hg,rfl,A⟩:=hrel
  by_cases hin:i<n
  ·obtain ⟨p,hpp⟩:∃ p,l[i]?=some p:=⟨_,List.getElem?_eq_getElem (by omega)⟩
   obtain ⟨b,off,rfl,hlt,c1,c2'⟩:=HM.out wr A.out.1 i p hpp
   obtain ⟨⟨z1,z2⟩,z3,z4⟩:=HO.out p (List.mem_of_getElem? hpp)
   have hix:=fun W=>idx_piece W b off n cap i hin
   have hN:=HN.out i
   have HT:=Lib.hid (HS.out i p hpp)
   have hbn:=(A.out.1.alloc A.out.1.size (.cells #[.int .i64 p.1,.int .i64 p.2] 77))
   have hfn:=bd_below A.out.2 (below_alloc1 wr (.cells #[.int .i64 p.1,.int .i64 p.2] 77))
   have A1:=Lib.hid (And.intro hbn hfn)
   have hrs:=Lib.hid (show w.heap.size<wr.heap.size from by rcases A.out.2 with ⟨_,_,h,_⟩|⟨_,_,h,_⟩ <;> exact (Array.getElem?_eq_some_iff.1 h).1)
   have O1:=Lib.hid (fun L W (hL:L.length≤100000) (h1:Below w.heap.size w W) (h2:Bd w.heap.size w.heap.size L W)=>line_any p.1 z1 (by omega) w.heap.size w.heap.size L hL W h2 h1.size (HP.out W h1))
   have O2:=Lib.hid (fun L W (hL:L.length≤100000) (h1:Below w.heap.size w W) (h2:Bd w.heap.size w.heap.size L W)=>line_any p.2 z3 (by omega) w.heap.size w.heap.size L hL W h2 h1.size (HP.out W h1))
   have hd1:=decN_le (n:=p.1) (by omega)
   clear hbn hfn hpp z1 z2 z3 z4 A
   have hLl:(linesT l i).length≤50000:=by omega
   generalize linesT l i=L at *
   generalize decN p.1=X at *
   generalize decN p.2=Y at *
   have HW:=Lib.hid (show (wr.alloc (.cells #[.int .i64 p.1,.int .i64 p.2] 77)).heap[wr.heap.size]?=some (.cells #[.int .i64 p.1,.int .i64 p.2] 77 (0,0)) from heap_alloc_new wr _)
   go_wp2_with (first
    |(go_at_call 121;(with_reducible refine (O1.out L _ (by omega) A1.out.1 A1.out.2).mono ?_);rintro e w3 ⟨rfl,h3,h4,hk3⟩;have hB3:=Lib.hid (A1.out.1.trans h4);have hD3:=Lib.hid h3;have k1:=row_cell (hk3.row HW.out (by have:=hrs.out;omega) (by decide)) 1 _ rfl;clear h3 h4 hk3)
    |(go_at_call 121;(with_reducible refine (O2.out (L++(X++[10])) _ (by simp only [List.length_append,List.length_singleton];omega) hB3.out hD3.out).mono ?_);rintro e w5 ⟨rfl,h6,h7,_⟩;have hB5:=Lib.hid (hB3.out.trans h7);have hD5:=Lib.hid h6;clear h6 h7)
    | fail)
   go_roundg (n - (i+1))
   case measure=>omega
   case rel=>exact ⟨i+1,by omega,by omega,by first|rfl|simp,(show Aside _ from ⟨hB5.out,by rw [← HT.out];exact hD5.out⟩)⟩
  ·obtain rfl:i=n:=by omega
   have HE:=Lib.hid (show linesT l i=linesL l from hn ▸ HA.out)
   generalize linesT l i=L at *
   go_wp2_with (first
    |(go_at_call 61;(with_reducible refine (bd_string w.heap.size w.heap.size L _ A.out.2 A.out.1.size).mono ?_);rintro e w6 ⟨rfl,h6⟩;have hW6:=Lib.hid (A.out.1.trans h6);clear h6)
    | fail)
   go_ret
   exact ⟨congrArg (fun x=>Ending.returned (Value.string (mkS x))) HE.out,hW6.out⟩
end Go.Proofs.YtdjcjaidklgamaaGreatDoor
end
