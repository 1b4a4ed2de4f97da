import Derived.Test.YtdjcjaidklgamaaGreatDoorQPp
set_option linter.unusedSimpArgs false
set_option linter.unusedVariables false
section
namespace Go.Proofs.YtdjcjaidklgamaaGreatDoor
open Go.RowKit Go.Joins
set_option linter.unusedVariables false
set_option linter.unusedSimpArgs false
theorem goodLong (k:UInt8) (hk:k≠0) (n:Int) (h0:0≤n) (h1:n≤100000):goodL 3 (rawLong k n):=by
 have hn:numOk n 12 true=true:=by
  have h2:octOk n 12=true:=by
   unfold octOk
   have:=most12
   simp only [Bool.and_eq_true,decide_eq_true_eq]
   omega
  unfold numOk
  rw [h2]
  rfl
 refine ⟨by decide,hk,⟨fun h=>absurd h (by decide),fun _=>rfl⟩,?_,show (txtOk longName 100&&(txtOk [] 100&&(txtOk [] 32&&(txtOk [] 32&&txtOk [] 155))))=true by decide⟩
 show (numOk 0 8 true&&(numOk 0 8 true&&(numOk 0 8 true&&(numOk n 12 true&&(numOk 0 12 true&&(decide (3=1) || (numOk 0 8 true&&numOk 0 8 true)))))))=true
 rw [hn]
 decide
def rawK (k:UInt8) (n:Int):RawL:=⟨[],[],[],[],[],k,0,0,0,n,0,0,0⟩
theorem wholeLong (k:UInt8) (hk:k≠0) (n:Int) (h0:0≤n) (h1:n≤100000) (data:List UInt8):wholeF 3 (rawK k n) longName [] data=(writeL 3 (rawLong k n)++fillL data,0):=by
 have h:namedF 3 (rawK k n) longName=(rawLong k n,true):=by
  unfold namedF
  rw [if_neg (by decide)]
  rfl
 unfold wholeF
 rw [h]
 have h2:({ rawLong k n with link:=[] }:RawL)=rawLong k n:=rfl
 rw [h2,if_pos ⟨rfl,goodLong k hk n h0 h1⟩]
set_option maxRecDepth 100000 in
set_option maxHeartbeats 8000000 in
theorem gnuCut_any (k:UInt8) (K:Int) (hK:K=(k.toNat:Int)) (hk:k≠0) (t:List UInt8) (ht:t.length≤2000) (B b:Nat) (l:List UInt8) (hl:l.length≤10000) (w:World) (h:Bd B b l w) (hB:B≤w.heap.size) :
  Calls Tryz.prog 70 #[.int .u8 K,.string (mkS t),.int .i64 100,.pointer (some ⟨b,0,none⟩)] w fun e w'=>e=.returned (.tuple #[.string (mkS (t.take 100)),.nilIface])∧Bd B b (l++longF k t) w'∧Below B w w':=by
 have s1:=mkS_size t
 by_cases hlt:(t.length:Int)≤100
 ·have h1:t.take 100=t:=List.take_of_length_le (by omega)
  have h2:longF k t=[]:=by unfold longF;rw [if_neg (by omega)]
  rw [h1,h2,List.append_nil]
  go_enter Tryz.func70,Tryz.ntmps70
  go_wp2_with fail
  try go_ret2
  exact ⟨rfl,h,Below.refl B w⟩
 ·have k1:∀ W,(Op.stringOp .add (mkS t) ⟨#[0]⟩).run Tryz.prog W=.ok (.string (mkS (t++[0]))) W:=fun W=>mkS_cat t [0] (by rw [List.length_singleton];omega) W
  have k2:∀ W,(Instr.slice 9 (.string (mkS t)) none (some (.int .i64 100)) none).run Tryz.prog W=.ok (.string (mkS (t.take 100))) W:=fun W=>mkS_upto t 100 (by omega) W
  have CW:=Lib.hid (fun W=>show Calls Tryz.prog 71 #[.int .i64 3,.agg #[.string ⟨#[]⟩,.string ⟨#[]⟩,.string ⟨#[]⟩,.string ⟨#[]⟩,.string ⟨#[]⟩,.int .u8 (k.toNat:Int),.int .i64 0,.int .i64 0,.int .i64 0,.int .i64 ((t.length:Int)+1),.int .i64 0,.int .i64 0,.int .i64 0],.string ⟨#[46,47,46,47,64,76,111,110,103,76,105,110,107]⟩,.string ⟨#[]⟩,.string (mkS (t++[0]))] W fun e w'=>e=.returned (.tuple #[.string (mkS (longF k t)),.nilIface])∧Below W.heap.size W w' by
   have h:=written_at 3 3 rfl (by decide) (rawK k ((t.length:Int)+1)) longName [] (t++[0]) hk (by decide) (by decide) (show ([]:List UInt8).length≤1000000 by decide) (show ([]:List UInt8).length≤1000000 by decide) (by rw [List.length_append,List.length_singleton];omega) (by unfold intsL rawK i64;dsimp only;omega) W
   rw [wholeLong k hk _ (by omega) (by omega)] at h
   have h2:longF k t=writeL 3 (rawLong k (t.length+1))++fillL (t++[0]):=by unfold longF;rw [if_pos (by omega)]
   rw [← h2] at h
   exact h)
  have HL:=Lib.hid (show (longF k t).length≤10000 by
   unfold longF
   rw [if_pos (by omega)]
   have:=fillL_le (t++[0])
   have h3:(writeL 3 (rawLong k (t.length+1))).length=512:=write_length (goodLong k hk _ (by omega) (by omega))
   rw [List.length_append] at *
   rw [List.length_singleton] at this
   omega)
  generalize longF k t=X at *
  go_enter Tryz.func70,Tryz.ntmps70
  go_wp2_with (first
   |(go_at_call 71;(with_reducible refine (CW.out _).mono ?_);rintro e w2 ⟨rfl,h3⟩;have hB2:=Lib.hid (h3.mono hB);have hD2:=Lib.hid (bd_below h h3);clear h3)
   |(go_at_call 58;(with_reducible refine (bd_write B b l X _ hD2.out (by have:=HL.out;omega) (Nat.le_trans hB hB2.out.size)).mono ?_);rintro e w3 ⟨rfl,h3,h4,_⟩;have hB3:=Lib.hid (hB2.out.trans h4);have hD3:=Lib.hid h3;clear h3 h4)
   | fail)
  try go_ret2
  exact ⟨rfl,hD3.out,hB3.out⟩
end Go.Proofs.YtdjcjaidklgamaaGreatDoor
end
