/- hole.Put: the file that has data in its pieces. -/
import Derived.Test.YtpkledmpldnhiaaDoorPti
namespace Go.Proofs.YtpkledmpldnhiaaDoor
open Go.RowKit Go.Joins Go.Lib
set_option linter.unusedVariables false

set_option maxHeartbeats 2000000 in
theorem put_bad (d : List UInt8) (ad : Option Addr) (cap : Nat) (l : List Pc) (size : Int) (hd : d.length ≤ 1000000) (hs : -9223372036854775808 ≤ size ∧ size ≤ 9223372036854775807) (hl : l.length ≤ maxLen) (hF : Fits l) (h : mapRight l size = false ∨ ¬ (d.length : Int) = sizeF 0 l) (w : World) (hM : PiecesAt w ad l) :
    Calls Tryd.prog 14 #[.string (mkS d), .slice ad l.length cap, .int .i64 size] w fun e w' => e = .returned (.tuple #[.string (mkS []), .iface 23 (.int .i64 1)]) ∧ Below w.heap.size w w' := by
  have hz := mkS_size d
  have R := Lib.hid (fun w' hb => rightA_any ad cap l size hs hl hF w' (hM.below hb))
  have S := Lib.hid (fun w' hb => sizeA_any ad cap l hl hF w' (hM.below hb))
  have H := Lib.hid h
  clear hM hF h
  generalize sizeF 0 l = z at S H
  generalize mapRight l size = r at R H
  cases r with
  | false =>
    clear hs
    go_enter Tryd.func14, Tryd.ntmps14
    go_wp2_with (go_at_call 18; with_reducible refine (R.out _ (Below.refl _ _)).mono ?_; rintro e w1 ⟨rfl, hb1⟩; have B1 := Lib.hid hb1; clear hb1)
    go_ret2
    exact ⟨rfl, B1.out⟩
  | true =>
    have hne : ¬ (d.length : Int) = z := by
      rcases H.out with h | h
      · cases h
      · exact h
    have hnb : ((d.length : Int) != z) = true := by simpa using hne
    clear hs hne
    go_enter Tryd.func14, Tryd.ntmps14
    go_wp2_with (first
      | (go_at_call 18; with_reducible refine (R.out _ (Below.refl _ _)).mono ?_; rintro e w1 ⟨rfl, hb1⟩; have B1 := Lib.hid hb1; clear hb1)
      | (go_at_call 19; with_reducible refine (S.out _ B1.out).mono ?_; rintro e w2 ⟨rfl, hb2⟩; have B2 := Lib.hid (B1.out.trans (hb2.mono B1.out.size)); clear hb2))
    go_ret2
    exact ⟨rfl, B2.out⟩

set_option maxHeartbeats 2000000 in
theorem put_long (d : List UInt8) (ad : Option Addr) (cap : Nat) (l : List Pc) (size : Int) (hd : d.length ≤ 1000000) (hs : -9223372036854775808 ≤ size ∧ size ≤ 9223372036854775807) (hl : l.length ≤ maxLen) (hF : Fits l) (h : mapRight l size = true) (h2 : (d.length : Int) = sizeF 0 l) (h3 : 4000 < size) (w : World) (hM : PiecesAt w ad l) :
    Calls Tryd.prog 14 #[.string (mkS d), .slice ad l.length cap, .int .i64 size] w fun e w' => e = .returned (.tuple #[.string (mkS []), .iface 23 (.int .i64 4)]) ∧ Below w.heap.size w w' := by
  have hz := mkS_size d
  have R := Lib.hid (fun w' hb => rightA_any ad cap l size hs hl hF w' (hM.below hb))
  have S := Lib.hid (fun w' hb => sizeA_any ad cap l hl hF w' (hM.below hb))
  rw [h] at R
  rw [← h2] at S
  clear hM hF h h2
  go_enter Tryd.func14, Tryd.ntmps14
  go_wp2_with (first
    | (go_at_call 18; with_reducible refine (R.out _ (Below.refl _ _)).mono ?_; rintro e w1 ⟨rfl, hb1⟩; have B1 := Lib.hid hb1; clear hb1)
    | (go_at_call 19; with_reducible refine (S.out _ B1.out).mono ?_; rintro e w2 ⟨rfl, hb2⟩; have B2 := Lib.hid (B1.out.trans (hb2.mono B1.out.size)); clear hb2))
  go_ret2
  exact ⟨rfl, B2.out⟩

set_option maxHeartbeats 2000000 in
theorem put_ok (d : List UInt8) (ad : Option Addr) (cap : Nat) (l : List Pc) (n : Nat) (hd : d.length ≤ 1000000) (hl : l.length ≤ maxLen) (hF : Fits l) (h : mapRight l n = true) (h2 : (d.length : Int) = sizeF 0 l) (h3 : n ≤ 4000) (w : World) (hM : PiecesAt w ad l) :
    Calls Tryd.prog 14 #[.string (mkS d), .slice ad l.length cap, .int .i64 (n : Int)] w fun e w' => e = .returned (.tuple #[.string (mkS (putL d l n)), .nilIface]) ∧ Below w.heap.size w w' := by
  have hz := mkS_size d
  have R := Lib.hid (fun w' hb => rightA_any ad cap l n (by omega) hl hF w' (hM.below hb))
  have S := Lib.hid (fun w' hb => sizeA_any ad cap l hl hF w' (hM.below hb))
  obtain ⟨_, h20, hrt⟩ := mapRight_inv h
  rw [h] at R
  rw [← h2] at S
  have hI : PutInv d l n 0 [] d := PutInv.start hrt (by rw [h2]; exact sizeF_zero (by omega) hrt)
  have HI := Lib.hid hI
  have hmk := fun W => run_make_bytes W n (by omega)
  have HM := Lib.hid (fun W' hb => PiecesAt.below (W' := W') hM hb)
  clear h h2 hrt hF hI hM
  go_enter Tryd.func14, Tryd.ntmps14
  go_wp2_with (first
    | (go_at_call 18; with_reducible refine (R.out _ (Below.refl _ _)).mono ?_; rintro e w1 ⟨rfl, hb1⟩; have B1 := Lib.hid hb1; clear hb1)
    | (go_at_call 19; with_reducible refine (S.out _ B1.out).mono ?_; rintro e w2 ⟨rfl, hb2⟩; have B2 := Lib.hid (B1.out.trans (hb2.mono B1.out.size)); clear hb2))
  have hBW : Below w.heap.size w (w2.alloc (.cells (byteCells (List.replicate n 0)).toArray 5)) := B2.out.alloc B2.out.size _
  have hRW : RowIs (w2.alloc (.cells (byteCells (List.replicate n 0)).toArray 5)) w2.heap.size 5 (fileL [] n) := by
    unfold fileL RowIs
    rw [List.nil_append, List.length_nil, Nat.sub_zero]
    exact heap_alloc_new w2 _
  have hBB := B2.out.size
  generalize w2.alloc (.cells (byteCells (List.replicate n 0)).toArray 5) = w3 at hBW hRW ⊢
  generalize w2.heap.size = B at hRW hBB ⊢
  have HB3 := Lib.hid hBW
  have HR3 := Lib.hid hRW
  clear hBW hRW hmk
  go_loopg [0, 31] l.length (fun g s0 s31 wr => ∃ (i : Nat) (pre D : List UInt8), i ≤ l.length ∧ l.length - i ≤ g ∧ s0 = .string (mkS D) ∧ s31 = .int .i64 i ∧ Aside (Below w.heap.size w wr ∧ RowIs wr B 5 (fileL pre n) ∧ PutInv d l n i pre D))
  case atStart => exact ⟨0, [], d, by omega, by omega, rfl, rfl, (show Aside _ from ⟨HB3.out, HR3.out, HI.out⟩)⟩
  case round =>
    obtain ⟨i, pre, D, hi, hg, rfl, rfl, A⟩ := hrel
    by_cases hil : i < l.length
    · obtain ⟨p, hp⟩ : ∃ p, l[i]? = some p := ⟨_, List.getElem?_eq_getElem hil⟩
      obtain ⟨b, off, hAd, _, c1, c2⟩ := HM.out wr A.out.1 i p hp
      subst hAd
      obtain ⟨n1, n2, n3, n4, n5⟩ := A.out.2.2.next hp
      obtain ⟨a, ha⟩ : ∃ a : Nat, p.1 = (a : Int) := ⟨p.1.toNat, by omega⟩
      obtain ⟨c, hc⟩ : ∃ c : Nat, p.2 = (c : Int) := ⟨p.2.toNat, by omega⟩
      simp only [ha, hc, Int.toNat_natCast] at n1 n2 n3 n4 n5
      rw [ha] at c1
      rw [hc] at c2
      have hDl := mkS_size D
      have hpre : pre.length ≤ n := A.out.2.2.2.2.1
      have hlen := fileL_length hpre
      have hsl := fun W => sl_bytes W B n a c (by omega) (by omega)
      have hRn : RowIs (wr.alloc (.cells #[.int .i64 (a : Int), .int .i64 (c : Int)] 47)) B 5 (fileL pre n) := A.out.2.1.below ((Below.refl wr.heap.size wr).alloc (Nat.le_refl _) _)
      have hcp := run_copy_part (P := Tryd.prog) (wr.alloc (.cells #[.int .i64 (a : Int), .int .i64 (c : Int)] 47)) 52 9 3 5 B a c (n - a) D (fileL pre n) 5 Tryd.underlying52 (by kernel_rfl) hRn (by omega) (by omega)
      have hst := fileL_step (pre := pre) (X := D.take c) (n := n) (a := a) (b := c) (by omega) (by omega) (by rw [List.length_take]; omega)
      rw [hst] at hcp
      have hon := mkS_onward D c (by omega)
      have HA := Lib.hid A.out
      have HN := Lib.hid n5
      have HRn := Lib.hid hRn
      clear A n5 hRn hp ha hc hst hlen
      go_wp2
      go_roundg (l.length - (i + 1))
      case measure => omega
      case rel =>
        exact ⟨i + 1, _, D.drop c, by omega, by omega, rfl, by first | rfl | simp, (show Aside _ from ⟨below_setRow (HA.out.1.alloc HA.out.1.size _) B hBB _, rowIs_set HRn.out, by rw [← List.append_assoc]; exact HN.out⟩)⟩
    · have hii : i = l.length := by omega
      subst hii
      have hpre : pre.length ≤ n := A.out.2.2.2.2.1
      have hcv := rowIs_conv A.out.2.1 n n (fileL_length hpre)
      have hdn : fileL pre n = putL d l n := A.out.2.2.done
      rw [hdn] at hcv
      have HA := Lib.hid A.out.1
      clear A hdn
      go_wp2
      go_ret2
      exact ⟨rfl, HA.out⟩
end Go.Proofs.YtpkledmpldnhiaaDoor
