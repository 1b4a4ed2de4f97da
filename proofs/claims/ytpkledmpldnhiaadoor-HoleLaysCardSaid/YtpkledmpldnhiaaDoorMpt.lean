/- The reference's MapPut. -/
import Derived.Test.YtpkledmpldnhiaaDoorPti
import Derived.Test.YtpkledmpldnhiaaDoorRgB
import Derived.Test.YtpkledmpldnhiaaDoorTrz
namespace Go.Proofs.YtpkledmpldnhiaaDoor
open Go.RowKit Go.Joins Go.Lib
set_option linter.unusedVariables false

set_option maxHeartbeats 2000000 in
theorem mput_bad (d : List UInt8) (ad : Option Addr) (cap : Nat) (l : List Pc) (size : Int) (hd : d.length ≤ 1000000) (hs : -9223372036854775808 ≤ size ∧ size ≤ 9223372036854775807) (hl : l.length ≤ maxLen) (hF : Fits l) (h : mapRight l size = false ∨ ¬ (d.length : Int) = sizeF 0 l) (w : World) (hM : PiecesAt w ad l) :
    Calls Tryd.prog 13 #[.string (mkS d), .slice ad l.length cap, .int .i64 size] w fun e w' => e = .returned (.tuple #[.string (mkS []), .int .i64 1]) ∧ Below w.heap.size w w' := by
  have hz := mkS_size d
  have R := Lib.hid (fun w' hb => rightB_any ad cap l size hs hl hF w' (hM.below hb))
  have S := Lib.hid (fun w' hb => sizeB_any ad cap l hl hF w' (hM.below hb))
  have H := Lib.hid h
  clear hM hF h
  generalize sizeF 0 l = z at S H
  generalize mapRight l size = r at R H
  cases r with
  | false =>
    clear hs
    go_enter Tryd.func13, Tryd.ntmps13
    go_wp2_with (go_at_call 22; with_reducible refine (R.out _ (Below.refl _ _)).mono ?_; rintro e w1 ⟨rfl, hb1⟩; have B1 := Lib.hid hb1; clear hb1)
    go_ret2
    exact ⟨rfl, B1.out⟩
  | true =>
    have hne : ¬ (d.length : Int) = z := by
      rcases H.out with h | h
      · cases h
      · exact h
    have hnb : (z != (d.length : Int)) = true := by simp; omega
    clear hs hne
    go_enter Tryd.func13, Tryd.ntmps13
    go_wp2_with (first
      | (go_at_call 22; with_reducible refine (R.out _ (Below.refl _ _)).mono ?_; rintro e w1 ⟨rfl, hb1⟩; have B1 := Lib.hid hb1; clear hb1)
      | (go_at_call 25; with_reducible refine (S.out _ B1.out).mono ?_; rintro e w2 ⟨rfl, hb2⟩; have B2 := Lib.hid (B1.out.trans (hb2.mono B1.out.size)); clear hb2))
    go_ret2
    exact ⟨rfl, B2.out⟩

set_option maxHeartbeats 2000000 in
theorem mput_long (d : List UInt8) (ad : Option Addr) (cap : Nat) (l : List Pc) (size : Int) (hd : d.length ≤ 1000000) (hs : -9223372036854775808 ≤ size ∧ size ≤ 9223372036854775807) (hl : l.length ≤ maxLen) (hF : Fits l) (h : mapRight l size = true) (h2 : (d.length : Int) = sizeF 0 l) (h3 : 4000 < size) (w : World) (hM : PiecesAt w ad l) :
    Calls Tryd.prog 13 #[.string (mkS d), .slice ad l.length cap, .int .i64 size] w fun e w' => e = .returned (.tuple #[.string (mkS []), .int .i64 4]) ∧ Below w.heap.size w w' := by
  have hz := mkS_size d
  have R := Lib.hid (fun w' hb => rightB_any ad cap l size hs hl hF w' (hM.below hb))
  have S := Lib.hid (fun w' hb => sizeB_any ad cap l hl hF w' (hM.below hb))
  rw [h] at R
  rw [← h2] at S
  clear hM hF h h2
  go_enter Tryd.func13, Tryd.ntmps13
  go_wp2_with (first
    | (go_at_call 22; with_reducible refine (R.out _ (Below.refl _ _)).mono ?_; rintro e w1 ⟨rfl, hb1⟩; have B1 := Lib.hid hb1; clear hb1)
    | (go_at_call 25; with_reducible refine (S.out _ B1.out).mono ?_; rintro e w2 ⟨rfl, hb2⟩; have B2 := Lib.hid (B1.out.trans (hb2.mono B1.out.size)); clear hb2))
  go_ret2
  exact ⟨rfl, B2.out⟩

set_option maxHeartbeats 2000000 in
theorem mput_ok (d : List UInt8) (ad : Option Addr) (cap : Nat) (l : List Pc) (n : Nat) (hd : d.length ≤ 100000) (hl : l.length ≤ maxLen) (hF : Fits l) (h : mapRight l n = true) (h2 : (d.length : Int) = sizeF 0 l) (h3 : n ≤ 4000) (w : World) (hM : PiecesAt w ad l) :
    Calls Tryd.prog 13 #[.string (mkS d), .slice ad l.length cap, .int .i64 (n : Int)] w fun e w' => e = .returned (.tuple #[.string (mkS (putL d l n)), .int .i64 0]) ∧ Below w.heap.size w w' := by
  have hz := mkS_size d
  have R := Lib.hid (fun w' hb => rightB_any ad cap l n (by omega) hl hF w' (hM.below hb))
  have S := Lib.hid (fun w' hb => sizeB_any ad cap l hl hF w' (hM.below hb))
  obtain ⟨_, h20, hrt⟩ := mapRight_inv h
  rw [h] at R
  rw [← h2] at S
  have hsum : (d.length : Int) = sumL l := by rw [h2]; exact sizeF_zero (by omega) hrt
  have hI : PutInv d l n 0 [] d := PutInv.start hrt hsum
  have HI := Lib.hid hI
  have HM := Lib.hid (fun W' hb => PiecesAt.below (W' := W') hM hb)
  clear h h2 hrt hF hI hM hsum
  go_enter Tryd.func13, Tryd.ntmps13
  go_wp2_with (first
    | (go_at_call 22; with_reducible refine (R.out _ (Below.refl _ _)).mono ?_; rintro e w1 ⟨rfl, hb1⟩; have B1 := Lib.hid hb1; clear hb1)
    | (go_at_call 25; with_reducible refine (S.out _ B1.out).mono ?_; rintro e w2 ⟨rfl, hb2⟩; have B2 := Lib.hid (B1.out.trans (hb2.mono B1.out.size)); clear hb2))
  go_loopg [0, 8, 26] l.length (fun g s0 s8 s26 wr => ∃ (i : Nat) (pre D : List UInt8), i ≤ l.length ∧ l.length - i ≤ g ∧ s0 = .string (mkS D) ∧ s8 = .string (mkS pre) ∧ s26 = .int .i64 i ∧ Aside (Below w.heap.size w wr ∧ PutInv d l n i pre D))
  case atStart => exact ⟨0, [], d, by omega, by omega, rfl, rfl, rfl, (show Aside _ from ⟨B2.out, HI.out⟩)⟩
  case round =>
    obtain ⟨i, pre, D, hi, hg, rfl, rfl, rfl, A⟩ := hrel
    by_cases hil : i < l.length
    · obtain ⟨p, hp⟩ : ∃ p, l[i]? = some p := ⟨_, List.getElem?_eq_getElem hil⟩
      obtain ⟨b, off, hAd, _, c1, c2⟩ := HM.out wr A.out.1 i p hp
      subst hAd
      obtain ⟨n1, n2, n3, n4, n5⟩ := A.out.2.next hp
      obtain ⟨a, ha⟩ : ∃ a : Nat, p.1 = (a : Int) := ⟨p.1.toNat, by omega⟩
      obtain ⟨c, hc⟩ : ∃ c : Nat, p.2 = (c : Int) := ⟨p.2.toNat, by omega⟩
      simp only [ha, hc, Int.toNat_natCast] at n1 n2 n3 n4 n5
      rw [ha] at c1
      rw [hc] at c2
      have hDl := mkS_size D
      have hpl := mkS_size pre
      have hpre : pre.length ≤ n := A.out.2.2.2.1
      have hsub : (a : Int) - (pre.length : Int) = ((a - pre.length : Nat) : Int) := by omega
      have hz1 : a - pre.length ≤ 4000 := by omega
      have Rp := Lib.hid (fun W => repeatZ_any (a - pre.length) W (by omega))
      have hup := mkS_upto D c (by omega)
      have hon := mkS_onward D c (by omega)
      have hc2 : (D.take c).length ≤ 4000 := by rw [List.length_take]; omega
      have hct1 := mkS_cat (List.replicate (a - pre.length) 0) (D.take c) (by rw [List.length_replicate]; omega)
      have hct2 := mkS_cat pre (List.replicate (a - pre.length) 0 ++ D.take c) (by rw [List.length_append, List.length_replicate]; omega)
      rw [List.append_assoc] at n5
      have AB := Lib.hid (A.out.1.alloc A.out.1.size (.cells #[.int .i64 (a : Int), .int .i64 (c : Int)] 47))
      have k0 : (wr.alloc (.cells #[.int .i64 (a : Int), .int .i64 (c : Int)] 47)).cell? ⟨wr.heap.size, 0, none⟩ = some (.int .i64 (a : Int)) := by simp
      have k1 : (wr.alloc (.cells #[.int .i64 (a : Int), .int .i64 (c : Int)] 47)).cell? ⟨wr.heap.size, 1, none⟩ = some (.int .i64 (c : Int)) := by simp
      have u0 := fun d os => cell_regrown k0 d os
      have u1 := fun d os => cell_regrown k1 d os
      have HN := Lib.hid n5
      clear A n5 hp ha hc k0 k1
      generalize pre ++ (List.replicate (a - pre.length) 0 ++ D.take c) = pre2 at *
      generalize mkS (List.replicate (a - pre.length) 0 ++ D.take c) = X1 at *
      generalize mkS (List.replicate (a - pre.length) 0) = X2 at *
      generalize mkS (D.take c) = X3 at *
      generalize a - pre.length = z at *
      go_wp2
      refine wp_region_quiet_below (by kernel_rfl) (by kernel_rfl) ?_
      repeat (go_big_quiet_step ((go_at_call 26; with_reducible exact Calls.regrown_of (Rp.out _))))
      refine wpQuiet_nil ?_
      intro _ hw'
      obtain ⟨⟨dq, osq⟩, hw''⟩ := hw'
      subst hw''
      go_wp2
      go_roundg (l.length - (i + 1))
      case measure => omega
      case rel => exact ⟨i + 1, pre2, D.drop c, by omega, by omega, rfl, rfl, by first | rfl | simp, (show Aside _ from ⟨AB.out.trans ((below_regrown _ dq osq).mono AB.out.size), HN.out⟩)⟩
    · have hii : i = l.length := by omega
      subst hii
      have hpre : pre.length ≤ n := A.out.2.2.2.1
      have hpl := mkS_size pre
      have hdn := A.out.2.done
      have hsub : (n : Int) - (pre.length : Int) = ((n - pre.length : Nat) : Int) := by omega
      have Rp := Lib.hid (fun W => repeatZ_any (n - pre.length) W (by omega))
      have hct := mkS_cat pre (List.replicate (n - pre.length) 0) (by rw [List.length_replicate]; omega)
      rw [hdn] at hct
      have HA := Lib.hid A.out.1
      have hz1 : n - pre.length ≤ 4000 := by omega
      clear A hdn
      generalize mkS (List.replicate (n - pre.length) 0) = X2 at *
      generalize n - pre.length = z at *
      go_wp2_with (go_at_call 26; with_reducible refine (Rp.out _).mono ?_; rintro e w5 ⟨rfl, hb5⟩; have B5 := Lib.hid hb5; clear hb5)
      go_ret2
      exact ⟨rfl, HA.out.trans (B5.out.mono HA.out.size)⟩
end Go.Proofs.YtpkledmpldnhiaaDoor
