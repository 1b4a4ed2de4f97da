/- number.Read: what it returns. -/
import Derived.Test.YtapfkjdkpcgoiaaDoorPlainR
import Derived.Test.YtapfkjdkpcgoiaaDoorWr
import Derived.Shelf.Strings.SlTrimAscii
namespace Go.Proofs.YtapfkjdkpcgoiaaDoor
open Go.RowKit

/-- A number and an error. -/
def NumErr (p : Int × Int) (e : Ending) : Prop := e = .returned (.tuple #[.int .i64 p.1, errV p.2])

theorem readOctal_any (s : ByteArray) (w : World) (hs : s.size ≤ 9223372036854775807) :
    Calls Tryd.prog 56 #[.string s] w fun e w' => NumErr (roF 0 s.data.toList) e ∧ w' = w := by
  go_enter Tryd.func56, Tryd.ntmps56
  go_wp2
  go_loop [4, 8] (fun v i => ∃ (k : Nat) (n : Int), k ≤ s.size ∧ i = .int .i64 k ∧ v = .int .i64 n ∧ 0 ≤ n ∧ n ≤ 9223372036854775807 ∧ roF 0 s.data.toList = roF n (s.data.toList.drop k)) (fun _ i => s.size - (intOf i).toNat)
  case atStart => exact ⟨0, 0, by omega, rfl, rfl, by omega, by omega, rfl⟩
  case round =>
    obtain ⟨k, n, hk, rfl, rfl, hn1, hn2, hr⟩ := hrel
    have Hr := Lib.hid hr
    clear hr
    by_cases hlt : k < s.size
    · have hd := drop_get s k hlt
      have Hd := Lib.hid hd
      clear hd
      by_cases h1 : (s[k].toNat : Int) < 48
      · go_wp2
        go_ret2
        exact ⟨by unfold NumErr; rw [Hr.out, Hd.out, roF_bad (.inl h1)]; rfl, rfl⟩
      · by_cases h2 : 55 < (s[k].toNat : Int)
        · go_wp2
          go_ret2
          exact ⟨by unfold NumErr; rw [Hr.out, Hd.out, roF_bad (.inr h2)]; rfl, rfl⟩
        · have h3 : decide (55 < (s[k].toNat : Int)) = false := by simpa using h2
          by_cases h4 : 1152921504606846976 ≤ n
          · go_wp2
            go_ret2
            exact ⟨by unfold NumErr; rw [Hr.out, Hd.out, roF_big (by omega) h4]; rfl, rfl⟩
          · have ho := or_8 n ((s[k].toNat : Int) - 48) hn1 (by omega) (by omega) (by omega)
            have h5 : n * 8 + ((s[k].toNat : Int) - 48) ≤ 9223372036854775807 := by omega
            have h6 : 0 ≤ n * 8 + ((s[k].toNat : Int) - 48) := by omega
            go_wp2
            go_round
            case rel => exact ⟨k + 1, _, by omega, by go_num, rfl, h6, h5, by rw [Hr.out, Hd.out, roF_go (by omega) h4]⟩
            case measure => simp [intOf]; omega
    · obtain rfl : k = s.size := by omega
      go_wp2
      go_ret2
      exact ⟨by unfold NumErr; rw [Hr.out, drop_end]; rfl, rfl⟩

theorem firstF_range (c : UInt8) (h : 128 ≤ (c.toNat : Int)) : -1 ≤ firstF c ∧ firstF c ≤ 126 := by
  have := c.toNat_lt
  unfold firstF; split <;> omega

/-- base 256 read off a string whose first byte is 128 or more. -/
def rbS (s : ByteArray) : Int × Int := rbF (firstF (s.data.toList.headD 0)) (s.data.toList.drop 1)

set_option maxHeartbeats 1000000 in
theorem readBinary_any (s : ByteArray) (w : World) (h0 : 0 < s.size) (hs : s.size ≤ 9223372036854775807) (hc : 128 ≤ (s[0].toNat : Int)) :
    Calls Tryd.prog 55 #[.string s] w fun e w' => NumErr (rbS s) e ∧ w' = w := by
  have hr0 := firstF_range s[0] hc
  obtain ⟨hr1, hr2⟩ := hr0
  have hS : rbS s = rbF (firstF s[0]) (s.data.toList.drop 1) := by
    unfold rbS
    have := drop_get s 0 h0
    rw [List.drop_zero] at this
    rw [show s.data.toList.headD 0 = s[0] by rw [this]; rfl]
  have HS := Lib.hid hS
  clear hS
  have hu : (s[0].toNat : Int) ≤ 255 := by have := s[0].toNat_lt; omega
  have hcase : ((s[0].toNat : Int) == 255) = true ∧ firstF s[0] = -1 ∨ ((s[0].toNat : Int) == 255) = false ∧ firstF s[0] = (s[0].toNat : Int) - 128 := by
    unfold firstF
    by_cases h : (s[0].toNat : Int) = 255
    · exact .inl ⟨by rw [beq_iff_eq]; exact h, by rw [if_pos h]⟩
    · exact .inr ⟨by rw [beq_eq_false_iff_ne]; exact h, by rw [if_neg h]⟩
  rcases hcase with ⟨q1, q2⟩ | ⟨q1, q2⟩
  all_goals
    have Q2 := Lib.hid q2
    clear q2
    go_enter Tryd.func55, Tryd.ntmps55
    go_wp2
    go_loop [4, 16] (fun v i => ∃ (k : Nat) (n : Int), k ≤ s.size - 1 ∧ i = .int .i64 k ∧ v = .int .i64 n ∧ -9223372036854775808 ≤ n ∧ n ≤ 9223372036854775807 ∧ rbS s = rbF n (s.data.toList.drop (k + 1))) (fun _ i => s.size - (intOf i).toNat)
    case atStart => exact ⟨0, firstF s[0], by omega, rfl, by rw [Q2.out], by omega, by omega, HS.out⟩
    case round =>
      obtain ⟨k, n, hk, rfl, rfl, hn1, hn2, hr⟩ := hrel
      have Hr := Lib.hid hr
      clear hr
      by_cases hlt : k < s.size - 1
      · have hlt3 : k + 1 < s.size := by omega
        have hlt2 : (k : Int) < (s.size : Int) - 1 := by omega
        have hd := drop_get s (k + 1) hlt3
        have Hd := Lib.hid hd
        clear hd
        by_cases h1 : n < -36028797018963968
        · go_wp2
          go_ret2
          exact ⟨by unfold NumErr; rw [Hr.out, Hd.out, rbF_big (.inl h1)]; rfl, rfl⟩
        · by_cases h2 : 36028797018963967 < n
          · go_wp2
            go_ret2
            exact ⟨by unfold NumErr; rw [Hr.out, Hd.out, rbF_big (.inr h2)]; rfl, rfl⟩
          · have h3 : decide (36028797018963967 < n) = false := by simpa using h2
            have hu2 : (s[k + 1].toNat : Int) ≤ 255 := by have := s[k + 1].toNat_lt; omega
            have ho := or_256 n (s[k + 1].toNat : Int) (by omega) (by omega) (by omega) (by omega)
            have h5 : n * 256 + (s[k + 1].toNat : Int) ≤ 9223372036854775807 := by omega
            have h6 : -9223372036854775808 ≤ n * 256 + (s[k + 1].toNat : Int) := by omega
            go_wp2
            go_round
            case rel => exact ⟨k + 1, _, by omega, by go_num, rfl, h6, h5, by rw [Hr.out, Hd.out, rbF_go (by omega)]⟩
            case measure => simp [intOf]; omega
      · obtain rfl : k = s.size - 1 := by omega
        have hnl : ¬ ((s.size - 1 : Nat) : Int) < (s.size : Int) - 1 := by omega
        go_wp2
        go_ret2
        exact ⟨by unfold NumErr; rw [Hr.out, show s.size - 1 + 1 = s.size by omega, drop_end]; rfl, rfl⟩

theorem Tryd.infoSet : (Tryd.prog.info? 131).map (fun i => (i.zero, i.size)) = some (some (.agg (Array.replicate 256 (.bool false))), 256) := by kernel_rfl
theorem ascii_of : ∀ (j : Nat) b, (⟨#[32, 0]⟩ : ByteArray).data.toList[j]? = some b → b.toNat < 128 := by
  intro j b h
  match j with
  | 0 => simp at h; subst h; decide
  | 1 => simp at h; subst h; decide
  | j + 2 => simp at h

theorem trimLeft_any (s : ByteArray) (w : World) :
    Calls Tryd.prog 58 #[.string s, .string ⟨#[32]⟩] w fun e w' => e = .returned (.string ⟨(trimL s.data.toList).toArray⟩) ∧ w' = w :=
  Any.strings_TrimLeft_one Tryd.lays161 s 32 (by decide) w
theorem trimRight_any (s : ByteArray) (w : World) (hs : s.size ≤ 9223372036854775807) :
    Calls Tryd.prog 57 #[.string s, .string ⟨#[32, 0]⟩] w fun e w' => e = .returned (.string ⟨(trimR s.data.toList).toArray⟩) ∧ Below w.heap.size w w' :=
  Any.strings_TrimRight_laid Tryd.lays162 Tryd.infoSet s ⟨#[32, 0]⟩ w hs (by decide) ascii_of

theorem trimL_len (l : List UInt8) : (trimL l).length ≤ l.length := by
  unfold trimL Lib.trimLeftB; exact (List.dropWhile_sublist _).length_le
theorem trimR_len (l : List UInt8) : (trimR l).length ≤ l.length := by
  unfold trimR Lib.trimRightS
  rw [List.length_reverse]
  exact Nat.le_trans (List.dropWhile_sublist _).length_le (by simp)

def readS (s : ByteArray) : Int × Int := readF s.data.toList

set_option maxRecDepth 100000 in
set_option maxHeartbeats 1000000 in
theorem read_any (s : ByteArray) (w : World) (hs : s.size ≤ 9223372036854775807) :
    Calls Tryd.prog 38 #[.string s] w fun e w' => NumErr (readS s) e ∧ Below w.heap.size w w' := by
  by_cases h0 : s.size = 0
  · have hl : s.data.toList = [] := by
      apply List.eq_nil_of_length_eq_zero; simpa using h0
    have hl2 : s.toList = [] := by rw [ByteArray.toList_eq]; exact hl
    have Hl := Lib.hid hl
    clear hl h0
    go_enter Tryd.func38, Tryd.ntmps38
    go_wp2
    go_ret2
    exact ⟨by unfold NumErr readS; rw [Hl.out]; rfl, Below.refl _ _⟩
  · have h1 : 0 < s.size := by omega
    have hd : s.data.toList = s[0] :: s.data.toList.drop 1 := drop_get s 0 h1
    have hl2 : s.toList.isEmpty = false := by rw [ByteArray.toList_eq, hd]; rfl
    have hl3 : (s.toList == []) = false := by rw [ByteArray.toList_eq, hd]; rfl
    have Hd := Lib.hid hd
    clear hd h0
    have hz1 := trimL_len s.data.toList
    have hz2 := trimR_len (trimL s.data.toList)
    have hz3 : s.data.toList.length = s.size := by simp
    have hz4 : (⟨(trimL s.data.toList).toArray⟩ : ByteArray).size ≤ 9223372036854775807 := by show (trimL s.data.toList).toArray.size ≤ _; rw [List.size_toArray]; omega
    have hz5 : (⟨(trimR (trimL s.data.toList)).toArray⟩ : ByteArray).size ≤ 9223372036854775807 := by show (trimR (trimL s.data.toList)).toArray.size ≤ _; rw [List.size_toArray]; omega
    have Hz4 := Lib.hid hz4
    have Hz5 := Lib.hid hz5
    clear hz1 hz2 hz3 hz4 hz5
    by_cases hc : 128 ≤ (s[0].toNat : Int)
    · have hS : readS s = rbS s := by
        unfold readS rbS
        have h := Hd.out
        rw [show s.data.toList.headD 0 = s[0] by rw [h]; rfl]
        rw [show readF s.data.toList = readF (s[0] :: s.data.toList.drop 1) by rw [← h]]
        rw [readF_bin _ _ (by omega)]
      have HS := Lib.hid hS
      clear hS
      go_enter Tryd.func38, Tryd.ntmps38
      go_wp2_with (go_at_call 55; refine (readBinary_any _ _ h1 hs hc).mono ?_; rintro e w' ⟨he, rfl⟩; unfold NumErr at he; subst he)
      go_ret2
      exact ⟨by unfold NumErr; rw [HS.out]; rfl, Below.refl _ _⟩
    · have hS : readS s = roF 0 (trimR (trimL s.data.toList)) := by
        unfold readS
        have h := Hd.out
        rw [show readF s.data.toList = readF (s[0] :: s.data.toList.drop 1) by rw [← h]]
        rw [readF_oct _ _ (by omega), ← h]
      have HS := Lib.hid hS
      clear hS
      go_enter Tryd.func38, Tryd.ntmps38
      go_wp2_with (first
        | (go_at_call 58; refine (trimLeft_any _ _).mono ?_; rintro e w' ⟨rfl, rfl⟩)
        | (go_at_call 57; refine (trimRight_any _ _ Hz4.out).mono ?_; rintro e w1 ⟨rfl, hb⟩)
        | (go_at_call 56; refine (readOctal_any _ _ Hz5.out).mono ?_; rintro e w' ⟨he, rfl⟩; unfold NumErr at he; subst he))
      go_ret2
      exact ⟨by unfold NumErr; rw [HS.out]; rfl, hb⟩

theorem roF_err : ∀ (l : List UInt8) (n : Int), (roF n l).2 ≠ 0 → (roF n l).1 = 0
  | [], n, h => absurd rfl h
  | c :: l, n, h => by
    unfold roF at h ⊢
    split
    · rfl
    · split
      · rfl
      · rename_i h1 h2
        rw [if_neg h1, if_neg h2] at h
        exact roF_err l _ h
theorem rbF_err : ∀ (l : List UInt8) (n : Int), (rbF n l).2 ≠ 0 → (rbF n l).1 = 0
  | [], n, h => absurd rfl h
  | c :: l, n, h => by
    unfold rbF at h ⊢
    split
    · rfl
    · rename_i h1
      rw [if_neg h1] at h
      exact rbF_err l _ h
theorem readF_err (l : List UInt8) (h : (readF l).2 ≠ 0) : (readF l).1 = 0 := by
  unfold readF at h ⊢
  split
  · rfl
  · rename_i c r
    simp only at h
    split
    · rename_i hc; rw [if_pos hc] at h; exact rbF_err _ _ h
    · rename_i hc; rw [if_neg hc] at h; exact roF_err _ _ h

/-- It is a number. -/
theorem read_ok (s : ByteArray) (n : Int) (h : readS s = (n, 0)) (w : World) (hs : s.size ≤ 9223372036854775807) :
    Calls Tryd.prog 38 #[.string s] w fun e w' => e = .returned (.tuple #[.int .i64 n, .nilIface]) ∧ Below w.heap.size w w' :=
  (read_any s w hs).mono fun _ _ ⟨a, b⟩ => ⟨by unfold NumErr at a; rw [a, h]; rfl, b⟩
/-- It is none. -/
theorem read_err (s : ByteArray) (e : Int) (he : e ≠ 0) (h : readS s = (0, e)) (w : World) (hs : s.size ≤ 9223372036854775807) :
    Calls Tryd.prog 38 #[.string s] w fun x w' => x = .returned (.tuple #[.int .i64 0, .iface 25 (.int .i64 e)]) ∧ Below w.heap.size w w' :=
  (read_any s w hs).mono fun _ _ ⟨a, b⟩ => ⟨by unfold NumErr at a; rw [a, h]; unfold errV; rw [if_neg he], b⟩
/-- One of the two. -/
theorem readS_any (s : ByteArray) : (∃ n, readS s = (n, 0)) ∨ ∃ e, e ≠ 0 ∧ readS s = (0, e) := by
  by_cases h : (readS s).2 = 0
  · exact .inl ⟨(readS s).1, by rw [← h]⟩
  · exact .inr ⟨(readS s).2, h, by rw [← readF_err s.data.toList h]; rfl⟩
end Go.Proofs.YtapfkjdkpcgoiaaDoor
