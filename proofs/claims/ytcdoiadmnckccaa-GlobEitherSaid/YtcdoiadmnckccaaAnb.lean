/- strings.IndexRune and ContainsAny at the two bytes '=' and newline, of any text. -/
import Derived.Test.YtcdoiadmnckccaaMk
import Derived.Test.YtcdoiadmnckccaaShelf
import Derived.Laws.RangeAny
import Derived.Laws.Runes
import Derived.Lib.OthersKept
import Derived.Shelf.Strings.IndexAnyAll
namespace Go.Proofs.Ytcdoiadmnckccaa
set_option linter.unusedVariables false
set_option linter.unusedSimpArgs false
open Go.RowKit Go.Joins

theorem validRune_any (r : Int) (w : World) : Calls Try.prog 61 #[.int .i32 r] w fun e w' => (∃ b, e = .returned (.bool b)) ∧ w' = w :=
  (Try.utf8_ValidRune r w).mono fun _ _ ⟨h1, h2⟩ => ⟨⟨_, h1⟩, h2⟩

theorem enc_two (r : Int) (h1 : 128 ≤ r) (h : (Utf8.encode r).size = 2) : ∃ a b : UInt8, Utf8.encode r = ⟨#[a, b]⟩ ∧ 128 ≤ b.toNat := by
  unfold Utf8.encode at h ⊢
  have hc : 128 ≤ (if Utf8.valid r then r.toNat else Utf8.runeError) := by split <;> (try unfold Utf8.runeError) <;> omega
  generalize (if Utf8.valid r then r.toNat else Utf8.runeError) = c at *
  simp only at h ⊢
  rw [if_neg (by omega)] at h ⊢
  by_cases h2 : c < 2048
  · rw [if_pos h2]
    exact ⟨_, _, rfl, by simp only [UInt8.toNat_ofNat']; omega⟩
  · rw [if_neg h2] at h
    by_cases h3 : c < 65536
    · rw [if_pos h3] at h; simp [ByteArray.size] at h
    · rw [if_neg h3] at h; simp [ByteArray.size] at h
theorem enc_more (r : Int) (h1 : 128 ≤ r) : 2 ≤ (Utf8.encode r).size ∧ (Utf8.encode r).size ≤ 4 := by
  unfold Utf8.encode
  have hc : 128 ≤ (if Utf8.valid r then r.toNat else Utf8.runeError) := by split <;> (try unfold Utf8.runeError) <;> omega
  generalize (if Utf8.valid r then r.toNat else Utf8.runeError) = c at *
  simp only
  rw [if_neg (by omega)]
  split
  · simp [ByteArray.size]
  · split <;> simp [ByteArray.size]

set_option maxRecDepth 100000 in
set_option maxHeartbeats 2000000 in
theorem runeErr_two (w : World) :
    Calls Try.prog 53 #[.string ⟨#[93, 92]⟩, .int .i32 65533] w fun e w' => e = .returned (.int .i64 (-1)) ∧ Below w.heap.size w w' := by
  have i0 : ∀ ty, (Instr.next (.pointer (some ⟨w.heap.size, 0, none⟩)) true ty).run Try.prog (w.iter ⟨#[93, 92]⟩ 0) = .ok (.tuple #[.bool true, .int .i64 0, .int .i32 93]) (w.iter ⟨#[93, 92]⟩ 1) := fun ty => run_next_ascii w ⟨#[93, 92]⟩ 0 ty (by decide) (by decide)
  have i1 : ∀ ty, (Instr.next (.pointer (some ⟨w.heap.size, 0, none⟩)) true ty).run Try.prog (w.iter ⟨#[93, 92]⟩ 1) = .ok (.tuple #[.bool true, .int .i64 1, .int .i32 92]) (w.iter ⟨#[93, 92]⟩ 2) := fun ty => run_next_ascii w ⟨#[93, 92]⟩ 1 ty (by decide) (by decide)
  have i2 : ∀ ty, (Instr.next (.pointer (some ⟨w.heap.size, 0, none⟩)) true ty).run Try.prog (w.iter ⟨#[93, 92]⟩ 2) = .ok (.tuple #[.bool false]) (w.iter ⟨#[93, 92]⟩ 2) := fun ty => run_next_end w ⟨#[93, 92]⟩ 2 ty (by decide)
  go_enter Try.func53, Try.ntmps53
  go_wp2
  refine wp_loop_rounds 3 ?_
  rw [rounds_succ]
  go_wp2
  rw [rounds_succ]
  go_wp2
  rw [rounds_succ]
  go_wp2
  go_ret
  exact ⟨rfl, (Below.refl _ w).alloc (Nat.le_refl _) _⟩

set_option maxRecDepth 100000 in
set_option maxHeartbeats 2000000 in
theorem rune_two (r : Int) (w : World) (h1 : 128 ≤ r) (h2 : r ≤ 1114111) (h3 : r ≠ 65533) :
    Calls Try.prog 53 #[.string ⟨#[93, 92]⟩, .int .i32 r] w fun e w' => e = .returned (.int .i64 (-1)) ∧ Below w.heap.size w w' := by
  have V := Lib.hid (fun w => validRune_any r w)
  have n1 : ¬ r < 128 := by omega
  have hE := enc_more r h1
  have hT := enc_two r h1
  have cv : ∀ w, (convert 21 9 (.int .i32 r)).run Try.prog w = .ok (.string (Utf8.encode r)) w := fun w => run_convert_int_string w 21 9 .i32 r (by rw [Try.underlying21]; rfl) Try.underlying9
  have HT := Lib.hid hT
  clear hT
  by_cases hz : (Utf8.encode r).size = 2
  · obtain ⟨a, b, hq, hb⟩ := HT.out hz
    clear hz hE
    rw [hq] at cv
    clear hq
    have x1 : ∀ w, (Instr.index 9 (.string ⟨#[93, 92]⟩) (.int .i64 1)).run Try.prog w = .ok (.int .u8 92) w := fun w => by kernel_rfl
    have x2 : ∀ w, (Instr.index 9 (.string ⟨#[a, b]⟩) (.int .i64 1)).run Try.prog w = .ok (.int .u8 b.toNat) w := fun w => by kernel_rfl
    have x3 : ∀ w, (Instr.slice 9 (.string ⟨#[93, 92]⟩) (some (.int .i64 2)) none none).run Try.prog w = .ok (.string ⟨#[]⟩) w := fun w => by kernel_rfl
    have x4 : Hid (∀ w, Calls Try.prog 24 #[.string { data := #[] }, .int .u8 (b.toNat : Int)] w fun e w' => e = .returned (.int .i64 (-1)) ∧ w' = w) := Lib.hid (fun w => Try.strings_IndexByte ⟨#[]⟩ b.toNat w)
    have b1 : ¬ (92 : Int) = (b.toNat : Int) := by omega
    go_enter Try.func53, Try.ntmps53
    go_wp2_with (go_at_call 61; refine (V.out _).mono ?_; rintro e w' ⟨⟨vb, rfl⟩, hw⟩; replace hw := hw.symm; subst hw)
    · go_ret
      exact ⟨rfl, Below.refl _ _⟩
    · go_step3
      go_wp2
      refine wp_loop_rounds 1 ?_
      rw [rounds_succ]
      go_wp2
      go_step3
      go_wp2
      go_region
      go_wp2
      have hb0 : Below w.heap.size w w.drew := (Below.refl _ w).drew
      generalize w.drew = W at hb0 ⊢
      go_quiet ((go_at_call 24; exact Calls.quiet_of_same (x4.out _)))
      go_wp2
      rw [Exit.noGoto_ret]
      go_wp2
      rw [Exit.noGoto_ret]
      go_ret
      exact ⟨rfl, hb0.trans (below_draws _ _ _)⟩
  · generalize Utf8.encode r = E at *
    have hs3 : (E.size : Int) - 1 ≥ 2 := by omega
    have hs4 : (E.size : Int) - 1 ≤ 3 := by omega
    go_enter Try.func53, Try.ntmps53
    go_wp2_with (go_at_call 61; refine (V.out _).mono ?_; rintro e w' ⟨⟨vb, rfl⟩, hw⟩; replace hw := hw.symm; subst hw)
    · go_ret
      exact ⟨rfl, Below.refl _ _⟩
    · go_step3
      go_wp2
      refine wp_loop_rounds 1 ?_
      rw [rounds_succ]
      go_wp2
      rw [Exit.noGoto_ret]
      go_ret
      exact ⟨rfl, Below.refl _ _⟩

theorem rune_ascii (b : UInt8) (hb : b.toNat < 128) (w : World) :
    Calls Try.prog 53 #[.string ⟨#[93, 92]⟩, .int .i32 b.toNat] w fun e w' => e = .returned (.int .i64 (Lib.indexByte [93, 92] b)) ∧ w' = w := by
  have h := Try.strings_IndexRune_ascii ⟨#[93, 92]⟩ b.toNat w (by omega) (by omega)
  have e : ((b.toNat : Int)).toNat.toUInt8 = b := by simp
  rwa [e] at h

/-- What ContainsAny asks of a key: a byte '=' or a newline. -/
def hasBad (k : List UInt8) : Bool := k.any fun c => c == 93 || c == 92
theorem hasBad_cons (c : UInt8) (k : List UInt8) : hasBad (c :: k) = ((c == 93 || c == 92) || hasBad k) := rfl
theorem idx2 (c : UInt8) : decide (0 ≤ Lib.indexByte [93, 92] c) = (c == 93 || c == 92) := by
  by_cases h : c = 93
  · subst h; rfl
  · by_cases h2 : c = 92
    · subst h2; rfl
    · have h' : (93 == c) = false := by rw [beq_eq_false_iff_ne]; exact fun e => h e.symm
      have h2' : (92 == c) = false := by rw [beq_eq_false_iff_ne]; exact fun e => h2 e.symm
      have e1 : (c == 93) = false := by simpa using h
      have e2 : (c == 92) = false := by simpa using h2
      simp [Lib.indexByte, h', h2', e1, e2]
/-- the bytes from pos on hold none. -/
def badFrom (l : List UInt8) (pos : Nat) : Bool := hasBad (l.drop pos)
theorem decode_w (s : ByteArray) (pos : Nat) (h : pos < s.size) (ha : 128 ≤ (s.get! (pos + 0)).toNat) :
    ∃ k, (Utf8.decode s pos).2 = k + 1 ∧ pos + k < s.size ∧ ∀ j, j ≤ k → 128 ≤ (s.get! (pos + j)).toNat := by
  have one : ∀ j, j ≤ 0 → 128 ≤ (s.get! (pos + j)).toNat := fun j hj => by
    obtain rfl : j = 0 := by omega
    exact ha
  simp only [Utf8.decode]
  rw [if_neg (by omega)]
  split
  · next h1 =>
    simp only [Bool.and_eq_true, decide_eq_true_eq, beq_iff_eq] at h1
    split
    · refine ⟨1, rfl, h1.2.1, fun j hj => ?_⟩
      rcases (show j = 0 ∨ j = 1 by omega) with rfl | rfl
      · exact ha
      · have := h1.2.2; omega
    · exact ⟨0, rfl, h, one⟩
  · split
    · next h1 =>
      simp only [Bool.and_eq_true, decide_eq_true_eq, beq_iff_eq] at h1
      split
      · refine ⟨2, rfl, h1.2.1, fun j hj => ?_⟩
        rcases (show j = 0 ∨ j = 1 ∨ j = 2 by omega) with rfl | rfl | rfl
        · exact ha
        · have := h1.1.2.2; omega
        · have := h1.2.2; omega
      · exact ⟨0, rfl, h, one⟩
    · split
      · next h1 =>
        simp only [Bool.and_eq_true, decide_eq_true_eq, beq_iff_eq] at h1
        split
        · refine ⟨3, rfl, h1.2.1, fun j hj => ?_⟩
          rcases (show j = 0 ∨ j = 1 ∨ j = 2 ∨ j = 3 by omega) with rfl | rfl | rfl | rfl
          · exact ha
          · have := h1.1.1.2.2; omega
          · have := h1.1.2.2; omega
          · have := h1.2.2; omega
        · exact ⟨0, rfl, h, one⟩
      · exact ⟨0, rfl, h, one⟩
theorem mkS_get (l : List UInt8) (i : Nat) (h : i < l.length) : (mkS l).get! i = l[i] := by
  show l.toArray[i]! = _
  simp [getElem!_pos, h]
theorem badFrom_step (l : List UInt8) (p : Nat) (h : p < l.length) : badFrom l p = ((l[p] == 93 || l[p] == 92) || badFrom l (p + 1)) := by
  unfold badFrom
  rw [List.drop_eq_getElem_cons h, hasBad_cons]
theorem high_good (c : UInt8) (h : 128 ≤ c.toNat) : (c == 93 || c == 92) = false := by
  have h1 : c ≠ 93 := by rintro rfl; exact absurd h (by decide)
  have h2 : c ≠ 92 := by rintro rfl; exact absurd h (by decide)
  simp [h1, h2]
theorem badFrom_run (l : List UInt8) (p : Nat) : ∀ k, p + k ≤ l.length → (∀ j, j < k → ∀ h : p + j < l.length, 128 ≤ l[p + j].toNat) → badFrom l (p + k) = badFrom l p
  | 0, _, _ => rfl
  | k + 1, hk, hj => by
    rw [← badFrom_run l p k (by omega) (fun j h1 => hj j (by omega)), badFrom_step l (p + k) (by omega), high_good _ (hj k (by omega) (by omega))]
    rfl
theorem decode_skip (l : List UInt8) (pos : Nat) (h : pos < l.length) (ha : 128 ≤ l[pos].toNat) :
    1 ≤ (Utf8.decode (mkS l) pos).2 ∧ pos + (Utf8.decode (mkS l) pos).2 ≤ l.length ∧ badFrom l (pos + (Utf8.decode (mkS l) pos).2) = badFrom l pos := by
  obtain ⟨k, h1, h2, h3⟩ := decode_w (mkS l) pos (by rw [mkS_size]; exact h) (by rw [Nat.add_zero, mkS_get l pos h]; exact ha)
  rw [mkS_size] at h2
  rw [h1]
  exact ⟨by omega, by omega, badFrom_run l pos (k + 1) (by omega) fun j hj hl => by have := h3 j (by omega); rwa [mkS_get l _ hl] at this⟩
theorem rune_bound (s : ByteArray) (pos : Nat) : (Utf8.decode s pos).1 ≤ 1114111 := by
  have hb : ∀ k, (s.get! (pos + k)).toNat < 256 := fun k => (s.get! (pos + k)).toNat_lt
  have h0 := hb 0; have h1 := hb 1; have h2 := hb 2; have h3 := hb 3
  simp only [Utf8.decode]
  repeat' split
  all_goals simp_all [Utf8.runeError, Utf8.valid]
  all_goals omega

/-- IndexRune at '=' and newline, at whatever rune stands at pos. -/
theorem rune_at (l : List UInt8) (pos : Nat) (h : pos < l.length) (w : World) :
    Calls Try.prog 53 #[.string ⟨#[93, 92]⟩, .int .i32 ((Utf8.decode (mkS l) pos).1 : Int)] w fun e w' => (∃ v : Int, e = .returned (.int .i64 v) ∧
      ((0 ≤ v ∧ badFrom l pos = true) ∨ (v < 0 ∧ 1 ≤ (Utf8.decode (mkS l) pos).2 ∧ pos + (Utf8.decode (mkS l) pos).2 ≤ l.length ∧ badFrom l (pos + (Utf8.decode (mkS l) pos).2) = badFrom l pos))) ∧ Below w.heap.size w w' := by
  by_cases ha : l[pos].toNat < 128
  · have hd : Utf8.decode (mkS l) pos = (l[pos].toNat, 1) := decode_ascii (mkS l) pos (by rw [mkS_size]; exact h) ha
    rw [hd]
    refine (rune_ascii l[pos] ha w).mono fun e w' ⟨he, hw⟩ => ⟨⟨_, he, ?_⟩, hw ▸ Below.refl _ _⟩
    have h2 := idx2 l[pos]
    rw [badFrom_step l pos h]
    by_cases h3 : 0 ≤ Lib.indexByte [93, 92] l[pos]
    · left
      rw [← h2, decide_eq_true h3]
      exact ⟨h3, rfl⟩
    · right
      rw [← h2, decide_eq_false h3]
      exact ⟨by omega, by show 1 ≤ 1; omega, h, rfl⟩
  · have hk := decode_skip l pos h (by omega)
    have hh := decode_high (mkS l) pos (by rw [mkS_size]; exact h) (show 128 ≤ l[pos].toNat by omega)
    have hb := rune_bound (mkS l) pos
    generalize Utf8.decode (mkS l) pos = q at *
    by_cases he : (q.1 : Int) = 65533
    · rw [he]
      exact (runeErr_two w).mono fun e w' ⟨h1, h2⟩ => ⟨⟨_, h1, Or.inr ⟨by omega, hk⟩⟩, h2⟩
    · exact (rune_two q.1 w (by omega) (by omega) he).mono fun e w' ⟨h1, h2⟩ => ⟨⟨_, h1, Or.inr ⟨by omega, hk⟩⟩, h2⟩
end Go.Proofs.Ytcdoiadmnckccaa
