/- block.Right and the reference's HeadRight: what each returns; the law BlockRights' walk. -/
import Derived.Test.YtapfkjdkpcgoiaaDoorSeal
import Derived.Test.YtapfkjdkpcgoiaaDoorReadL
namespace Go.Proofs.YtapfkjdkpcgoiaaDoor
open Go.RowKit

/-- the checksum's field. -/
def fieldS (s : ByteArray) : ByteArray := s.extract 148 156
theorem fieldS_size (s : ByteArray) (h : s.size = 512) : (fieldS s).size = 8 := by
  have : (fieldS s).data.toList.length = 8 := by
    unfold fieldS; rw [Lib.extract_data, List.length_take, List.length_drop]
    have : s.data.toList.length = 512 := by simpa using h
    omega
  simpa using this
theorem field_run (s : ByteArray) (h : s.size = 512) (w : World) : (Instr.slice 9 (.string s) (some (.int .i64 148)) (some (.int .i64 156)) none).run Tryd.prog w = .ok (.string (fieldS s)) w := by
  rw [run_slice_string w 9 s .i64 .i64 148 156 Tryd.underlying9 (by omega) (by omega) (by omega)]
  rfl
/-- A header's checksum is one of its two sums. -/
def rightP (s : ByteArray) : Prop := s.size = 512 ∧ (readS (fieldS s)).2 = 0 ∧ ((readS (fieldS s)).1 = sumH false s ∨ (readS (fieldS s)).1 = sumH true s)

set_option maxRecDepth 100000 in
set_option maxHeartbeats 1000000 in
theorem right_yes (s : ByteArray) (w : World) (h : rightP s) :
    Calls Tryd.prog 16 #[.string s] w fun e w' => e = .returned (.bool true) ∧ Below w.heap.size w w' := by
  obtain ⟨h1, h2, h3⟩ := h
  have q1 : ((s.size : Int) == 512) = true := by rw [beq_iff_eq]; omega
  have q2 : ((s.size : Int) != 512) = false := by rw [bne_eq_false_iff_eq]; omega
  have z := field_run s h1
  have hz := fieldS_size s h1
  have hm : (fieldS s).size ≤ 9223372036854775807 := by omega
  have hread : readS (fieldS s) = ((readS (fieldS s)).1, 0) := by rw [← h2]
  generalize (readS (fieldS s)).1 = n at hread h3
  have H := Lib.hid h1
  have Hr := Lib.hid hread
  have Hm := Lib.hid hm
  clear h1 h2 hz hread hm
  have h4 : (sumH false s == n) = true ∨ (sumH false s == n) = false ∧ (sumH true s == n) = true := by
    by_cases e : sumH false s = n
    · exact .inl (by rw [beq_iff_eq]; exact e)
    · exact .inr ⟨by rw [beq_eq_false_iff_ne]; exact e, by rw [beq_iff_eq]; rcases h3 with h3 | h3 <;> omega⟩
  clear h3
  rcases h4 with b1 | ⟨b1, b2⟩
  · go_enter Tryd.func16, Tryd.ntmps16
    go_wp2_with (go_at_call 38; refine (read_ok _ _ Hr.out _ Hm.out).mono ?_; rintro x w1 ⟨rfl, hb1⟩)
    refine wp_loop_rounds 1 ?_
    rw [rounds_succ]
    go_wp2_with (go_at_call 39; refine (sum_ok _ _ _ H.out).mono ?_; rintro x w2 ⟨rfl, hw⟩; replace hw := hw.symm; subst hw)
    go_ret
    exact ⟨rfl, hb1.alloc hb1.size _⟩
  · go_enter Tryd.func16, Tryd.ntmps16
    go_wp2_with (go_at_call 38; refine (read_ok _ _ Hr.out _ Hm.out).mono ?_; rintro x w1 ⟨rfl, hb1⟩)
    refine wp_loop_rounds 2 ?_
    rw [rounds_succ]
    go_wp2_with (go_at_call 39; refine (sum_ok _ _ _ H.out).mono ?_; rintro x w2 ⟨rfl, hw⟩; replace hw := hw.symm; subst hw)
    rw [rounds_succ]
    go_wp2_with (go_at_call 39; refine (sum_ok _ _ _ H.out).mono ?_; rintro x w2 ⟨rfl, hw⟩; replace hw := hw.symm; subst hw)
    go_ret
    exact ⟨rfl, hb1.alloc hb1.size _⟩

set_option maxRecDepth 100000 in
set_option maxHeartbeats 1000000 in
theorem right_no (s : ByteArray) (w : World) (_hs : s.size ≤ 9223372036854775807) (h : ¬ rightP s) :
    Calls Tryd.prog 16 #[.string s] w fun e w' => e = .returned (.bool false) ∧ Below w.heap.size w w' := by
  by_cases h1 : s.size = 512
  · have q1 : ((s.size : Int) == 512) = true := by rw [beq_iff_eq]; omega
    have q2 : ((s.size : Int) != 512) = false := by rw [bne_eq_false_iff_eq]; omega
    have z := field_run s h1
    have hz := fieldS_size s h1
    have hm : (fieldS s).size ≤ 9223372036854775807 := by omega
    have H := Lib.hid h1
    have Hm := Lib.hid hm
    rcases readS_any (fieldS s) with ⟨n, hread⟩ | ⟨e, he, hread⟩
    · have h5 : sumH false s ≠ n ∧ sumH true s ≠ n := by
        constructor
        · intro e; exact h ⟨h1, by rw [hread], .inl (by rw [hread]; exact e.symm)⟩
        · intro e; exact h ⟨h1, by rw [hread], .inr (by rw [hread]; exact e.symm)⟩
      have b1 : (sumH false s == n) = false := by rw [beq_eq_false_iff_ne]; exact h5.1
      have b2 : (sumH true s == n) = false := by rw [beq_eq_false_iff_ne]; exact h5.2
      have Hr := Lib.hid hread
      clear h1 h5 hz hread hm h
      go_enter Tryd.func16, Tryd.ntmps16
      go_wp2_with (go_at_call 38; refine (read_ok _ _ Hr.out _ Hm.out).mono ?_; rintro x w1 ⟨rfl, hb1⟩)
      refine wp_loop_rounds 3 ?_
      rw [rounds_succ]
      go_wp2_with (go_at_call 39; refine (sum_ok _ _ _ H.out).mono ?_; rintro x w2 ⟨rfl, hw⟩; replace hw := hw.symm; subst hw)
      rw [rounds_succ]
      go_wp2_with (go_at_call 39; refine (sum_ok _ _ _ H.out).mono ?_; rintro x w2 ⟨rfl, hw⟩; replace hw := hw.symm; subst hw)
      rw [rounds_succ]
      go_wp2
      go_ret
      exact ⟨rfl, hb1.alloc hb1.size _⟩
    · have Hr := Lib.hid hread
      have He := Lib.hid he
      clear h1 hz hread hm h he
      go_enter Tryd.func16, Tryd.ntmps16
      go_wp2_with (go_at_call 38; refine (read_err _ _ He.out Hr.out _ Hm.out).mono ?_; rintro x w1 ⟨rfl, hb1⟩)
      go_ret
      exact ⟨rfl, hb1⟩
  · have q1 : ((s.size : Int) == 512) = false := by rw [beq_eq_false_iff_ne]; omega
    have q2 : ((s.size : Int) != 512) = true := by rw [bne_iff_ne]; omega
    clear h1 h
    go_enter Tryd.func16, Tryd.ntmps16
    go_wp2
    go_ret
    exact ⟨rfl, Below.refl _ _⟩

end Go.Proofs.YtapfkjdkpcgoiaaDoor
