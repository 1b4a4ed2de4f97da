/- The keeps' laws PathSplit, PathUp: walks. -/
import Derived.Test.YtlgfdlfijfcfbabDoorWay
import Derived.Test.YtlgfdlfijfcfbabDoorHalf
import Derived.SizedLaws
namespace Go.Proofs.YtlgfdlfijfcfbabDoor
open Go.RowKit Go.Joins
set_option linter.unusedVariables false

theorem sEmp (x : List UInt8) : ((mkS x).toList == (mkS []).toList) = decide (x = []) := sEq x []

set_option maxHeartbeats 2000000 in
theorem pathSplit_walk (a : ByteArray) (za : a.size ≤ reachBytes) (w : World) :
    Calls Tryd.prog 3 #[.string a] w fun e w' => e = .returned (.bool true) ∧ Below w.heap.size w w' := by
  obtain ⟨l, rfl⟩ : ∃ k, a = mkS k := ⟨_, (mkS_self a).symm⟩
  have s1 := mkS_size l
  rw [s1] at za
  have hr := reachBytes_lt
  have W := Lib.hid (fun w => wayed_any w)
  by_cases h : (400 : Int) < (l.length : Int)
  · go_enter Tryd.func3, Tryd.ntmps3
    go_wp2_with (go_at_call 7; with_reducible refine (W.out _).mono ?_; rintro e w1 ⟨rfl, h1⟩)
    go_ret
    exact ⟨rfl, h1⟩
  · have C := Lib.hid (fun w => split_any l (by omega) w)
    have hlit0 : (⟨#[]⟩ : ByteArray) = mkS [] := rfl
    have hlit : (⟨#[47]⟩ : ByteArray) = mkS [47] := rfl
    go_enter Tryd.func3, Tryd.ntmps3
    go_wp2_with fail
    go_at_call 7
    refine (W.out _).mono ?_
    rintro e w1 ⟨rfl, h1⟩
    go_wp2_with fail
    go_at_call 8
    refine (C.out _).mono ?_
    rintro e w2 ⟨x, y, k, hI, rfl, h2⟩
    have HB := Lib.hid (h1.trans (h2.mono h1.size))
    clear h1 h2 C W
    rcases hI with ⟨h0, rfl, rfl, rfl⟩ | ⟨h0, ⟨i, hi, hno, rfl, rfl, rfl⟩ | ⟨hn, rfl, rfl, rfl⟩⟩
    · have h0' : ((y.length : Nat) : Int) ≤ 100 := by omega
      go_wp2
      go_ret
      exact ⟨by simp, HB.out⟩
    · obtain ⟨i1, i2, i3, i4, i5⟩ := hi
      have hx := sEmp (l.take i)
      have hy := sEmp (l.drop (i + 1))
      have hil := (List.getElem?_eq_some_iff.1 i3).1
      rw [decide_eq_false (fun e => by have := congrArg List.length e; rw [List.length_take, List.length_nil] at this; omega)] at hx
      rw [decide_eq_false (fun e => by have := congrArg List.length e; rw [List.length_drop, List.length_nil] at this; omega)] at hy
      have hy' : ((mkS (l.drop (i + 1))).toList != (mkS []).toList) = true := by rw [bne, hy]; rfl
      have c1 := fun w => mkS_cat (l.take i) [47] (by simp; omega) w
      have c2 := fun w => mkS_cat (l.take i ++ [47]) (l.drop (i + 1)) (by simp; omega) w
      rw [show l.take i ++ [47] ++ l.drop (i + 1) = l by rw [List.append_assoc]; exact take_slash l i i3] at c2
      have z1 := mkS_size (l.take i)
      have z2 := mkS_size (l.drop (i + 1))
      have z3 : ((l.take i).length : Int) ≤ 155 := by simp; omega
      have z4 : ((l.drop (i + 1)).length : Int) ≤ 100 := by simp; omega
      have e0 : ((mkS l).toList == (mkS l).toList) = true := by simp
      generalize l.take i = x at *
      generalize l.drop (i + 1) = y at *
      clear i3 i4 i5 hno
      go_wp2
      go_ret
      exact ⟨by simp, HB.out⟩
    · have h0' : (100 : Int) < (l.length : Int) := by omega
      clear hn
      go_wp2
      go_ret
      exact ⟨by simp, HB.out⟩

theorem up_len (a : List UInt8) (ha : rightB a = true) : (partsL (upL a).1).length = (partsL a).length - 1 := by
  rw [up_parts a ha, List.length_dropLast]

set_option maxHeartbeats 4000000 in
theorem pathUp_walk (a : ByteArray) (za : a.size ≤ reachBytes) (w : World) :
    Calls Tryd.prog 6 #[.string a] w fun e w' => e = .returned (.bool true) ∧ Below w.heap.size w w' := by
  obtain ⟨l, rfl⟩ : ∃ k, a = mkS k := ⟨_, (mkS_self a).symm⟩
  have s1 := mkS_size l
  have W := Lib.hid (fun w => wayed_any w)
  have R := Lib.hid (fun w => right_any l w)
  by_cases hr : rightB l = true
  · rw [hr] at R
    have hl := (right_facts l hr).2.1
    have hlen := up_len l hr
    have U := Lib.hid (fun w => up_any l (by omega) w)
    have hf := up_facts l hr
    have hul : (upL l).1.length ≤ l.length := by
      rcases hf with ⟨h1, _⟩ | ⟨h1, _⟩
      · have := congrArg List.length h1; simp at this; omega
      · rw [h1]; simp
    have P1 := Lib.hid (fun n hn w => parts_n l (by omega) (partsL l) rfl n hn w)
    have P2 := Lib.hid (fun n hn w => parts_n (upL l).1 (by omega) (partsL (upL l).1) rfl n hn w)
    have RD := Lib.hid (fun w => right_any (upL l).1 w)
    have I := Lib.hid (fun w => in_any l (upL l).1 (by omega) w)
    have hin : inB l (upL l).1 = true := by
      rcases hf with ⟨h1, h2, _⟩ | ⟨h1, _⟩
      · unfold inB
        rw [decide_eq_true_eq]
        exact .inr (.inr ⟨(upL l).2, by rw [List.append_assoc]; exact h1⟩)
      · rw [h1]; simp [inB]
    rw [hin] at I
    have hx7 : 1 ≤ (partsL l).length := List.length_pos_iff.2 (right_facts l hr).2.2.2.2.2.2.1
    have hx8 := (right_facts l hr).2.2.2.2.2.2.2
    generalize partsL l = X at *
    generalize partsL (upL l).1 = Y at *
    obtain ⟨n, hn⟩ : ∃ n, X.length = n + 1 := ⟨X.length - 1, by omega⟩
    have hny : Y.length = n := by omega
    have P1 := Lib.hid (P1.out (n + 1) hn)
    have P2 := Lib.hid (P2.out n hny)
    have hn12 : n ≤ 12 := by omega
    have hlit0 : (⟨#[]⟩ : ByteArray) = mkS [] := rfl
    have hlit : (⟨#[47]⟩ : ByteArray) = mkS [47] := rfl
    have e0 : ((mkS l).toList == (mkS l).toList) = true := by simp
    clear hr hlen hin hn hny hx7 hx8
    generalize (upL l).1 = x at *
    generalize (upL l).2 = y at *
    have hx := sEmp x
    rcases hf with ⟨h1, h2, h3⟩ | ⟨h1, h2, h3⟩
    · rw [decide_eq_false h2] at hx
      have hx' : ((mkS x).toList != (mkS []).toList) = true := by rw [bne, hx]; rfl
      rw [h3] at RD
      have c1 := fun w => mkS_cat x [47] (by simp; omega) w
      have c2 := fun w => mkS_cat (x ++ [47]) y (by have := congrArg List.length h1; simp at this ⊢; omega) w
      rw [show x ++ [47] ++ y = l by rw [List.append_assoc]; exact h1] at c2
      clear h1 h2 h3
      go_enter Tryd.func6, Tryd.ntmps6
      go_wp2_with (first
        | (go_at_call 7; with_reducible refine (W.out _).mono ?_; rintro e w1 ⟨rfl, h1⟩)
        | (go_at_call 13; with_reducible refine (R.out _).mono ?_; rintro e w2 ⟨rfl, h2⟩)
        | (go_at_call 14; with_reducible refine (U.out _).mono ?_; rintro e w3 ⟨rfl, h3⟩)
        | (go_at_call 12; with_reducible refine (I.out _).mono ?_; rintro e w' ⟨rfl, rfl⟩)
        | (go_at_call 10; with_reducible refine (P2.out _).mono ?_; rintro e w4 ⟨⟨d1, c1', rfl, _, _⟩, h4⟩)
        | (go_at_call 10; with_reducible refine (P1.out _).mono ?_; rintro e w5 ⟨⟨d2, c2', rfl, _, _⟩, h5⟩)
        | (go_at_call 13; with_reducible refine (RD.out _).mono ?_; rintro e w6 ⟨rfl, h6⟩))
      go_ret
      exact ⟨by simp, h1.trans ((h2.trans ((h3.trans ((h4.trans ((h5.trans (h6.mono h5.size)).mono h4.size)).mono h3.size)).mono h2.size)).mono h1.size)⟩
    · subst h1; subst h2
      rw [decide_eq_true rfl] at hx
      have hx' : ((mkS []).toList != (mkS []).toList) = false := by rw [bne, hx]; rfl
      clear h3
      go_enter Tryd.func6, Tryd.ntmps6
      go_wp2_with (first
        | (go_at_call 7; with_reducible refine (W.out _).mono ?_; rintro e w1 ⟨rfl, h1⟩)
        | (go_at_call 13; with_reducible refine (R.out _).mono ?_; rintro e w2 ⟨rfl, h2⟩)
        | (go_at_call 14; with_reducible refine (U.out _).mono ?_; rintro e w3 ⟨rfl, h3⟩)
        | (go_at_call 12; with_reducible refine (I.out _).mono ?_; rintro e w' ⟨rfl, rfl⟩)
        | (go_at_call 10; with_reducible refine (P2.out _).mono ?_; rintro e w4 ⟨⟨d1, c1', rfl, _, _⟩, h4⟩)
        | (go_at_call 10; with_reducible refine (P1.out _).mono ?_; rintro e w5 ⟨⟨d2, c2', rfl, _, _⟩, h5⟩))
      go_ret
      exact ⟨by simp, h1.trans ((h2.trans ((h3.trans ((h4.trans (h5.mono h4.size)).mono h3.size)).mono h2.size)).mono h1.size)⟩
  · rw [show rightB l = false by simpa using hr] at R
    clear hr
    go_enter Tryd.func6, Tryd.ntmps6
    go_wp2_with (first
      | (go_at_call 7; with_reducible refine (W.out _).mono ?_; rintro e w1 ⟨rfl, h1⟩)
      | (go_at_call 13; with_reducible refine (R.out _).mono ?_; rintro e w2 ⟨rfl, h2⟩))
    go_ret
    exact ⟨rfl, h1.trans (h2.mono h1.size)⟩
end Go.Proofs.YtlgfdlfijfcfbabDoor
