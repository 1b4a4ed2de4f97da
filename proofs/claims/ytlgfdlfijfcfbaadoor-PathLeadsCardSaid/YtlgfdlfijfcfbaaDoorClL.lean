/- The laws PathCleans' and PathLeads' walks; the reference's To. -/
import Derived.Test.YtlgfdlfijfcfbaaDoorClr
import Derived.Test.YtlgfdlfijfcfbaaDoorToP
import Derived.Test.YtlgfdlfijfcfbaaDoorUpR
import Derived.SizedLaws
namespace Go.Proofs.YtlgfdlfijfcfbaaDoor
open Go.RowKit Go.Joins
set_option linter.unusedVariables false

set_option maxHeartbeats 1000000 in
theorem pathCleans_walk (a : ByteArray) (za : a.size ≤ reachBytes) (w : World) :
    Calls Tryd.prog 4 #[.string a] w fun e w' => e = .returned (.bool true) ∧ Below w.heap.size w w' := by
  obtain ⟨l, rfl⟩ : ∃ k, a = mkS k := ⟨_, (mkS_self a).symm⟩
  have s1 := mkS_size l
  rw [s1] at za
  have hr := reachBytes_lt
  by_cases h : (200 : Int) < (l.length : Int)
  · go_enter Tryd.func4, Tryd.ntmps4
    go_wp2
    go_ret
    exact ⟨rfl, Below.refl _ _⟩
  · have C1 := Lib.hid (fun w => clean_any l (by omega) w)
    have C2 := Lib.hid (fun w => refClean_any l (by omega) w)
    generalize cleanL l = c at *
    obtain ⟨x, ok⟩ := c
    go_enter Tryd.func4, Tryd.ntmps4
    go_wp2_with (first
      | (go_at_call 16; with_reducible refine (C1.out _).mono ?_; rintro e w1 ⟨rfl, h1⟩)
      | (go_at_call 15; with_reducible refine (C2.out _).mono ?_; rintro e w2 ⟨rfl, h2⟩))
    go_ret
    exact ⟨by simp, h2.trans (h1.mono h2.size)⟩

set_option maxHeartbeats 2000000 in
theorem refTo_any (n k : List UInt8) (hn : n.length ≤ 4000) (hk : k.length ≤ 4000) (w : World) :
    Calls Tryd.prog 22 #[.string (mkS n), .string (mkS k)] w fun e w' => e = .returned (txB (toL n k)) ∧ Below w.heap.size w w' := by
  have s1 := mkS_size k
  by_cases h : k.head? = some 47
  · have C := Lib.hid (fun w => refClean_any k (by omega) w)
    have HT := Lib.hid (show toL n k = cleanL k by unfold toL; rw [if_pos h])
    have hidx := fun w => mkS_index k 0 47 (by omega) (by cases k with
      | nil => simp at h
      | cons c r => simpa using h) w
    have hpos : (0 : Int) < (k.length : Int) := by
      cases k with
      | nil => simp at h
      | cons c r => simp
    have hpn : 0 < k.length := by omega
    generalize (cleanL k) = c at *
    obtain ⟨c, ok⟩ := c
    clear h
    go_enter Tryd.func22, Tryd.ntmps22
    go_wp2_with (go_at_call 15; with_reducible refine (C.out _).mono ?_; rintro e w1 ⟨rfl, h1⟩)
    go_ret2
    exact ⟨by rw [HT.out]; rfl, h1⟩
  · have U := Lib.hid (fun w => refUp_any n (by omega) w)
    have hul := up_le n
    have HT := Lib.hid (show toL n k = cleanL ((upL n).1 ++ 47 :: k) by unfold toL; rw [if_neg h])
    generalize (upL n).2 = y at *
    generalize (upL n).1 = x at *
    have c1 := fun w => mkS_cat x [47] (by simp; omega) w
    have c2 := fun w => mkS_cat (x ++ [47]) k (by simp; omega) w
    rw [show x ++ [47] ++ k = x ++ 47 :: k by simp] at c2
    have C := Lib.hid (fun w => refClean_any (x ++ 47 :: k) (by simp; omega) w)
    generalize (cleanL (x ++ 47 :: k)) = c at *
    obtain ⟨c, ok⟩ := c
    have hlit : (⟨#[47]⟩ : ByteArray) = mkS [47] := rfl
    cases k with
    | nil =>
      clear h
      go_enter Tryd.func22, Tryd.ntmps22
      go_wp2_with (first
        | (go_at_call 38; with_reducible refine (U.out _).mono ?_; rintro e w1 ⟨rfl, h1⟩)
        | (go_at_call 15; with_reducible refine (C.out _).mono ?_; rintro e w2 ⟨rfl, h2⟩))
      go_ret2
      exact ⟨by rw [HT.out]; rfl, h1.trans (h2.mono h1.size)⟩
    | cons b r =>
      have hidx := fun w => mkS_index (b :: r) 0 b (by omega) (by simp) w
      have hne : ((b.toNat : Int) == 47) = false := by
        rw [beq_eq_false_iff_ne]
        intro e
        exact h (by rw [UInt8.toNat_inj.1 (show b.toNat = (47 : UInt8).toNat by show b.toNat = 47; omega)]; rfl)
      have hpos : (0 : Int) < ((b :: r).length : Int) := by simp
      have hpn : 0 < (b :: r).length := by simp
      clear h
      generalize b :: r = k at *
      go_enter Tryd.func22, Tryd.ntmps22
      go_wp2_with (first
        | (go_at_call 38; with_reducible refine (U.out _).mono ?_; rintro e w1 ⟨rfl, h1⟩)
        | (go_at_call 15; with_reducible refine (C.out _).mono ?_; rintro e w2 ⟨rfl, h2⟩))
      go_ret2
      exact ⟨by rw [HT.out]; rfl, h1.trans (h2.mono h1.size)⟩

set_option maxHeartbeats 1000000 in
theorem pathLeads_walk (a : ByteArray) (za : a.size ≤ reachBytes) (b : ByteArray) (zb : b.size ≤ reachBytes) (w : World) :
    Calls Tryd.prog 7 #[.string a, .string b] w fun e w' => e = .returned (.bool true) ∧ Below w.heap.size w w' := by
  obtain ⟨n, rfl⟩ : ∃ k, a = mkS k := ⟨_, (mkS_self a).symm⟩
  obtain ⟨k, rfl⟩ : ∃ k, b = mkS k := ⟨_, (mkS_self b).symm⟩
  have s1 := mkS_size n
  have s2 := mkS_size k
  rw [s1] at za
  rw [s2] at zb
  have hr := reachBytes_lt
  by_cases h : (400 : Int) < (n.length : Int) + (k.length : Int)
  · go_enter Tryd.func7, Tryd.ntmps7
    go_wp2
    go_ret
    exact ⟨rfl, Below.refl _ _⟩
  · have C1 := Lib.hid (fun w => to_any n k (by omega) (by omega) w)
    have C2 := Lib.hid (fun w => refTo_any n k (by omega) (by omega) w)
    generalize toL n k = c at *
    obtain ⟨x, ok⟩ := c
    go_enter Tryd.func7, Tryd.ntmps7
    go_wp2_with (first
      | (go_at_call 23; with_reducible refine (C1.out _).mono ?_; rintro e w1 ⟨rfl, h1⟩)
      | (go_at_call 22; with_reducible refine (C2.out _).mono ?_; rintro e w2 ⟨rfl, h2⟩))
    go_ret
    exact ⟨by simp, h2.trans (h1.mono h2.size)⟩
end Go.Proofs.YtlgfdlfijfcfbaaDoor
