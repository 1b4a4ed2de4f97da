/- The reference's Get; the law PaxGets' walk. -/
import Derived.Test.YtheiamidochooaaGet
namespace Go.Proofs.Ytheiamidochooaa
open Go.RowKit Go.Joins

/-- pax.Get, as called from anywhere. -/
theorem get_any (ad : Option Addr) (cap : Nat) (zs : List Pr) (hl : zs.length ≤ 1000000000) (key : List UInt8) (w : World) (hM : PairsAt w ad zs) :
    Calls Try.prog 13 #[.slice ad zs.length cap, .string (mkS key)] w fun e W' => e = .returned (.tuple #[.string (mkS (getL zs key)), .bool (!(getL zs key).isEmpty)]) ∧ Below w.heap.size w W' :=
  (callsIn_wide (n := 6)).1 (get_in Fence.wide 6 trivial trivial trivial rfl (by omega) ad cap zs hl key w (hM.cases.imp id fun ⟨b, off, h1, h2, h3⟩ => ⟨b, off, h1, h2, h3⟩))

theorem getL_take (l : List Pr) (key : List UInt8) (i : Nat) (p : Pr) (h : l[i]? = some p) : getL (l.take (i + 1)) key = if p.1 = key then p.2 else getL (l.take i) key := by
  unfold getL
  rw [List.take_add_one, h, List.foldl_append]
  simp

set_option maxHeartbeats 2000000 in
theorem refGet_any (ad : Option Addr) (cap : Nat) (l : List Pr) (hl : l.length ≤ 1000000000) (key : List UInt8) (w : World) (hM : PairsAt w ad l) :
    Calls Try.prog 12 #[.slice ad l.length cap, .string (mkS key)] w fun e w' => e = .returned (.tuple #[.string (mkS (getL l key)), .bool (!(getL l key).isEmpty)]) ∧ Below w.heap.size w w' := by
  have hem : ∀ v : List UInt8, (mkS v).toList.isEmpty = v.isEmpty := fun v => by rw [ByteArray.toList_eq, mkS_list]
  have hemL := hem (getL l key)
  rcases hM.cases with rfl | ⟨b, off, rfl, hlt, hR⟩
  · clear hM
    go_enter Try.func12, Try.ntmps12
    go_wp2
    refine wp_loop_rounds 1 ?_
    rw [rounds_succ]
    go_wp2
    go_ret2
    exact ⟨rfl, Below.refl _ _⟩
  · have HR := Lib.hid (show ∀ w', Below w.heap.size w w' → RowAt w' b off l from fun w' hb => RowAt.below hlt hR hb)
    have HE := Lib.hid hem
    clear hM hR hlt hem
    go_enter Try.func12, Try.ntmps12
    go_wp2
    go_loopg [11, 6] l.length (fun g s11 s6 wr => ∃ i : Nat, i ≤ l.length ∧ l.length - i ≤ g ∧ s11 = .int .i64 i ∧ s6 = .string (mkS (getL (l.take i) key)) ∧ Aside (Below w.heap.size w wr))
    case atStart => exact ⟨0, by omega, by omega, rfl, rfl, Below.refl _ _⟩
    case round =>
      obtain ⟨i, hi, hg, rfl, rfl, A⟩ := hrel
      by_cases hil : i < l.length
      · obtain ⟨q, hq⟩ : ∃ p, l[i]? = some p := ⟨_, List.getElem?_eq_getElem hil⟩
        obtain ⟨c1, c2⟩ := HR.out wr A.out i q hq
        have hX := Lib.hid (getL_take l key i q hq)
        have hb1 := Lib.hid (A.out.alloc A.out.size (.cells #[.string (mkS q.1), .string (mkS q.2)] 23))
        clear hq hemL
        by_cases hk : q.1 = key
        · have HK := Lib.hid hk
          have hcmp : ((mkS q.1).toList == (mkS key).toList) = true := by rw [hk]; simp
          clear hk
          go_wp2
          go_roundg (l.length - (i + 1))
          case measure => omega
          case rel => exact ⟨i + 1, by omega, by omega, by first | rfl | simp, by rw [hX.out, if_pos HK.out], hb1.out⟩
        · have HK := Lib.hid hk
          have hcmp : ((mkS q.1).toList == (mkS key).toList) = false := by
            rw [ByteArray.toList_eq, ByteArray.toList_eq, mkS_list, mkS_list]
            simpa using hk
          clear hk
          go_wp2
          go_roundg (l.length - (i + 1))
          case measure => omega
          case rel => exact ⟨i + 1, by omega, by omega, by first | rfl | simp, by rw [hX.out, if_neg HK.out], hb1.out⟩
      · obtain rfl : i = l.length := by omega
        rw [List.take_length]
        go_wp2
        go_ret2
        refine ⟨?_, A.out⟩
        rw [← hemL]
        rfl

set_option maxHeartbeats 1000000 in
theorem paxGets_walk (ad : Option Addr) (cap : Nat) (l : List Pr) (hl : l.length ≤ maxLen) (hz : ∀ p ∈ l, p.1.length ≤ reachBytes ∧ p.2.length ≤ reachBytes) (a : ByteArray) (_wa : a.size ≤ maxLen) (w : World) (hM : PairsAt w ad l) :
    Calls Try.prog 5 #[.slice ad l.length cap, .string a] w fun e w' => e = .returned (.bool true) ∧ Below w.heap.size w w' := by
  obtain ⟨key, rfl⟩ : ∃ k, a = mkS k := ⟨_, (mkS_self a).symm⟩
  have H := Lib.hid (heavy_any ad cap l hl hz w hM)
  have R := Lib.hid (show (l.length ≤ 30 ∧ ∀ p ∈ l, p.1.length + p.2.length ≤ 300) → ∀ W, Below w.heap.size w W → Calls Try.prog 12 #[.slice ad l.length cap, .string (mkS key)] W fun e w' => e = .returned (.tuple #[.string (mkS (getL l key)), .bool (!(getL l key).isEmpty)]) ∧ Below W.heap.size W w' from fun h W hb => refGet_any ad cap l (by omega) key W (hM.below hb))
  have G := Lib.hid (show (l.length ≤ 30 ∧ ∀ p ∈ l, p.1.length + p.2.length ≤ 300) → ∀ W, Below w.heap.size w W → Calls Try.prog 13 #[.slice ad l.length cap, .string (mkS key)] W fun e w' => e = .returned (.tuple #[.string (mkS (getL l key)), .bool (!(getL l key).isEmpty)]) ∧ Below W.heap.size W w' from fun h W hb => get_any ad cap l (by omega) key W (hM.below hb))
  clear hM hz hl
  generalize (l.length ≤ 30 ∧ ∀ p ∈ l, p.1.length + p.2.length ≤ 300) = φ at *
  generalize getL l key = V at *
  generalize (!V.isEmpty) = B at *
  go_enter Try.func5, Try.ntmps5
  go_wp2_with (first
    | (go_at_call 8; refine H.out.mono ?_; rintro e w1 ⟨⟨bh, rfl, hφ⟩, h1⟩; replace hφ := Lib.hid hφ; cases bh)
    | (go_at_call 12; refine (R.out (hφ.out trivial) _ h1).mono ?_; rintro e w2 ⟨rfl, h2⟩; have h12 := h1.trans (h2.mono h1.size))
    | (go_at_call 13; refine (G.out (hφ.out trivial) _ h12).mono ?_; rintro e w3 ⟨rfl, h3⟩))
  · go_ret
    exact ⟨by simp, h12.trans (h3.mono h12.size)⟩
  · go_ret
    exact ⟨rfl, h1⟩
end Go.Proofs.Ytheiamidochooaa
