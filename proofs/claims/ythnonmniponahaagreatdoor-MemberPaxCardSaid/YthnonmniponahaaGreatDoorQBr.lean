/- Br: what the texts of the name hold, joined. -/
import Derived.Test.YthnonmniponahaaGreatDoorQBx
set_option linter.unusedSimpArgs false
set_option linter.unusedVariables false
section
/- What is written: room in each dialect, no two alike, records that count for all; no run in it. -/
namespace Go.Proofs.YthnonmniponahaaGreatDoor
set_option linter.unusedVariables false

/-! ### Read at a place -/
theorem Reads.thick {S : List UInt8} {st : RSt} {e : EntL} {n : Nat} {G : List PrL} (h : Reads S st (.ok e n G)) : st.at_ + 512 ≤ S.length ∧ (sub S st.at_ 512).all (· == 0) = false := by
  have hne : ∀ k, nextR S st ≠ .err k := fun k hk => by
    cases h with
    | ok h => rw [h] at hk; cases hk
    | step h _ => rw [h] at hk; cases hk
  refine ⟨?_, ?_⟩
  · refine Nat.le_of_not_lt fun hl => ?_
    exact hne 3 (by unfold nextR; rw [if_pos hl])
  · cases hz : (sub S st.at_ 512).all (· == 0) with
    | false => rfl
    | true =>
      by_cases hl : S.length < st.at_ + 512
      · exact absurd (by unfold nextR; rw [if_pos hl]) (hne 3)
      · exact absurd (by unfold nextR; rw [if_neg hl]; dsimp only; rw [hz, if_pos rfl]) (hne 3)
theorem Reads.at_ {S : List UInt8} {a : Nat} {A : Int} {G : List PrL} {e : EntL} {n : Nat} {G' : List PrL} (h : Reads S ⟨a, G, [], none, none⟩ (.ok e n G')) (hA : A = (a : Int)) : EReads S A G (.ok e n G') := by
  subst hA
  obtain ⟨h1, h2⟩ := h.thick
  dsimp only at h1 h2
  refine .go (by omega) ?_ (by rw [Int.toNat_natCast]; exact h)
  rintro (hh | ⟨_, hh⟩)
  · omega
  · rw [Int.toNat_natCast, h2] at hh; cases hh
/-! ### Room -/
theorem oct8 {n : Int} {b : Bool} (h0 : 0 ≤ n) (h1 : n ≤ 2097151) : numOk n 8 b = true := by
  have : (8 : Int) ^ (8 - 1) = 2097152 := by decide
  unfold numOk octOk
  simp only [Bool.or_eq_true, Bool.and_eq_true, decide_eq_true_eq]
  omega
theorem oct12 {n : Int} {b : Bool} (h0 : 0 ≤ n) (h1 : n ≤ 8589934591) : numOk n 12 b = true := by
  have : (8 : Int) ^ (12 - 1) = 8589934592 := by decide
  unfold numOk octOk
  simp only [Bool.or_eq_true, Bool.and_eq_true, decide_eq_true_eq]
  omega
theorem txtOk_of {l : List UInt8} {n : Nat} (h1 : l.length ≤ n) (h2 : ∀ c ∈ l, c ≠ 0) : txtOk l n = true := txtOk_iff.2 ⟨h1, h2⟩
theorem half_ok {n : List UInt8} (hz : ∀ c ∈ n, c ≠ 0) (h : (halfF n).2.2 = true) : txtOk (halfF n).1 155 = true ∧ txtOk (halfF n).2.1 100 = true := by
  rcases halfF_is n with ⟨h0, h1, h2, _⟩ | ⟨_, ⟨i, hi, _, h1, h2, _⟩ | ⟨_, _, _, h3⟩⟩
  · rw [h1, h2]; exact ⟨by decide, txtOk_of h0 hz⟩
  · obtain ⟨i1, i2, i3, i4, i5⟩ := hi
    rw [h1, h2]
    exact ⟨txtOk_of (by rw [List.length_take]; omega) fun c hc => hz c (List.mem_of_mem_take hc), txtOk_of (by rw [List.length_drop]; omega) fun c hc => hz c (List.mem_of_mem_drop hc)⟩
  · rw [h3] at h; cases h
theorem whole_ok {d : Nat} {R : RawL} {n link data : List UInt8} (hn : (namedF d R n).2 = true) (hg : goodL d { (namedF d R n).1 with link := link }) : (wholeF d R n link data).2 = 0 := by
  unfold wholeF
  rw [if_pos ⟨hn, hg⟩]
theorem kind_nz {e : EntL} (hr : rightE e = true) : e.kind ≠ 0 := by
  rcases right_kinds hr with h | h | h | h | h | h | h <;> rw [h] <;> decide
theorem room_pax {e : EntL} (hr : rightE e = true) (hp : (paxData e).length ≤ 100000) : (paxF e).2 = 0 := by
  obtain ⟨m1, m2, m3, m4, m5, m6⟩ := right_num hr
  obtain ⟨t1, t2, t3, t4⟩ := St.rightB_true _ _ m4
  have htx := right_txt hr
  have hst := stored_len hr
  have hdv : devMost e.kind ≤ 2097151 := by unfold devMost; split <;> omega
  have hh : (halfF (paxName e)).2.2 = true := by
    unfold paxName
    split
    · next h => exact h
    · decide
  have hz : ∀ c ∈ paxName e, c ≠ 0 := by
    unfold paxName
    split
    · exact hst.2.2
    · decide
  obtain ⟨g1, g2⟩ := half_ok hz hh
  have hq : (namedF 4 (paxRaw e) (paxName e)) = ({ paxRaw e with front := (halfF (paxName e)).1, name := (halfF (paxName e)).2.1 }, (halfF (paxName e)).2.2) := rfl
  have hX : (paxX e).2 = 0 := by
    unfold paxX
    refine whole_ok (by rw [hq]; exact hh) ?_
    rw [hq]
    refine ⟨by decide, kind_nz hr, ⟨fun h => absurd h (by decide), fun h => absurd h (by decide)⟩, ?_, ?_⟩
    · show (numOk e.mode 8 false && (numOk (if 2097151 < e.uid then 0 else e.uid) 8 false && (numOk (if 2097151 < e.gid then 0 else e.gid) 8 false && (numOk ((paxData e).length : Int) 12 false && (numOk (if beyondE e then 0 else e.sec) 12 false && (decide (4 = 1) || (numOk e.major 8 false && numOk e.minor 8 false))))))) = true
      rw [oct8 m1.1 (by omega), oct8 (by split <;> omega) (by split <;> omega), oct8 (by split <;> omega) (by split <;> omega), oct12 (by omega) (by omega), oct12 ?_ ?_, oct8 m5.1 (by omega), oct8 m6.1 (by omega)]
      · rfl
      · by_cases hb : beyondE e = true
        · rw [if_pos hb]; omega
        · rw [if_neg hb]
          unfold beyondE at hb
          simp only [Bool.or_eq_true, decide_eq_true_eq] at hb
          omega
      · by_cases hb : beyondE e = true
        · rw [if_pos hb]; omega
        · rw [if_neg hb]
          unfold beyondE at hb
          simp only [Bool.or_eq_true, decide_eq_true_eq] at hb
          omega
    · show (txtOk (halfF (paxName e)).2.1 100 && (txtOk (e.link.take 100) 100 && (txtOk e.user 32 && (txtOk e.group 32 && txtOk (halfF (paxName e)).1 155)))) = true
      rw [g1, g2, txtOk_of (by rw [List.length_take]; omega) (fun c hc => (txtOk_iff.1 htx.2.2.1).2 c (List.mem_of_mem_take hc)), htx.2.2.2.1, htx.2.2.2.2]
      rfl
  unfold paxF
  rw [if_neg (by rw [hX]; simp)]
/-! ### Records that count for all -/
end Go.Proofs.YthnonmniponahaaGreatDoor
end
