/- Bx: what the texts of the name hold, joined. -/
import Derived.Test.YthnonmniponahaaGreatDoorQBg
import Derived.Test.YthnonmniponahaaGreatDoorQSi
set_option linter.unusedSimpArgs false
set_option linter.unusedVariables false
section
/- What is written is read again: Pax's records and lines; no run in it. -/
namespace Go.Proofs.YthnonmniponahaaGreatDoor
set_option linter.unusedVariables false

/-! ### Records read -/
/-! ### Decimal numbers and lines -/
/-! ### The records of a member -/
abbrev keysE : List (List UInt8) := [majorK, minorK, realK, gidK, linkK, mtimeK, pathK, uidK]
def pick1 (c : Bool) (k v : List UInt8) : List PrL := if c then [(k, v)] else []
theorem recsE_eq (e : EntL) : recsE e = pick1 (sparseE e) majorK [49] ++ (pick1 (sparseE e) minorK [48] ++ (pick1 (sparseE e) realK (decN e.size) ++ (pick1 (decide (2097151 < e.gid)) gidK (decN e.gid) ++ (pick1 (decide (100 < e.link.length)) linkK e.link ++
    (pick1 (beyondE e || decide (e.nano ≠ 0)) mtimeK (St.textL e.sec e.nano) ++ (pick1 (!(halfF (storedE e)).2.2) pathK (storedE e) ++ pick1 (decide (2097151 < e.uid)) uidK (decN e.uid))))))) := by
  unfold recsE pick1
  cases sparseE e <;> cases (halfF (storedE e)).2.2 <;> simp only [decide_eq_true_eq, Bool.or_eq_true, Bool.not_true, Bool.not_false, Bool.false_eq_true, if_true, if_false, List.cons_append, List.nil_append]
theorem pick_sub (c : Bool) (k v : List UInt8) : ((pick1 c k v).map (·.1)).Sublist [k] := by
  unfold pick1
  split
  · exact List.Sublist.refl _
  · exact List.nil_sublist _
theorem recsE_keys (e : EntL) : ((recsE e).map (·.1)).Sublist keysE := by
  rw [recsE_eq]
  simp only [List.map_append]
  have h : keysE = [majorK] ++ ([minorK] ++ ([realK] ++ ([gidK] ++ ([linkK] ++ ([mtimeK] ++ ([pathK] ++ [uidK])))))) := rfl
  rw [h]
  exact (pick_sub _ _ _).append ((pick_sub _ _ _).append ((pick_sub _ _ _).append ((pick_sub _ _ _).append ((pick_sub _ _ _).append ((pick_sub _ _ _).append ((pick_sub _ _ _).append (pick_sub _ _ _)))))))
theorem recsE_length (e : EntL) : (recsE e).length ≤ 8 := by
  have := (recsE_keys e).length_le
  rw [List.length_map] at this
  exact this
theorem mem_pick {c : Bool} {k v : List UInt8} {p : PrL} (h : p ∈ pick1 c k v) : c = true ∧ p = (k, v) := by
  unfold pick1 at h
  split at h
  · next hc => exact ⟨hc, List.mem_singleton.1 h⟩
  · cases h
theorem textL_len {s n : Int} (h : St.rightB s n = true) : (St.textL s n).length ≤ 24 ∧ St.textL s n ≠ [] := by
  obtain ⟨t1, t2, t3, t4⟩ := St.rightB_true _ _ h
  unfold St.textL
  split
  · have h1 := St.dec_len15 s.toNat (by omega)
    have h2 := St.fracL_length n.toNat
    have h3 := dec_pos s.toNat
    refine ⟨by rw [List.length_append]; omega, fun hh => ?_⟩
    have := congrArg List.length hh
    rw [List.length_append, List.length_nil] at this
    omega
  · split
    · have h1 := St.dec_len15 (-s).toNat (by omega)
      exact ⟨by rw [List.length_cons]; omega, by simp⟩
    · have h1 := St.dec_len15 (-s - 1).toNat (by omega)
      have h2 := St.fracL_length (1000000000 - n).toNat
      exact ⟨by rw [List.length_cons, List.length_append]; omega, by simp⟩
theorem decN_len {n : Int} (h : n ≤ 1099511627776) : (decN n).length ≤ 13 ∧ decN n ≠ [] := by
  refine ⟨St.dec_len15 n.toNat (by omega), fun hh => ?_⟩
  have := dec_pos n.toNat
  unfold decN at hh
  rw [hh] at this
  simp at this
theorem rightP_of {k v : List UInt8} (hk : k ≠ []) (hb : Px.hasBad k = false) (hl : k.length + v.length ≤ 200) : Px.rightP k v = true := by
  unfold Px.rightP
  rw [hb, decide_eq_true hl]
  cases k with
  | nil => exact absurd rfl hk
  | cons c k => rfl
theorem stored_len {e : EntL} (hr : rightE e = true) : (storedE e).length ≤ 121 ∧ storedE e ≠ [] ∧ ∀ c ∈ storedE e, c ≠ 0 := by
  have h1 := right_txt hr
  have h2 := txtOk_iff.1 h1.2.1
  unfold storedE
  split
  · refine ⟨by rw [List.length_append, List.length_singleton]; omega, by simp, fun c hc => ?_⟩
    rcases List.mem_append.1 hc with hc | hc
    · exact h2.2 c hc
    · rw [List.mem_singleton.1 hc]; decide
  · exact ⟨by omega, h1.1, h2.2⟩
theorem recsE_right {e : EntL} (hr : rightE e = true) : ∀ p ∈ recsE e, Px.rightP p.1 p.2 = true ∧ p.2 ≠ [] := by
  obtain ⟨m1, m2, m3, m4, m5, m6⟩ := right_num hr
  have htx := right_txt hr
  have hln := (txtOk_iff.1 htx.2.2.1).1
  have hst := stored_len hr
  have hsz : e.size ≤ 4000 := by
    by_cases hk : e.kind = 48
    · exact (right_file hr hk).1.2
    · have := (right_other hr hk).1; omega
  intro p hp
  rw [recsE_eq] at hp
  rcases List.mem_append.1 hp with hp | hp
  · obtain ⟨_, rfl⟩ := mem_pick hp; exact ⟨by decide, by decide⟩
  rcases List.mem_append.1 hp with hp | hp
  · obtain ⟨_, rfl⟩ := mem_pick hp; exact ⟨by decide, by decide⟩
  rcases List.mem_append.1 hp with hp | hp
  · obtain ⟨_, rfl⟩ := mem_pick hp
    have := decN_len (n := e.size) (by omega)
    refine show Px.rightP realK (decN e.size) = true ∧ decN e.size ≠ [] from ⟨rightP_of (by decide) (by decide) (by rw [show realK.length = 19 from rfl]; omega), this.2⟩
  rcases List.mem_append.1 hp with hp | hp
  · obtain ⟨_, rfl⟩ := mem_pick hp
    have := decN_len (n := e.gid) (by omega)
    refine show Px.rightP gidK (decN e.gid) = true ∧ decN e.gid ≠ [] from ⟨rightP_of (by decide) (by decide) (by rw [show gidK.length = 3 from rfl]; omega), this.2⟩
  rcases List.mem_append.1 hp with hp | hp
  · obtain ⟨h1, rfl⟩ := mem_pick hp
    have h1 := of_decide_eq_true h1
    refine show Px.rightP linkK (e.link) = true ∧ e.link ≠ [] from ⟨rightP_of (by decide) (by decide) (by rw [show linkK.length = 8 from rfl]; omega), fun hh => by rw [hh] at h1; simp at h1⟩
  rcases List.mem_append.1 hp with hp | hp
  · obtain ⟨_, rfl⟩ := mem_pick hp
    have := textL_len m4
    refine show Px.rightP mtimeK (St.textL e.sec e.nano) = true ∧ St.textL e.sec e.nano ≠ [] from ⟨rightP_of (by decide) (by decide) (by rw [show mtimeK.length = 5 from rfl]; omega), this.2⟩
  rcases List.mem_append.1 hp with hp | hp
  · obtain ⟨_, rfl⟩ := mem_pick hp
    refine show Px.rightP pathK (storedE e) = true ∧ storedE e ≠ [] from ⟨rightP_of (by decide) (by decide) (by rw [show pathK.length = 4 from rfl]; omega), hst.2.1⟩
  · obtain ⟨_, rfl⟩ := mem_pick hp
    have := decN_len (n := e.uid) (by omega)
    refine show Px.rightP uidK (decN e.uid) = true ∧ decN e.uid ≠ [] from ⟨rightP_of (by decide) (by decide) (by rw [show uidK.length = 3 from rfl]; omega), this.2⟩
theorem goodExt (n : Int) (h0 : 0 ≤ n) (h1 : n ≤ 100000) : goodL 4 (rawExt n) := by
  have hn : numOk n 12 false = true := by
    have h2 : octOk n 12 = true := by
      unfold octOk
      have : (8 : Int) ^ (12 - 1) = 8589934592 := by decide
      simp only [Bool.and_eq_true, decide_eq_true_eq]
      omega
    unfold numOk
    rw [h2]
    rfl
  refine ⟨by decide, show (120 : UInt8) ≠ 0 by decide, ⟨fun h => absurd h (by decide), fun h => absurd h (by decide)⟩, ?_, show (txtOk extName 100 && (txtOk [] 100 && (txtOk [] 32 && (txtOk [] 32 && txtOk [] 155)))) = true by decide⟩
  show (numOk 0 8 false && (numOk 0 8 false && (numOk 0 8 false && (numOk n 12 false && (numOk 0 12 false && (decide (4 = 1) || (numOk 0 8 false && numOk 0 8 false))))))) = true
  rw [hn]
  decide
/-! ### Pax -/
/-! ### Each dialect -/
end Go.Proofs.YthnonmniponahaaGreatDoor
end
