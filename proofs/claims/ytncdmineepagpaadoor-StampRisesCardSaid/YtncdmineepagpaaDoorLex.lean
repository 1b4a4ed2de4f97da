/- slices.Compare of two rows of six ints, and the order of dates. -/
import Derived.Test.YtncdmineepagpaaDoorStm
import Derived.Test.YtncdmineepagpaaDoorInv
namespace Go.Proofs.YtncdmineepagpaaDoor
open Go.RowKit Go.Joins

/-- The order of two rows: -1, 0, 1, at the first place where they part. -/
def lexF : List (Int × Int) → Int
  | [] => 0
  | (a, b) :: r => if a < b then -1 else if b < a then 1 else lexF r

set_option maxHeartbeats 4000000 in
theorem compare6 (p : List (Int × Int)) (hp : p.length = 6) (b c : Nat) (w : World)
    (hx : ∀ (k : Nat) (q : Int × Int), p[k]? = some q → w.cell? ⟨b, k, none⟩ = some (.int .i64 q.1) ∧ w.cell? ⟨c, k, none⟩ = some (.int .i64 q.2)) :
    Calls Tryd.prog 32 #[.slice (some ⟨b, 0, none⟩) 6 6, .slice (some ⟨c, 0, none⟩) 6 6] w fun e w' => e = .returned (.int .i64 (lexF p)) ∧ w' = w := by
  have HX := Lib.hid hx
  clear hx
  go_enter Tryd.func32, Tryd.ntmps32
  go_wp2
  go_loop [11] (fun i => ∃ k : Nat, k ≤ 6 ∧ i = .int .i64 k ∧ lexF p = lexF (p.drop k)) (fun i => 6 - (intOf i).toNat)
  case atStart => exact ⟨0, Nat.zero_le _, rfl, rfl⟩
  case round =>
    obtain ⟨k, hk, rfl, hl⟩ := hrel
    by_cases hlt : k < 6
    · have hlt' : (k : Int) < 6 := by omega
      obtain ⟨⟨x, y⟩, hq⟩ : ∃ q, p[k]? = some q := ⟨_, List.getElem?_eq_getElem (by omega)⟩
      obtain ⟨c0, c1⟩ := HX.out k _ hq
      have hdr : p.drop k = (x, y) :: p.drop (k + 1) := by rw [List.drop_eq_getElem_cons (by omega)]; congr 1; exact (List.getElem?_eq_some_iff.1 hq).2
      rw [hdr, lexF] at hl
      have CM := Lib.hid (fun w => Tryd.cmp_Compare_int x y w)
      have HL := Lib.hid hl
      clear hl hdr hq hp
      simp only at c0 c1
      rcases Int.lt_trichotomy x y with h | h | h
      · have hl2 : lexF p = -1 := by rw [HL.out, if_pos h]
        have HL2 := Lib.hid hl2
        rw [show Lib.compareInt x y = -1 from if_pos h] at CM
        clear hl2 h HL
        go_wp2_with (go_at_call 67; refine (CM.out _).mono ?_; rintro e w6 ⟨rfl, hw⟩; replace hw := hw.symm; subst hw)
        go_ret
        exact ⟨by rw [HL2.out]; rfl, rfl⟩
      · subst h
        have hl2 : lexF p = lexF (p.drop (k + 1)) := by rw [HL.out, if_neg (by omega), if_neg (by omega)]
        have HL2 := Lib.hid hl2
        rw [show Lib.compareInt x x = 0 by unfold Lib.compareInt; rw [if_neg (by omega), if_neg (by omega)]] at CM
        clear hl2 HL
        go_wp2_with (go_at_call 67; refine (CM.out _).mono ?_; rintro e w6 ⟨rfl, hw⟩; replace hw := hw.symm; subst hw)
        go_round
        case rel => exact ⟨k + 1, by omega, by go_num, HL2.out⟩
        case measure => simp [intOf]; omega
      · have hl2 : lexF p = 1 := by rw [HL.out, if_neg (by omega), if_pos h]
        have HL2 := Lib.hid hl2
        rw [show Lib.compareInt x y = 1 by unfold Lib.compareInt; rw [if_neg (by omega), if_pos h]] at CM
        clear hl2 h HL
        go_wp2_with (go_at_call 67; refine (CM.out _).mono ?_; rintro e w6 ⟨rfl, hw⟩; replace hw := hw.symm; subst hw)
        go_ret
        exact ⟨by rw [HL2.out]; rfl, rfl⟩
    · obtain rfl : k = 6 := by omega
      rw [show p.drop 6 = [] from List.drop_eq_nil_of_le (by omega)] at hl
      have hl2 : lexF p = 0 := hl
      have HL2 := Lib.hid hl2
      clear hl hl2 hlt hk HX
      go_wp2
      go_ret
      exact ⟨by rw [HL2.out]; rfl, rfl⟩

/-- Of two times the later one's date stands behind. -/
theorem lex_dates {s s' : Int} {y m d y' m' d' : Int} (h : IsDate (s / 86400) y m d) (h' : IsDate (s' / 86400) y' m' d') (p : List (Int × Int))
    (hp : p = [(y, y'), (m, m'), (d, d'), (s % 86400 / 3600, s' % 86400 / 3600), (s % 86400 / 60 % 60, s' % 86400 / 60 % 60), (s % 60, s' % 60)]) :
    (s = s' ∧ lexF p = 0) ∨ (s < s' ∧ lexF p = -1) ∨ (s' < s ∧ lexF p = 1) := by
  have key : ∀ {a b c e f g a' b' c' e' f' g' : Int}, (a < a' ∨ (a = a' ∧ (b < b' ∨ (b = b' ∧ (c < c' ∨ (c = c' ∧ (e < e' ∨ (e = e' ∧ (f < f' ∨ (f = f' ∧ g < g')))))))))) → lexF [(a, a'), (b, b'), (c, c'), (e, e'), (f, f'), (g, g')] = -1 ∧ lexF [(a', a), (b', b), (c', c), (e', e), (f', f), (g', g)] = 1 := by
    intro a b c e f g a' b' c' e' f' g' hh
    rcases hh with h | ⟨rfl, h | ⟨rfl, h | ⟨rfl, h | ⟨rfl, h | ⟨rfl, h⟩⟩⟩⟩⟩
    all_goals
      constructor
      · simp [lexF, h]
      · have hn := Int.not_lt.2 (Int.le_of_lt h)
        simp [lexF, h, hn]
  have lt : ∀ {s s' : Int} {y m d y' m' d' : Int}, IsDate (s / 86400) y m d → IsDate (s' / 86400) y' m' d' → s < s' → (y < y' ∨ (y = y' ∧ (m < m' ∨ (m = m' ∧ (d < d' ∨ (d = d' ∧ (s % 86400 / 3600 < s' % 86400 / 3600 ∨ (s % 86400 / 3600 = s' % 86400 / 3600 ∧ (s % 86400 / 60 % 60 < s' % 86400 / 60 % 60 ∨ (s % 86400 / 60 % 60 = s' % 86400 / 60 % 60 ∧ s % 60 < s' % 60)))))))))) := by
    intro s s' y m d y' m' d' h h' hs
    by_cases hD : s / 86400 < s' / 86400
    · rcases h.lt h' hD with h1 | ⟨h1, h2 | ⟨h2, h3⟩⟩
      · exact .inl h1
      · exact .inr ⟨h1, .inl h2⟩
      · exact .inr ⟨h1, .inr ⟨h2, .inl h3⟩⟩
    · have hD' : s / 86400 = s' / 86400 := by omega
      rw [hD'] at h
      obtain ⟨h1, h2, h3⟩ := h.uniq h'
      refine .inr ⟨h1, .inr ⟨h2, .inr ⟨h3, ?_⟩⟩⟩
      omega
  subst hp
  rcases Int.lt_trichotomy s s' with hs | hs | hs
  · exact .inr (.inl ⟨hs, (key (lt h h' hs)).1⟩)
  · subst hs
    obtain ⟨rfl, rfl, rfl⟩ := h.uniq h'
    exact .inl ⟨rfl, by simp [lexF]⟩
  · exact .inr (.inr ⟨hs, (key (lt h' h hs)).2⟩)
end Go.Proofs.YtncdmineepagpaaDoor
