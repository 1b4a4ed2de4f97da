/- El: what the texts of the name hold, joined. -/
import Derived.Test.YthnonmniponahaaGreatDoorQEp
set_option linter.unusedSimpArgs false
set_option linter.unusedVariables false
section
/- The laws' large: whether a member is too large to be held. -/
namespace Go.Proofs.YthnonmniponahaaGreatDoor
open Go.RowKit Go.Joins
set_option linter.unusedVariables false
set_option linter.unusedSimpArgs false

/-- A member that is held. -/
structure Small (e : EntL) : Prop where
  texts : e.name.length + e.link.length + e.user.length + e.group.length ≤ 700
  data : e.data.length ≤ 4009
  map : e.map.length ≤ 30
set_option maxHeartbeats 4000000 in
theorem large_law (e : EntL) (ho : EntOk e) (ad : Option Addr) (cap : Nat) :
    ∃ b : Bool, (b = false → Small e) ∧ ∀ w, Calls Tryz.prog 47 #[entV e (.slice ad e.map.length cap)] w fun r w' => r = .returned (.bool b) ∧ Below w.heap.size w w' := by
  obtain ⟨z0, z1, z2, z3, z4⟩ := ho.texts
  have zm := ho.map
  have hr := reachBytes_lt
  have s0 := mkS_size e.name
  have s1 := mkS_size e.link
  have s2 := mkS_size e.user
  have s3 := mkS_size e.group
  have s4 := mkS_size e.data
  unfold maxLen at zm
  clear ho
  have key : ∀ b : Bool, (b = false → Small e) → (∀ w, Calls Tryz.prog 47 #[entV e (.slice ad e.map.length cap)] w fun r w' => r = .returned (.bool b) ∧ Below w.heap.size w w') → ∃ b : Bool, (b = false → Small e) ∧ ∀ w, Calls Tryz.prog 47 #[entV e (.slice ad e.map.length cap)] w fun r w' => r = .returned (.bool b) ∧ Below w.heap.size w w' := fun b h1 h2 => ⟨b, h1, h2⟩
  have zb : ∃ B : Int, B = 800000000000000 := ⟨_, rfl⟩
  have i0 : (e.name.length : Int) ≤ 200000000000000 := by omega
  have i1 : (e.link.length : Int) ≤ 200000000000000 := by omega
  have i2 : (e.user.length : Int) ≤ 200000000000000 := by omega
  have i3 : (e.group.length : Int) ≤ 200000000000000 := by omega
  have i4 : (e.data.length : Int) ≤ 200000000000000 := by omega
  by_cases h1 : (700 : Int) < (e.name.length : Int) + e.link.length + e.user.length + e.group.length
  · refine key true (fun h => by cases h) fun w => ?_
    clear key zb
    unfold entV
    go_enter Tryz.func47, Tryz.ntmps47
    go_wp2
    go_ret
    exact ⟨rfl, below_alloc1 _ _⟩
  by_cases h3 : (4009 : Int) < (e.data.length : Int)
  · refine key true (fun h => by cases h) fun w => ?_
    clear key zb
    have h2 : (900 : Int) < (e.data.length : Int) := by omega
    have h4 : ¬ (e.data.length : Int) < 3991 := by omega
    unfold entV
    go_enter Tryz.func47, Tryz.ntmps47
    go_wp2
    go_ret
    exact ⟨rfl, below_alloc1 _ _⟩
  by_cases h2 : (900 : Int) < (e.data.length : Int)
  · by_cases h4 : (e.data.length : Int) < 3991
    · refine key true (fun h => by cases h) fun w => ?_
      clear key zb
      unfold entV
      go_enter Tryz.func47, Tryz.ntmps47
      go_wp2
      go_ret
      exact ⟨rfl, below_alloc1 _ _⟩
    · refine key (decide (30 < e.map.length)) (fun h => ⟨by omega, by omega, by simpa using h⟩) fun w => ?_
      clear key zb
      unfold entV
      generalize e.map.length = n at *
      go_enter Tryz.func47, Tryz.ntmps47
      go_wp2
      go_ret
      exact ⟨by first | rfl | (simp; omega), below_alloc1 _ _⟩
  · refine key (decide (30 < e.map.length)) (fun h => ⟨by omega, by omega, by simpa using h⟩) fun w => ?_
    clear key zb
    unfold entV
    generalize e.map.length = n at *
    go_enter Tryz.func47, Tryz.ntmps47
    go_wp2
    go_ret
    exact ⟨by first | rfl | (simp; omega), below_alloc1 _ _⟩
end Go.Proofs.YthnonmniponahaaGreatDoor
end
