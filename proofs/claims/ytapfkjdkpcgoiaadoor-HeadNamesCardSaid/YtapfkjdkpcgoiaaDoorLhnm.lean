/- The law HeadNames: its walk. -/
import Derived.Test.YtapfkjdkpcgoiaaDoorLhbk
namespace Go.Proofs.YtapfkjdkpcgoiaaDoor
open Go.RowKit Go.Joins
set_option linter.unusedVariables false
set_option linter.unusedSimpArgs false

theorem half_join {n a b : List UInt8} (h : HalfIs n a b true) : (if a = [] then b else a ++ (47 :: b)) = n := by
  rcases h with ⟨_, rfl, rfl, _⟩ | ⟨_, ⟨i, hi, _, ha, hb, _⟩ | ⟨_, _, _, h⟩⟩
  · rw [if_pos rfl]
  · obtain ⟨h1, h2, h3, _⟩ := hi
    have hi2 := (List.getElem?_eq_some_iff.1 h3).1
    rw [if_neg (by rw [ha]; intro e; have := congrArg List.length e; rw [List.length_take, List.length_nil] at this; omega), ha, hb]
    have e : n.drop i = 47 :: n.drop (i + 1) := by rw [List.drop_eq_getElem_cons hi2, (List.getElem?_eq_some_iff.1 h3).2]
    rw [← e, List.take_append_drop]
  · cases h
theorem named_full {d : Int} {r q : RawL} {n : List UInt8} (h : NamedIs d r n q true) : fullL q = n := by
  generalize hk : true = k at h
  cases h with
  | parted a b k hd hI =>
    subst hk
    unfold fullL
    exact half_join hI
  | whole hd =>
    unfold fullL
    rw [if_pos rfl]
theorem half_le {n a b : List UInt8} {k : Bool} (h : HalfIs n a b k) : a.length ≤ n.length ∧ b.length ≤ n.length := by
  rcases h with ⟨_, rfl, rfl, _⟩ | ⟨_, ⟨i, hi, _, ha, hb, _⟩ | ⟨_, ha, hb, _⟩⟩
  · simp
  · rw [ha, hb, List.length_take, List.length_drop]; omega
  · rw [ha, hb]; simp
theorem named_le {d : Int} {r q : RawL} {n : List UInt8} {k : Bool} (h : NamedIs d r n q k) : q.name.length ≤ n.length ∧ q.front.length ≤ n.length := by
  cases h with
  | parted a b _ _ hI => have := half_le hI; exact ⟨this.2, this.1⟩
  | whole hd => exact ⟨Nat.le_refl _, by simp⟩
theorem full_of (r : RawL) (hz : r.name.length + r.front.length ≤ 999998) (w : World) :
    Calls Tryd.prog 19 #[rawV r] w fun e w' => e = .returned (.string (mkS (fullL r))) ∧ Below w.heap.size w w' := by
  obtain ⟨a0, a1, a2, a3, a4, a5, a6, a7, a8, a9, a10, a11, a12⟩ := r
  simp only at hz
  unfold rawV
  unfold fullL
  simp only
  have c1 : ∀ w, (Op.stringOp .add (mkS a4) (⟨#[47]⟩ : ByteArray)).run Tryd.prog w = .ok (.string (mkS (a4 ++ [47]))) w := fun w => mkS_cat2 a4 [47] (by simp; omega) w
  have c2 : ∀ w, (Op.stringOp .add (mkS (a4 ++ [47])) (mkS a0)).run Tryd.prog w = .ok (.string (mkS (a4 ++ 47 :: a0))) w := fun w => by
    rw [mkS_cat2 _ _ (by simp; omega) w, List.append_assoc]; rfl
  by_cases h : a4 = []
  · subst h
    have e1 := mkS_emp_nil
    rw [if_pos rfl]
    go_enter Tryd.func19, Tryd.ntmps19
    go_wp2
    go_ret
    exact ⟨rfl, below_alloc1 _ _⟩
  · have e1 := mkS_emp a4 h
    rw [if_neg h]
    go_enter Tryd.func19, Tryd.ntmps19
    go_wp2
    go_ret
    exact ⟨rfl, below_alloc1 _ _⟩
set_option maxRecDepth 100000 in
set_option maxHeartbeats 4000000 in
theorem headNames_walk (a0 : Int) (w0 : (Lit.int .i64 a0).wf = true) (r : RawL) (hi : intsL r) (hz : textsL r) (a2 : ByteArray) (z2 : a2.size ≤ reachBytes) (w : World) :
    Calls Tryd.prog 6 #[.int .i64 a0, rawV r, .string a2] w fun e w' => e = .returned (.bool true) ∧ Below w.heap.size w w' := by
  obtain ⟨n, rfl⟩ : ∃ k, a2 = mkS k := ⟨_, (mkS_self a2).symm⟩
  have s1 := mkS_size n
  rw [s1] at z2
  have hrb := reachBytes_lt
  have hC := Lib.hid (RawAt.new w r 32)
  have hB := Lib.hid (below_alloc1 w (.cells (#[.string (mkS r.name), .string (mkS r.link), .string (mkS r.user), .string (mkS r.group), .string (mkS r.front), .int .u8 (r.kind.toNat : Int), .int .i64 r.mode, .int .i64 r.uid, .int .i64 r.gid, .int .i64 r.size, .int .i64 r.time, .int .i64 r.major, .int .i64 r.minor]) 32))
  have HO := Lib.hid headed_true
  obtain ⟨p, hp3, hp⟩ := pick_fours a0
  have P := Lib.hid hp
  clear hp hz
  unfold rawV
  go_enter Tryd.func6, Tryd.ntmps6
  by_cases hn : (400 : Int) < (n.length : Int)
  · go_wp2_with (go_at_call 13; (with_reducible refine (HO.out _).mono ?_); rintro e w1 ⟨rfl, h1⟩; have hB1 := Lib.hid (hB.out.trans (h1.mono hB.out.size)); clear h1)
    go_ret
    exact ⟨rfl, hB1.out⟩
  · have C1 := Lib.hid (fun w => named_any (1 + (p : Int)) r n (by omega) w)
    unfold rawV at C1
    have hwr : IntKind.i64.wrap ((1 : Int) + (p : Int)) = 1 + (p : Int) := wrap_small _ (by omega) (by omega)
    go_wp2_with (first
      | (go_at_call 13; (with_reducible refine (HO.out _).mono ?_); rintro e w1 ⟨rfl, h1⟩; have hC1 := Lib.hid (hC.out.below h1 hC.out.lt); have hB1 := Lib.hid (hB.out.trans (h1.mono hB.out.size)); clear h1)
      | fail)
    refine wp_region_held_drew (S := fun w' => Below w.heap.size w w' ∧ RawAt w' w.heap.size r) (by kernel_rfl) ⟨hB1.out.drew, hC1.out.below (Below.refl _ _).drew hC1.out.lt⟩ (fun hHeld => ?_)
    generalize w1.drew = W0 at *
    clear hB1 hC1
    refine take_to (i := 0) 15 (.agg #[.string (mkS r.name), .string (mkS r.link), .string (mkS r.user), .string (mkS r.group), .string (mkS r.front), .int .u8 (r.kind.toNat : Int), .int .i64 r.mode, .int .i64 r.uid, .int .i64 r.gid, .int .i64 r.size, .int .i64 r.time, .int .i64 r.major, .int .i64 r.minor]) rfl rfl (by kernel_rfl) (by kernel_rfl) (by kernel_rfl) (fun _ _ _ h => h) (Or.inl ⟨by rfl, ?_⟩) (by assumption) ?_
    · (intro w hSw; obtain ⟨_, c0, c1, c2, c3, c4, c5, c6, c7, c8, c9, c10, c11, c12⟩ := hSw; go_simp; try with_reducible rfl)
    simp only [List.setIfInBounds_toArray, List.set_cons_succ, List.set_cons_zero]
    refine take_to (i := 1) 16 (.int .i64 a0) rfl rfl (by kernel_rfl) (by kernel_rfl) (by kernel_rfl) (fun _ _ _ h => h) (Or.inl ⟨by rfl, fun _ _ => rfl⟩) (by assumption) ?_
    simp only [List.setIfInBounds_toArray, List.set_cons_succ, List.set_cons_zero]
    refine take_to (i := 4) 19 (.string (mkS n)) rfl rfl (by kernel_rfl) (by kernel_rfl) (by kernel_rfl) (fun _ _ _ h => h) (Or.inl ⟨by rfl, fun _ _ => rfl⟩) (by assumption) ?_
    simp only [List.setIfInBounds_toArray, List.set_cons_succ, List.set_cons_zero]
    refine wpAnyH_ready (rs := [2, 9]) (by kernel_rfl) (by simp) ?_
    refine AllReadyH.cons rfl (fun K hK => ?_) ?_
    · go_simp
      go_at_call 14
      with_reducible refine (P.out _).mono ?_
      rintro e v1 ⟨rfl, hw⟩
      replace hw := hw.symm
      subst hw
      refine hK.out _ _ hHeld (fun hHeld => ?_)
      clear hK
      (try simp only [Act.put]); (try simp only [List.setIfInBounds_toArray]); (try simp only [List.set_cons_succ]); (try simp only [List.set_cons_zero])
      refine take_to (i := 3) 18 (.int .i64 (1 + (p : Int))) rfl rfl (by kernel_rfl) (by kernel_rfl) (by kernel_rfl) (fun _ _ _ h => h) (Or.inl ⟨by rfl, ?_⟩) (by assumption) ?_
      · (intro w hSw; obtain ⟨_, c0, c1, c2, c3, c4, c5, c6, c7, c8, c9, c10, c11, c12⟩ := hSw; go_simp; try with_reducible rfl)
      simp only [List.setIfInBounds_toArray, List.set_cons_succ, List.set_cons_zero]
      refine wpAnyH_ready (rs := [5, 9]) (by kernel_rfl) (by simp) ?_
      refine AllReadyH.cons rfl (fun K hK => ?_) ?_
      · go_simp
        go_at_call 18
        with_reducible refine (C1.out _).mono ?_
        rintro e v2 ⟨q, k, hI, rfl, h4⟩
        unfold rawV
        have HI := Lib.hid hI
        clear hI
        have hsv2 := Lib.hid (show Below w.heap.size w v2 ∧ RawAt v2 w.heap.size r from ⟨hHeld.1.trans (h4.mono hHeld.1.size), hHeld.2.below h4 hHeld.2.lt⟩)
        refine hK.out _ _ hsv2.out (fun hHeld => ?_)
        clear hK h4
        (try simp only [Act.put]); (try simp only [List.setIfInBounds_toArray]); (try simp only [List.set_cons_succ]); (try simp only [List.set_cons_zero])
        refine take_to (i := 6) 14 (.tuple #[.agg #[.string (mkS q.name), .string (mkS q.link), .string (mkS q.user), .string (mkS q.group), .string (mkS q.front), .int .u8 (q.kind.toNat : Int), .int .i64 q.mode, .int .i64 q.uid, .int .i64 q.gid, .int .i64 q.size, .int .i64 q.time, .int .i64 q.major, .int .i64 q.minor], .bool k]) rfl rfl (by kernel_rfl) (by kernel_rfl) (by kernel_rfl) (fun _ _ _ h => h) (Or.inl ⟨by rfl, fun _ _ => rfl⟩) (by assumption) ?_
        simp only [List.setIfInBounds_toArray, List.set_cons_succ, List.set_cons_zero]
        refine take_to (i := 7) 21 (.agg #[.string (mkS q.name), .string (mkS q.link), .string (mkS q.user), .string (mkS q.group), .string (mkS q.front), .int .u8 (q.kind.toNat : Int), .int .i64 q.mode, .int .i64 q.uid, .int .i64 q.gid, .int .i64 q.size, .int .i64 q.time, .int .i64 q.major, .int .i64 q.minor]) rfl rfl (by kernel_rfl) (by kernel_rfl) (by kernel_rfl) (fun _ _ _ h => h) (Or.inl ⟨by rfl, ?_⟩) (by assumption) ?_
        · (intro w hSw; obtain ⟨_, c0, c1, c2, c3, c4, c5, c6, c7, c8, c9, c10, c11, c12⟩ := hSw; go_simp; try with_reducible rfl)
        simp only [List.setIfInBounds_toArray, List.set_cons_succ, List.set_cons_zero]
        refine take_to (i := 8) 22 (.bool k) rfl rfl (by kernel_rfl) (by kernel_rfl) (by kernel_rfl) (fun _ _ _ h => h) (Or.inl ⟨by rfl, ?_⟩) (by assumption) ?_
        · (intro w hSw; obtain ⟨_, c0, c1, c2, c3, c4, c5, c6, c7, c8, c9, c10, c11, c12⟩ := hSw; go_simp; try with_reducible rfl)
        simp only [List.setIfInBounds_toArray, List.set_cons_succ, List.set_cons_zero]
        refine wpAnyH_ready (rs := [9]) (by kernel_rfl) (by simp) ?_
        refine AllReadyH.cons rfl (fun K hK => ?_) ?_
        · go_simp
          have hsv3 := Lib.hid (show Below w.heap.size w (v2.alloc (.cells #[.string ⟨#[]⟩, .string ⟨#[]⟩, .string ⟨#[]⟩, .string ⟨#[]⟩, .string ⟨#[]⟩, .int .u8 0, .int .i64 0, .int .i64 0, .int .i64 0, .int .i64 0, .int .i64 0, .int .i64 0, .int .i64 0] 32)) ∧ RawAt (v2.alloc (.cells #[.string ⟨#[]⟩, .string ⟨#[]⟩, .string ⟨#[]⟩, .string ⟨#[]⟩, .string ⟨#[]⟩, .int .u8 0, .int .i64 0, .int .i64 0, .int .i64 0, .int .i64 0, .int .i64 0, .int .i64 0, .int .i64 0] 32)) w.heap.size r from ⟨hHeld.1.alloc hHeld.1.size _, hHeld.2.below ((Below.refl v2.heap.size v2).alloc (Nat.le_refl _) _) hHeld.2.lt⟩)
          have hqv3 := Lib.hid (show RawRow (v2.alloc (.cells #[.string ⟨#[]⟩, .string ⟨#[]⟩, .string ⟨#[]⟩, .string ⟨#[]⟩, .string ⟨#[]⟩, .int .u8 0, .int .i64 0, .int .i64 0, .int .i64 0, .int .i64 0, .int .i64 0, .int .i64 0, .int .i64 0] 32)) v2.heap.size (rawZ 0) from heap_alloc_new v2 _)
          have hlv3 := Lib.hid hHeld.1.size
          have hnv3 := Lib.hid (Nat.ne_of_lt hHeld.2.lt)
          refine hK.out _ _ hsv3.out (fun hHeld => ?_)
          clear hK
          (try simp only [Act.put]); (try simp only [List.setIfInBounds_toArray]); (try simp only [List.set_cons_succ]); (try simp only [List.set_cons_zero])
          generalize hbv3 : v2.heap.size = b0 at *
          generalize v2.alloc (.cells #[.string ⟨#[]⟩, .string ⟨#[]⟩, .string ⟨#[]⟩, .string ⟨#[]⟩, .string ⟨#[]⟩, .int .u8 0, .int .i64 0, .int .i64 0, .int .i64 0, .int .i64 0, .int .i64 0, .int .i64 0, .int .i64 0] 32) = v3 at *
          refine wpAnyH_ready (rs := [10]) (by kernel_rfl) (by simp) ?_
          refine AllReadyH.cons rfl (fun K hK => ?_) AllReadyH.nil
          rw [if_pos (by rfl)]
          refine store_row_no rfl _ _ _ rfl b0 #[.string (mkS q.name), .string (mkS q.link), .string (mkS q.user), .string (mkS q.group), .string (mkS q.front), .int .u8 (q.kind.toNat : Int), .int .i64 q.mode, .int .i64 q.uid, .int .i64 q.gid, .int .i64 q.size, .int .i64 q.time, .int .i64 q.major, .int .i64 q.minor] rfl rfl _ _ hqv3.out infoRaw rfl (by kernel_rfl) ?_
          have hlb : w.heap.size ≤ b0 := hlv3.out
          have hB5 := Lib.hid (below_setRow hHeld.1 hlb #[.string (mkS q.name), .string (mkS q.link), .string (mkS q.user), .string (mkS q.group), .string (mkS q.front), .int .u8 (q.kind.toNat : Int), .int .i64 q.mode, .int .i64 q.uid, .int .i64 q.gid, .int .i64 q.size, .int .i64 q.time, .int .i64 q.major, .int .i64 q.minor])
          have hRq := Lib.hid (RawAt.of_row (r := q) (setRow_heap v3 _ _ #[.string (mkS q.name), .string (mkS q.link), .string (mkS q.user), .string (mkS q.group), .string (mkS q.front), .int .u8 (q.kind.toNat : Int), .int .i64 q.mode, .int .i64 q.uid, .int .i64 q.gid, .int .i64 q.size, .int .i64 q.time, .int .i64 q.major, .int .i64 q.minor] _ _ hqv3.out))
          have hne : w.heap.size ≠ b0 := hnv3.out
          refine hK.out _ _ ⟨hB5.out, hHeld.2.setRow hne _⟩ (fun hHeld => ?_)
          clear hK
          (try simp only [Act.put]); (try simp only [List.setIfInBounds_toArray]); (try simp only [List.set_cons_succ]); (try simp only [List.set_cons_zero])
          generalize v3.setRow b0 #[.string (mkS q.name), .string (mkS q.link), .string (mkS q.user), .string (mkS q.group), .string (mkS q.front), .int .u8 (q.kind.toNat : Int), .int .i64 q.mode, .int .i64 q.uid, .int .i64 q.gid, .int .i64 q.size, .int .i64 q.time, .int .i64 q.major, .int .i64 q.minor] = w6 at *
          refine take_to (i := 11) 8 (.bool k) rfl rfl (by kernel_rfl) (by kernel_rfl) (by kernel_rfl) (fun _ _ _ h => h) (Or.inl ⟨by rfl, ?_⟩) (by assumption) ?_
          · (intro w hSw; obtain ⟨_, c0, c1, c2, c3, c4, c5, c6, c7, c8, c9, c10, c11, c12⟩ := hSw; go_simp; try with_reducible rfl)
          simp only [List.setIfInBounds_toArray, List.set_cons_succ, List.set_cons_zero]
          refine wpAnyH_done (by kernel_rfl) ?_ _
          have hle := named_le HI.out
          cases k with
          | false =>
            clear hHeld
            go_wp2
            go_ret
            exact ⟨rfl, hB5.out⟩
          | true =>
            have C2 := Lib.hid (fun w => full_of q (by omega) w)
            rw [named_full HI.out] at C2
            unfold rawV at C2
            obtain ⟨c0, c1, c2, c3, c4, c5, c6, c7, c8, c9, c10, c11, c12⟩ := hRq.out
            clear hHeld
            go_wp2_with (go_at_call 19; (with_reducible refine (C2.out _).mono ?_); rintro e w7 ⟨rfl, h7⟩)
            go_ret
            exact ⟨by first | rfl | simp, hB5.out.trans (h7.mono hB5.out.size)⟩
        exact AllReadyH.nil
      refine AllReadyH.cons rfl (fun K hK => ?_) ?_
      · go_simp
        have hsv4 := Lib.hid (show Below w.heap.size w (W0.alloc (.cells #[.string ⟨#[]⟩, .string ⟨#[]⟩, .string ⟨#[]⟩, .string ⟨#[]⟩, .string ⟨#[]⟩, .int .u8 0, .int .i64 0, .int .i64 0, .int .i64 0, .int .i64 0, .int .i64 0, .int .i64 0, .int .i64 0] 32)) ∧ RawAt (W0.alloc (.cells #[.string ⟨#[]⟩, .string ⟨#[]⟩, .string ⟨#[]⟩, .string ⟨#[]⟩, .string ⟨#[]⟩, .int .u8 0, .int .i64 0, .int .i64 0, .int .i64 0, .int .i64 0, .int .i64 0, .int .i64 0, .int .i64 0] 32)) w.heap.size r from ⟨hHeld.1.alloc hHeld.1.size _, hHeld.2.below ((Below.refl W0.heap.size W0).alloc (Nat.le_refl _) _) hHeld.2.lt⟩)
        have hqv4 := Lib.hid (show RawRow (W0.alloc (.cells #[.string ⟨#[]⟩, .string ⟨#[]⟩, .string ⟨#[]⟩, .string ⟨#[]⟩, .string ⟨#[]⟩, .int .u8 0, .int .i64 0, .int .i64 0, .int .i64 0, .int .i64 0, .int .i64 0, .int .i64 0, .int .i64 0] 32)) W0.heap.size (rawZ 0) from heap_alloc_new W0 _)
        have hlv4 := Lib.hid hHeld.1.size
        have hnv4 := Lib.hid (Nat.ne_of_lt hHeld.2.lt)
        refine hK.out _ _ hsv4.out (fun hHeld => ?_)
        clear hK
        (try simp only [Act.put]); (try simp only [List.setIfInBounds_toArray]); (try simp only [List.set_cons_succ]); (try simp only [List.set_cons_zero])
        generalize hbv4 : W0.heap.size = b0 at *
        generalize W0.alloc (.cells #[.string ⟨#[]⟩, .string ⟨#[]⟩, .string ⟨#[]⟩, .string ⟨#[]⟩, .string ⟨#[]⟩, .int .u8 0, .int .i64 0, .int .i64 0, .int .i64 0, .int .i64 0, .int .i64 0, .int .i64 0, .int .i64 0] 32) = v4 at *
        refine wpAnyH_ready (rs := [5]) (by kernel_rfl) (by simp) ?_
        refine AllReadyH.cons rfl (fun K hK => ?_) ?_
        · go_simp
          go_at_call 18
          with_reducible refine (C1.out _).mono ?_
          rintro e v5 ⟨q, k, hI, rfl, h4⟩
          unfold rawV
          have HI := Lib.hid hI
          clear hI
          have hsv5 := Lib.hid (show Below w.heap.size w v5 ∧ RawAt v5 w.heap.size r from ⟨hHeld.1.trans (h4.mono hHeld.1.size), hHeld.2.below h4 hHeld.2.lt⟩)
          have hqv5 := Lib.hid (hqv4.out.below h4 hqv4.out.lt)
          refine hK.out _ _ hsv5.out (fun hHeld => ?_)
          clear hK h4
          (try simp only [Act.put]); (try simp only [List.setIfInBounds_toArray]); (try simp only [List.set_cons_succ]); (try simp only [List.set_cons_zero])
          refine take_to (i := 6) 14 (.tuple #[.agg #[.string (mkS q.name), .string (mkS q.link), .string (mkS q.user), .string (mkS q.group), .string (mkS q.front), .int .u8 (q.kind.toNat : Int), .int .i64 q.mode, .int .i64 q.uid, .int .i64 q.gid, .int .i64 q.size, .int .i64 q.time, .int .i64 q.major, .int .i64 q.minor], .bool k]) rfl rfl (by kernel_rfl) (by kernel_rfl) (by kernel_rfl) (fun _ _ _ h => h) (Or.inl ⟨by rfl, fun _ _ => rfl⟩) (by assumption) ?_
          simp only [List.setIfInBounds_toArray, List.set_cons_succ, List.set_cons_zero]
          refine take_to (i := 7) 21 (.agg #[.string (mkS q.name), .string (mkS q.link), .string (mkS q.user), .string (mkS q.group), .string (mkS q.front), .int .u8 (q.kind.toNat : Int), .int .i64 q.mode, .int .i64 q.uid, .int .i64 q.gid, .int .i64 q.size, .int .i64 q.time, .int .i64 q.major, .int .i64 q.minor]) rfl rfl (by kernel_rfl) (by kernel_rfl) (by kernel_rfl) (fun _ _ _ h => h) (Or.inl ⟨by rfl, ?_⟩) (by assumption) ?_
          · (intro w hSw; obtain ⟨_, c0, c1, c2, c3, c4, c5, c6, c7, c8, c9, c10, c11, c12⟩ := hSw; go_simp; try with_reducible rfl)
          simp only [List.setIfInBounds_toArray, List.set_cons_succ, List.set_cons_zero]
          refine take_to (i := 8) 22 (.bool k) rfl rfl (by kernel_rfl) (by kernel_rfl) (by kernel_rfl) (fun _ _ _ h => h) (Or.inl ⟨by rfl, ?_⟩) (by assumption) ?_
          · (intro w hSw; obtain ⟨_, c0, c1, c2, c3, c4, c5, c6, c7, c8, c9, c10, c11, c12⟩ := hSw; go_simp; try with_reducible rfl)
          simp only [List.setIfInBounds_toArray, List.set_cons_succ, List.set_cons_zero]
          refine wpAnyH_ready (rs := [10]) (by kernel_rfl) (by simp) ?_
          refine AllReadyH.cons rfl (fun K hK => ?_) AllReadyH.nil
          rw [if_pos (by rfl)]
          refine store_row_no rfl _ _ _ rfl b0 #[.string (mkS q.name), .string (mkS q.link), .string (mkS q.user), .string (mkS q.group), .string (mkS q.front), .int .u8 (q.kind.toNat : Int), .int .i64 q.mode, .int .i64 q.uid, .int .i64 q.gid, .int .i64 q.size, .int .i64 q.time, .int .i64 q.major, .int .i64 q.minor] rfl rfl _ _ hqv5.out infoRaw rfl (by kernel_rfl) ?_
          have hlb : w.heap.size ≤ b0 := hlv4.out
          have hB5 := Lib.hid (below_setRow hHeld.1 hlb #[.string (mkS q.name), .string (mkS q.link), .string (mkS q.user), .string (mkS q.group), .string (mkS q.front), .int .u8 (q.kind.toNat : Int), .int .i64 q.mode, .int .i64 q.uid, .int .i64 q.gid, .int .i64 q.size, .int .i64 q.time, .int .i64 q.major, .int .i64 q.minor])
          have hRq := Lib.hid (RawAt.of_row (r := q) (setRow_heap v5 _ _ #[.string (mkS q.name), .string (mkS q.link), .string (mkS q.user), .string (mkS q.group), .string (mkS q.front), .int .u8 (q.kind.toNat : Int), .int .i64 q.mode, .int .i64 q.uid, .int .i64 q.gid, .int .i64 q.size, .int .i64 q.time, .int .i64 q.major, .int .i64 q.minor] _ _ hqv5.out))
          have hne : w.heap.size ≠ b0 := hnv4.out
          refine hK.out _ _ ⟨hB5.out, hHeld.2.setRow hne _⟩ (fun hHeld => ?_)
          clear hK
          (try simp only [Act.put]); (try simp only [List.setIfInBounds_toArray]); (try simp only [List.set_cons_succ]); (try simp only [List.set_cons_zero])
          generalize v5.setRow b0 #[.string (mkS q.name), .string (mkS q.link), .string (mkS q.user), .string (mkS q.group), .string (mkS q.front), .int .u8 (q.kind.toNat : Int), .int .i64 q.mode, .int .i64 q.uid, .int .i64 q.gid, .int .i64 q.size, .int .i64 q.time, .int .i64 q.major, .int .i64 q.minor] = w6 at *
          refine take_to (i := 11) 8 (.bool k) rfl rfl (by kernel_rfl) (by kernel_rfl) (by kernel_rfl) (fun _ _ _ h => h) (Or.inl ⟨by rfl, ?_⟩) (by assumption) ?_
          · (intro w hSw; obtain ⟨_, c0, c1, c2, c3, c4, c5, c6, c7, c8, c9, c10, c11, c12⟩ := hSw; go_simp; try with_reducible rfl)
          simp only [List.setIfInBounds_toArray, List.set_cons_succ, List.set_cons_zero]
          refine wpAnyH_done (by kernel_rfl) ?_ _
          have hle := named_le HI.out
          cases k with
          | false =>
            clear hHeld
            go_wp2
            go_ret
            exact ⟨rfl, hB5.out⟩
          | true =>
            have C2 := Lib.hid (fun w => full_of q (by omega) w)
            rw [named_full HI.out] at C2
            unfold rawV at C2
            obtain ⟨c0, c1, c2, c3, c4, c5, c6, c7, c8, c9, c10, c11, c12⟩ := hRq.out
            clear hHeld
            go_wp2_with (go_at_call 19; (with_reducible refine (C2.out _).mono ?_); rintro e w7 ⟨rfl, h7⟩)
            go_ret
            exact ⟨by first | rfl | simp, hB5.out.trans (h7.mono hB5.out.size)⟩
        exact AllReadyH.nil
      exact AllReadyH.nil
    refine AllReadyH.cons rfl (fun K hK => ?_) ?_
    · go_simp
      have hsv6 := Lib.hid (show Below w.heap.size w (W0.alloc (.cells #[.string ⟨#[]⟩, .string ⟨#[]⟩, .string ⟨#[]⟩, .string ⟨#[]⟩, .string ⟨#[]⟩, .int .u8 0, .int .i64 0, .int .i64 0, .int .i64 0, .int .i64 0, .int .i64 0, .int .i64 0, .int .i64 0] 32)) ∧ RawAt (W0.alloc (.cells #[.string ⟨#[]⟩, .string ⟨#[]⟩, .string ⟨#[]⟩, .string ⟨#[]⟩, .string ⟨#[]⟩, .int .u8 0, .int .i64 0, .int .i64 0, .int .i64 0, .int .i64 0, .int .i64 0, .int .i64 0, .int .i64 0] 32)) w.heap.size r from ⟨hHeld.1.alloc hHeld.1.size _, hHeld.2.below ((Below.refl W0.heap.size W0).alloc (Nat.le_refl _) _) hHeld.2.lt⟩)
      have hqv6 := Lib.hid (show RawRow (W0.alloc (.cells #[.string ⟨#[]⟩, .string ⟨#[]⟩, .string ⟨#[]⟩, .string ⟨#[]⟩, .string ⟨#[]⟩, .int .u8 0, .int .i64 0, .int .i64 0, .int .i64 0, .int .i64 0, .int .i64 0, .int .i64 0, .int .i64 0] 32)) W0.heap.size (rawZ 0) from heap_alloc_new W0 _)
      have hlv6 := Lib.hid hHeld.1.size
      have hnv6 := Lib.hid (Nat.ne_of_lt hHeld.2.lt)
      refine hK.out _ _ hsv6.out (fun hHeld => ?_)
      clear hK
      (try simp only [Act.put]); (try simp only [List.setIfInBounds_toArray]); (try simp only [List.set_cons_succ]); (try simp only [List.set_cons_zero])
      generalize hbv6 : W0.heap.size = b0 at *
      generalize W0.alloc (.cells #[.string ⟨#[]⟩, .string ⟨#[]⟩, .string ⟨#[]⟩, .string ⟨#[]⟩, .string ⟨#[]⟩, .int .u8 0, .int .i64 0, .int .i64 0, .int .i64 0, .int .i64 0, .int .i64 0, .int .i64 0, .int .i64 0] 32) = v6 at *
      refine wpAnyH_ready (rs := [2]) (by kernel_rfl) (by simp) ?_
      refine AllReadyH.cons rfl (fun K hK => ?_) ?_
      · go_simp
        go_at_call 14
        with_reducible refine (P.out _).mono ?_
        rintro e v7 ⟨rfl, hw⟩
        replace hw := hw.symm
        subst hw
        refine hK.out _ _ hHeld (fun hHeld => ?_)
        clear hK
        (try simp only [Act.put]); (try simp only [List.setIfInBounds_toArray]); (try simp only [List.set_cons_succ]); (try simp only [List.set_cons_zero])
        refine take_to (i := 3) 18 (.int .i64 (1 + (p : Int))) rfl rfl (by kernel_rfl) (by kernel_rfl) (by kernel_rfl) (fun _ _ _ h => h) (Or.inl ⟨by rfl, ?_⟩) (by assumption) ?_
        · (intro w hSw; obtain ⟨_, c0, c1, c2, c3, c4, c5, c6, c7, c8, c9, c10, c11, c12⟩ := hSw; go_simp; try with_reducible rfl)
        simp only [List.setIfInBounds_toArray, List.set_cons_succ, List.set_cons_zero]
        refine wpAnyH_ready (rs := [5]) (by kernel_rfl) (by simp) ?_
        refine AllReadyH.cons rfl (fun K hK => ?_) ?_
        · go_simp
          go_at_call 18
          with_reducible refine (C1.out _).mono ?_
          rintro e v8 ⟨q, k, hI, rfl, h4⟩
          unfold rawV
          have HI := Lib.hid hI
          clear hI
          have hsv8 := Lib.hid (show Below w.heap.size w v8 ∧ RawAt v8 w.heap.size r from ⟨hHeld.1.trans (h4.mono hHeld.1.size), hHeld.2.below h4 hHeld.2.lt⟩)
          have hqv8 := Lib.hid (hqv6.out.below h4 hqv6.out.lt)
          refine hK.out _ _ hsv8.out (fun hHeld => ?_)
          clear hK h4
          (try simp only [Act.put]); (try simp only [List.setIfInBounds_toArray]); (try simp only [List.set_cons_succ]); (try simp only [List.set_cons_zero])
          refine take_to (i := 6) 14 (.tuple #[.agg #[.string (mkS q.name), .string (mkS q.link), .string (mkS q.user), .string (mkS q.group), .string (mkS q.front), .int .u8 (q.kind.toNat : Int), .int .i64 q.mode, .int .i64 q.uid, .int .i64 q.gid, .int .i64 q.size, .int .i64 q.time, .int .i64 q.major, .int .i64 q.minor], .bool k]) rfl rfl (by kernel_rfl) (by kernel_rfl) (by kernel_rfl) (fun _ _ _ h => h) (Or.inl ⟨by rfl, fun _ _ => rfl⟩) (by assumption) ?_
          simp only [List.setIfInBounds_toArray, List.set_cons_succ, List.set_cons_zero]
          refine take_to (i := 7) 21 (.agg #[.string (mkS q.name), .string (mkS q.link), .string (mkS q.user), .string (mkS q.group), .string (mkS q.front), .int .u8 (q.kind.toNat : Int), .int .i64 q.mode, .int .i64 q.uid, .int .i64 q.gid, .int .i64 q.size, .int .i64 q.time, .int .i64 q.major, .int .i64 q.minor]) rfl rfl (by kernel_rfl) (by kernel_rfl) (by kernel_rfl) (fun _ _ _ h => h) (Or.inl ⟨by rfl, ?_⟩) (by assumption) ?_
          · (intro w hSw; obtain ⟨_, c0, c1, c2, c3, c4, c5, c6, c7, c8, c9, c10, c11, c12⟩ := hSw; go_simp; try with_reducible rfl)
          simp only [List.setIfInBounds_toArray, List.set_cons_succ, List.set_cons_zero]
          refine take_to (i := 8) 22 (.bool k) rfl rfl (by kernel_rfl) (by kernel_rfl) (by kernel_rfl) (fun _ _ _ h => h) (Or.inl ⟨by rfl, ?_⟩) (by assumption) ?_
          · (intro w hSw; obtain ⟨_, c0, c1, c2, c3, c4, c5, c6, c7, c8, c9, c10, c11, c12⟩ := hSw; go_simp; try with_reducible rfl)
          simp only [List.setIfInBounds_toArray, List.set_cons_succ, List.set_cons_zero]
          refine wpAnyH_ready (rs := [10]) (by kernel_rfl) (by simp) ?_
          refine AllReadyH.cons rfl (fun K hK => ?_) AllReadyH.nil
          rw [if_pos (by rfl)]
          refine store_row_no rfl _ _ _ rfl b0 #[.string (mkS q.name), .string (mkS q.link), .string (mkS q.user), .string (mkS q.group), .string (mkS q.front), .int .u8 (q.kind.toNat : Int), .int .i64 q.mode, .int .i64 q.uid, .int .i64 q.gid, .int .i64 q.size, .int .i64 q.time, .int .i64 q.major, .int .i64 q.minor] rfl rfl _ _ hqv8.out infoRaw rfl (by kernel_rfl) ?_
          have hlb : w.heap.size ≤ b0 := hlv6.out
          have hB5 := Lib.hid (below_setRow hHeld.1 hlb #[.string (mkS q.name), .string (mkS q.link), .string (mkS q.user), .string (mkS q.group), .string (mkS q.front), .int .u8 (q.kind.toNat : Int), .int .i64 q.mode, .int .i64 q.uid, .int .i64 q.gid, .int .i64 q.size, .int .i64 q.time, .int .i64 q.major, .int .i64 q.minor])
          have hRq := Lib.hid (RawAt.of_row (r := q) (setRow_heap v8 _ _ #[.string (mkS q.name), .string (mkS q.link), .string (mkS q.user), .string (mkS q.group), .string (mkS q.front), .int .u8 (q.kind.toNat : Int), .int .i64 q.mode, .int .i64 q.uid, .int .i64 q.gid, .int .i64 q.size, .int .i64 q.time, .int .i64 q.major, .int .i64 q.minor] _ _ hqv8.out))
          have hne : w.heap.size ≠ b0 := hnv6.out
          refine hK.out _ _ ⟨hB5.out, hHeld.2.setRow hne _⟩ (fun hHeld => ?_)
          clear hK
          (try simp only [Act.put]); (try simp only [List.setIfInBounds_toArray]); (try simp only [List.set_cons_succ]); (try simp only [List.set_cons_zero])
          generalize v8.setRow b0 #[.string (mkS q.name), .string (mkS q.link), .string (mkS q.user), .string (mkS q.group), .string (mkS q.front), .int .u8 (q.kind.toNat : Int), .int .i64 q.mode, .int .i64 q.uid, .int .i64 q.gid, .int .i64 q.size, .int .i64 q.time, .int .i64 q.major, .int .i64 q.minor] = w6 at *
          refine take_to (i := 11) 8 (.bool k) rfl rfl (by kernel_rfl) (by kernel_rfl) (by kernel_rfl) (fun _ _ _ h => h) (Or.inl ⟨by rfl, ?_⟩) (by assumption) ?_
          · (intro w hSw; obtain ⟨_, c0, c1, c2, c3, c4, c5, c6, c7, c8, c9, c10, c11, c12⟩ := hSw; go_simp; try with_reducible rfl)
          simp only [List.setIfInBounds_toArray, List.set_cons_succ, List.set_cons_zero]
          refine wpAnyH_done (by kernel_rfl) ?_ _
          have hle := named_le HI.out
          cases k with
          | false =>
            clear hHeld
            go_wp2
            go_ret
            exact ⟨rfl, hB5.out⟩
          | true =>
            have C2 := Lib.hid (fun w => full_of q (by omega) w)
            rw [named_full HI.out] at C2
            unfold rawV at C2
            obtain ⟨c0, c1, c2, c3, c4, c5, c6, c7, c8, c9, c10, c11, c12⟩ := hRq.out
            clear hHeld
            go_wp2_with (go_at_call 19; (with_reducible refine (C2.out _).mono ?_); rintro e w7 ⟨rfl, h7⟩)
            go_ret
            exact ⟨by first | rfl | simp, hB5.out.trans (h7.mono hB5.out.size)⟩
        exact AllReadyH.nil
      exact AllReadyH.nil
    exact AllReadyH.nil
end Go.Proofs.YtapfkjdkpcgoiaaDoor
