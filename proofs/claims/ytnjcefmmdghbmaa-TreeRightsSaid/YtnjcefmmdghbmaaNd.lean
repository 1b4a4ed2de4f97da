/- Nd: what the texts of the name hold, joined. -/
import Derived.Test.YtnjcefmmdghbmaaEp
import Derived.Test.YtnjcefmmdghbmaaOo
import Derived.Deep.Fields
import Derived.SizedLaws
import Derived.WideShapes
import Derived.ChangeSame
import Derived.Laws.StructEq
import Derived.Carry
import Derived.Deep.DeepCutAuto
set_option linter.unusedSimpArgs false
set_option linter.unusedVariables false
section
/- A file as a struct value of ten cells: opened, sized; no run in it. -/
namespace Go.Proofs.Ytnjcefmmdghbmaa
open Go.RowKit Go.Joins Go.ChangeShapes Go.WideShapes Go.Deep
set_option linter.unusedVariables false

/-- A file. -/
structure NodL where
  kind : UInt8
  mode : Int
  uid : Int
  gid : Int
  sec : Int
  nano : Int
  data : List UInt8
  link : List UInt8
  major : Int
  minor : Int
  deriving DecidableEq
def intsN (e : NodL) : Prop := i64 e.mode ∧ i64 e.uid ∧ i64 e.gid ∧ i64 e.sec ∧ i64 e.nano ∧ i64 e.major ∧ i64 e.minor
/-- Its texts reach no further than a machine. -/
def textsN (e : NodL) : Prop := e.data.length ≤ reachBytes ∧ e.link.length ≤ reachBytes
/-- as a value. -/
abbrev nodV (e : NodL) : Value := .agg #[.int .u8 (e.kind.toNat : Int), .int .i64 e.mode, .int .i64 e.uid, .int .i64 e.gid, .int .i64 e.sec, .int .i64 e.nano, .string (mkS e.data), .string (mkS e.link), .int .i64 e.major, .int .i64 e.minor]
/-- as cells. -/
abbrev nodC (e : NodL) : Array Value := #[.int .u8 (e.kind.toNat : Int), .int .i64 e.mode, .int .i64 e.uid, .int .i64 e.gid, .int .i64 e.sec, .int .i64 e.nano, .string (mkS e.data), .string (mkS e.link), .int .i64 e.major, .int .i64 e.minor]
/-- as data. -/
abbrev nodD {H : Type} (e : NodL) : DataW H := .agg [.lit (.int .u8 (e.kind.toNat : Int)), .lit (.int .i64 e.mode), .lit (.int .i64 e.uid), .lit (.int .i64 e.gid), .agg [.lit (.int .i64 e.sec), .lit (.int .i64 e.nano)], .lit (.string e.data), .lit (.string e.link), .lit (.int .i64 e.major), .lit (.int .i64 e.minor)]
theorem listN10 {α : Type} {l : List α} (h : l.length = 10) : ∃ c0 c1 c2 c3 c4 c5 c6 c7 c8 c9, l = [c0, c1, c2, c3, c4, c5, c6, c7, c8, c9] := by
  match l, h with
  | [c0, c1, c2, c3, c4, c5, c6, c7, c8, c9], _ => exact ⟨c0, c1, c2, c3, c4, c5, c6, c7, c8, c9, rfl⟩
theorem arrayN10 {α : Type} {l : Array α} (h : l.size = 10) : ∃ c0 c1 c2 c3 c4 c5 c6 c7 c8 c9, l = #[c0, c1, c2, c3, c4, c5, c6, c7, c8, c9] := by
  obtain ⟨l⟩ := l
  obtain ⟨c0, c1, c2, c3, c4, c5, c6, c7, c8, c9, rfl⟩ := listN10 (show l.length = 10 from h)
  exact ⟨c0, c1, c2, c3, c4, c5, c6, c7, c8, c9, rfl⟩
theorem listN9 {α : Type} {l : List α} (h : l.length = 9) : ∃ c0 c1 c2 c3 c4 c5 c6 c7 c8, l = [c0, c1, c2, c3, c4, c5, c6, c7, c8] := by
  match l, h with
  | [c0, c1, c2, c3, c4, c5, c6, c7, c8], _ => exact ⟨c0, c1, c2, c3, c4, c5, c6, c7, c8, rfl⟩
theorem arrayN9 {α : Type} {l : Array α} (h : l.size = 9) : ∃ c0 c1 c2 c3 c4 c5 c6 c7 c8, l = #[c0, c1, c2, c3, c4, c5, c6, c7, c8] := by
  obtain ⟨l⟩ := l
  obtain ⟨c0, c1, c2, c3, c4, c5, c6, c7, c8, rfl⟩ := listN9 (show l.length = 9 from h)
  exact ⟨c0, c1, c2, c3, c4, c5, c6, c7, c8, rfl⟩
section
variable {H : Type} {enc : TypeId × Value → H} {P : Program} {w : World}
theorem open_node {r : Reach} {b0 : Nat} {t tt : TypeId} {fs : Array Field} {g0 g1 : Field} {v : Value} {d : DataW H} {ps : List MemPlace} (hs : P.underlying t = some (.struct fs)) (hC : P.cellsOf t = 10) (hT : P.underlying tt = some (.struct #[g0, g1]))
    (hoff : fs.toList.map (fun f => (f.offset, P.cellsOf f.type)) = [(0, 1), (1, 1), (2, 1), (3, 1), (4, 2), (6, 1), (7, 1), (8, 1), (9, 1)])
    (hty : fs.toList.map (fun f => P.underlying f.type) = [some (.int .u8), some (.int .i64), some (.int .i64), some (.int .i64), some (.struct #[g0, g1]), some .string, some .string, some (.int .i64), some (.int .i64)])
    (hg : (g0.offset, g1.offset, P.cellsOf g0.type, P.cellsOf g1.type) = (0, 1, 1, 1)) (hg0 : P.underlying g0.type = some (.int .i64)) (hg1 : P.underlying g1.type = some (.int .i64))
    (hv : Value.okWide P w r b0 t v) (h : DataW.Trod enc P w 0 (fun _ => true) true t v d ps) :
    ∃ (q : NodL), v = nodV q ∧ d = nodD q ∧ ps = [] ∧ intsN q := by
  obtain ⟨cs, rfl, hsz⟩ := okWide_struct hs hv
  obtain ⟨fuel, hf⟩ := h
  obtain ⟨xs, n, _, hx, _, hlen, hfld⟩ := DataW.trod_struct hs hf
  have hfl : fs.size = 9 := by have := congrArg List.length hty; simpa using this
  obtain ⟨f0, f1, f2, f3, f4, f5, f6, f7, f8, rfl⟩ := arrayN9 hfl
  obtain ⟨c0, c1, c2, c3, c4, c5, c6, c7, c8, c9, rfl⟩ := arrayN10 (hsz.trans hC)
  obtain ⟨y0, y1, y2, y3, y4, y5, y6, y7, y8, rfl⟩ := listN9 (hlen.trans hfl)
  simp only [List.map_cons, List.map_nil, List.cons.injEq, and_true] at hty
  simp only [List.map_cons, List.map_nil, List.cons.injEq, and_true, Prod.mk.injEq] at hoff
  obtain ⟨e0, e1, e2, e3, e4, e5, e6, e7, e8⟩ := hty
  obtain ⟨⟨o0, k0⟩, ⟨o1, k1⟩, ⟨o2, k2⟩, ⟨o3, k3⟩, ⟨o4, k4⟩, ⟨o5, k5⟩, ⟨o6, k6⟩, ⟨o7, k7⟩, ⟨o8, k8⟩⟩ := hoff
  simp only [Prod.mk.injEq] at hg
  obtain ⟨q0, q1, q2, q3⟩ := hg
  have t0 : DataW.trod enc P w 0 (fun _ => true) true n f0.type [c0] = some y0 := by have := hfld 0 f0 rfl; rw [o0, k0] at this; exact this
  have t1 : DataW.trod enc P w 0 (fun _ => true) true n f1.type [c1] = some y1 := by have := hfld 1 f1 rfl; rw [o1, k1] at this; exact this
  have t2 : DataW.trod enc P w 0 (fun _ => true) true n f2.type [c2] = some y2 := by have := hfld 2 f2 rfl; rw [o2, k2] at this; exact this
  have t3 : DataW.trod enc P w 0 (fun _ => true) true n f3.type [c3] = some y3 := by have := hfld 3 f3 rfl; rw [o3, k3] at this; exact this
  have t4 : DataW.trod enc P w 0 (fun _ => true) true n f4.type [c4, c5] = some y4 := by have := hfld 4 f4 rfl; rw [o4, k4] at this; exact this
  have t5 : DataW.trod enc P w 0 (fun _ => true) true n f5.type [c6] = some y5 := by have := hfld 5 f5 rfl; rw [o5, k5] at this; exact this
  have t6 : DataW.trod enc P w 0 (fun _ => true) true n f6.type [c7] = some y6 := by have := hfld 6 f6 rfl; rw [o6, k6] at this; exact this
  have t7 : DataW.trod enc P w 0 (fun _ => true) true n f7.type [c8] = some y7 := by have := hfld 7 f7 rfl; rw [o7, k7] at this; exact this
  have t8 : DataW.trod enc P w 0 (fun _ => true) true n f8.type [c9] = some y8 := by have := hfld 8 f8 rfl; rw [o8, k8] at this; exact this
  obtain ⟨s0, h0, rfl, m0⟩ := DataW.trod_int e0 t0
  obtain ⟨s1, h1, rfl, m1⟩ := DataW.trod_int e1 t1
  obtain ⟨s2, h2, rfl, m2⟩ := DataW.trod_int e2 t2
  obtain ⟨s3, h3, rfl, m3⟩ := DataW.trod_int e3 t3
  obtain ⟨z0, z1, m, rfl, p4, u0, u1⟩ := trod_struct2 e4 t4
  rw [q0, q2] at u0
  rw [q1, q3] at u1
  obtain ⟨s4, h4, rfl, m4⟩ := DataW.trod_int hg0 (show DataW.trod enc P w 0 (fun _ => true) true m g0.type [c4] = some z0 from u0)
  obtain ⟨s5, h5, rfl, m5⟩ := DataW.trod_int hg1 (show DataW.trod enc P w 0 (fun _ => true) true m g1.type [c5] = some z1 from u1)
  obtain ⟨s6, h6, rfl, m6⟩ := DataW.trod_string e5 t5
  obtain ⟨s7, h7, rfl, m7⟩ := DataW.trod_string e6 t6
  obtain ⟨s8, h8, rfl, m8⟩ := DataW.trod_int e7 t7
  obtain ⟨s9, h9, rfl, m9⟩ := DataW.trod_int e8 t8
  simp only [List.cons.injEq, and_true] at h0 h1 h2 h3 h4 h5 h6 h7 h8 h9
  subst h0 h1 h2 h3 h4 h5 h6 h7 h8 h9
  obtain ⟨s0, rfl⟩ := u8_of m0
  simp only [List.map_cons, List.map_nil, List.flatten_cons, List.flatten_nil, List.append_nil, List.nil_append, Prod.mk.injEq] at hx
  obtain ⟨rfl, hps⟩ := hx
  refine ⟨⟨s0, s1, s2, s3, s4, s5, s6.data.toList, s7.data.toList, s8, s9⟩, ?_, rfl, ?_, ⟨i64_of m1, i64_of m2, i64_of m3, i64_of m4, i64_of m5, i64_of m8, i64_of m9⟩⟩
  · simp only [nodV, mkS_self]
  · simpa using hps
theorem sized_node {ts : List TypeId} {ds : List (DataW H)} (h : (DataW.weightsEach P ts ds).all (· ≤ reachBytes) = true) {j : Nat} {t : TypeId} {fs : Array Field} {q : NodL} (ht : ts[j]? = some t) (hd : ds[j]? = some (nodD q)) (hu : P.underlying t = some (.struct fs)) (hfl : fs.size = 9) : textsN q := by
  obtain ⟨f0, f1, f2, f3, f4, f5, f6, f7, f8, rfl⟩ := arrayN9 hfl
  have h0 := List.all_eq_true.1 h _ (DataW.weights_mem_each ht hd q.data.length (by simp [DataW.weights, DataW.weightsEach, hu]))
  have h1 := List.all_eq_true.1 h _ (DataW.weights_mem_each ht hd q.link.length (by simp [DataW.weights, DataW.weightsEach, hu]))
  exact ⟨by simpa using h0, by simpa using h1⟩
end
end Go.Proofs.Ytnjcefmmdghbmaa
end
section
/- Files that are valid: tree.Right, the reference's NodeRight, the law TreeRights. -/
namespace Go.Proofs.Ytnjcefmmdghbmaa
open Go.RowKit Go.Joins
set_option linter.unusedVariables false
set_option linter.unusedSimpArgs false

theorem fitsN_dec (n m : Int) : fitsI n m = decide (0 ≤ n ∧ n ≤ m) := by unfold fitsI; by_cases h1 : 0 ≤ n <;> by_cases h2 : n ≤ m <;> simp [h1, h2]
theorem wrapN_u8 (c : UInt8) : IntKind.i64.wrap (c.toNat : Int) = (c.toNat : Int) := by
  have := c.toNat_lt
  exact IntWalk.i64_in _ ⟨by omega, by omega⟩
theorem plainN (s : List UInt8) (hs : s.length ≤ 9223372036854775807) (w : World) :
    Calls Try.prog 9 #[.string (mkS s), .int .i64 120] w fun e w' => e = .returned (.bool (txtOk s 120)) ∧ w' = w := refPlain_any s 120 hs w
theorem regrownN_eq2 {P : Program} {f : FuncId} {args : Array Value} {w : World} {v : Value} (h : Calls P f args w fun e w' => e = .returned v ∧ w = w') : Calls P f args w fun e w' => e = .returned v ∧ Below w.heap.size w w' :=
  h.mono fun e w' ⟨he, hw⟩ => ⟨he, by rw [hw]; exact Below.refl _ _⟩
/-- The member that is asked for a file. -/
def nodeE (q : NodL) : EntL := { name := [110, 97, 109, 101], kind := q.kind, mode := q.mode, uid := q.uid, gid := q.gid, size := (q.data.length : Int), sec := q.sec, nano := q.nano, link := q.link, user := [], group := [], major := q.major, minor := q.minor, data := q.data, map := [] }
def rightNd (q : NodL) : Bool := !decide (q.kind = 49) && rightE (nodeE q)
theorem nodeE_ok {q : NodL} (hi : intsN q) (ht : textsN q) : EntOk (nodeE q) := by
  obtain ⟨h1, h2, h3, h4, h5, h6, h7⟩ := hi
  obtain ⟨t1, t2⟩ := ht
  have hr := reachBytes_lt
  refine ⟨⟨h1, h2, h3, ⟨by show (-9223372036854775808 : Int) ≤ (q.data.length : Int); omega, by show (q.data.length : Int) ≤ 9223372036854775807; omega⟩, h4, h5, h6, h7⟩, ⟨by show (4 : Nat) ≤ reachBytes; decide, t2, by show (0 : Nat) ≤ reachBytes; omega, by show (0 : Nat) ≤ reachBytes; omega, t1⟩, by show (0 : Nat) ≤ maxLen; omega, fun p hp => by cases hp⟩
theorem row_cellN {w : World} {b : Nat} {cs : Array Value} {t : TypeId} {fr : Nat × Nat} (h : w.heap[b]? = some (.cells cs t fr)) (i : Nat) (v : Value) (hv : cs[i]? = some v) : w.cell? ⟨b, i, none⟩ = some v := by simp only [World.cell?, h]; exact hv
set_option maxRecDepth 100000 in
set_option maxHeartbeats 8000000 in
theorem treeRight_any (q : NodL) (hi : intsN q) (ht : textsN q) (w : World) :
    Calls Try.prog 4 #[nodV q] w fun r w' => r = .returned (.bool (rightNd q)) ∧ Below w.heap.size w w' := by
  have sd := mkS_size q.data
  have hr := reachBytes_lt
  have hdl : (q.data.length : Int) ≤ 200000000000000 := by have := ht.1; omega
  have y49 : ((q.kind.toNat : Int) == 49) = (q.kind == 49) := u8_at q.kind 49 (by omega)
  have z49 : ((q.kind.toNat : Int) != 49) = !(q.kind == 49) := by rw [bne, y49]
  have hB := Lib.hid (below_alloc1 w (.cells (nodC q) 25))
  have HN := Lib.hid (heap_alloc_new w (.cells (nodC q) 25))
  have KR := Lib.hid (fun W (h : Below w.heap.size w W) => show Calls Try.prog 6 #[.agg #[.string { data := #[110, 97, 109, 101] }, .int .u8 (q.kind.toNat : Int), .int .i64 q.mode, .int .i64 q.uid, .int .i64 q.gid, .int .i64 (q.data.length : Int), .int .i64 q.sec, .int .i64 q.nano, .string (mkS q.link), .string { data := #[] }, .string { data := #[] }, .int .i64 q.major, .int .i64 q.minor, .string (mkS q.data), .slice none 0 0]] W (fun r w' => r = .returned (.bool (rightE (nodeE q))) ∧ Below W.heap.size W w') from rightM_any (nodeE q) none 0 (nodeE_ok hi ht) W (fun i p h => by simp [nodeE] at h))
  have hk : (q.kind == 49) = decide (q.kind = 49) := by by_cases h : q.kind = 49 <;> simp [h]
  unfold rightNd
  generalize rightE (nodeE q) = R at *
  clear hi ht hr
  by_cases h : q.kind = 49
  · rw [hk, decide_eq_true h] at z49
    rw [decide_eq_true h]
    clear h hk y49 KR
    go_enter Try.func4, Try.ntmps4
    go_wp2
    go_ret
    exact ⟨rfl, hB.out⟩
  · rw [hk, decide_eq_false h] at z49
    rw [decide_eq_false h]
    clear h hk y49
    go_enter Try.func4, Try.ntmps4
    go_wp2_with (first
      | (go_at_call 6; (with_reducible refine (KR.out _ hB.out).mono ?_); rintro r w2 ⟨rfl, h2⟩; have hB2 := Lib.hid (hB.out.trans (h2.mono hB.out.size)); clear h2)
      | fail)
    go_ret
    exact ⟨by cases R <;> rfl, hB2.out⟩
set_option maxRecDepth 100000 in
set_option maxHeartbeats 8000000 in
theorem node_49 (q : NodL) (hi : intsN q) (ht : textsN q) (K x48 x49 x50 D m1 m2 m3 tR bl p1 mj mn : Bool) (w : World)
    (hK : decide (48 ≤ (q.kind.toNat : Int) ∧ (q.kind.toNat : Int) ≤ 54) = K) (h48 : (q.kind == 48) = x48) (h49 : (q.kind == 49) = x49) (h50 : (q.kind == 50) = x50) (hD : isDevB q.kind = D) (hm1 : fitsI q.mode 4095 = m1) (hm2 : fitsI q.uid 1099511627775 = m2) (hm3 : fitsI q.gid 1099511627775 = m3) (htR : St.rightB q.sec q.nano = tR) (hbl : decide (q.link = []) = bl) (hp1 : txtOk q.link 120 = p1) (hmj : fitsI q.major (2097151 * (if D then 1 else 0)) = mj) (hmn : fitsI q.minor (2097151 * (if D then 1 else 0)) = mn)  (e : x49 = true) :
    Calls Try.prog 5 #[nodV q] w fun r w' => r = .returned (.bool (!x49 && (K && (m1 && (m2 && (m3 && (tR && ((x50 != bl) && (p1 && (mj && (mn && decide ((q.data.length : Int) ≤ 4000 * (if x48 then 1 else 0))))))))))))) ∧ Below w.heap.size w w' := by
  have hr := reachBytes_lt
  have sd := mkS_size q.data
  have hdl : (q.data.length : Int) ≤ 200000000000000 := by have := ht.1; omega
  have hll : q.link.length ≤ 9223372036854775807 := by have := ht.2; omega
  have hwr := wrapN_u8 q.kind
  have el := emp_dec q.link
  have y48 : ((q.kind.toNat : Int) == 48) = (q.kind == 48) := u8_at q.kind 48 (by omega)
  have y49 : ((q.kind.toNat : Int) == 49) = (q.kind == 49) := u8_at q.kind 49 (by omega)
  have y50 : ((q.kind.toNat : Int) == 50) = (q.kind == 50) := u8_at q.kind 50 (by omega)
  have y51 : ((q.kind.toNat : Int) == 51) = (q.kind == 51) := u8_at q.kind 51 (by omega)
  have y52 : ((q.kind.toNat : Int) == 52) = (q.kind == 52) := u8_at q.kind 52 (by omega)
  have hB := Lib.hid (below_alloc1 w (.cells (nodC q) 25))
  have HN := Lib.hid (heap_alloc_new w (.cells (nodC q) 25))
  have CW := Lib.hid (fun w => within_any (q.kind.toNat : Int) 48 54 w)
  have W1 := Lib.hid (fun w => within_any q.mode 0 4095 w)
  have W2 := Lib.hid (fun w => within_any q.uid 0 1099511627775 w)
  have W3 := Lib.hid (fun w => within_any q.gid 0 1099511627775 w)
  have W4 := Lib.hid (fun w => within_any q.major 0 (2097151 * (if D then 1 else 0)) w)
  have W5 := Lib.hid (fun w => within_any q.minor 0 (2097151 * (if D then 1 else 0)) w)
  have TR := Lib.hid (fun w => St.refRight_any q.sec q.nano w)
  have O := Lib.hid (fun w => one_any D w)
  have O8 := Lib.hid (fun w => one_any x48 w)
  have P1 := Lib.hid (fun w => plainN q.link hll w)
  rw [hK] at CW
  rw [← fitsN_dec, hm1] at W1
  rw [← fitsN_dec, hm2] at W2
  rw [← fitsN_dec, hm3] at W3
  rw [← fitsN_dec, hmj] at W4
  rw [← fitsN_dec, hmn] at W5
  rw [htR] at TR
  rw [hp1] at P1
  rw [hbl] at el
  rw [h48] at y48
  rw [h49] at y49
  rw [h50] at y50
  unfold isDevB at hD
  generalize (q.kind == 51) = x51 at *
  generalize (q.kind == 52) = x52 at *
  clear hi ht hr hK hm1 hm2 hm3 hmj hmn htR hp1 hbl h48 h49 h50 hll
  obtain ⟨o8, ho8⟩ : ∃ q : Int, (if x48 then 1 else 0 : Int) = q := ⟨_, rfl⟩
  have hr1 : 0 ≤ o8 ∧ o8 ≤ 1 := by rw [← ho8]; cases x48 <;> simp
  rw [ho8] at O8 ⊢
  clear ho8
  obtain ⟨hr0, hr1⟩ := hr1
  go_enter Try.func5, Try.ntmps5
  go_upto_region 1 with fail
  go_cut [3] (fun s3 wx => s3 = .bool D ∧ wx = w.alloc (.cells (nodC q) 25))
  case first =>
    subst hD
    cases x51 <;> cases x52
    all_goals
      go_wp2
      go_meet
      exact ⟨rfl, rfl⟩
  case rest =>
    obtain ⟨rfl, rfl⟩ := hcut
    clear y51 y52 hD
    obtain ⟨o1, ho1⟩ : ∃ q : Int, (if D then 1 else 0 : Int) = q := ⟨_, rfl⟩
    have hq1 : 0 ≤ o1 ∧ o1 ≤ 1 := by rw [← ho1]; cases D <;> simp
    rw [ho1] at O W4 W5
    clear ho1
    obtain ⟨hq0, hq1⟩ := hq1
    subst  e
    go_wp2_with (first
      | (go_at_call 7; (with_reducible refine (CW.out _).mono ?_); rintro r w' ⟨rfl, hw⟩; subst hw)
      | (go_at_call 7; (with_reducible refine (W1.out _).mono ?_); rintro r w' ⟨rfl, hw⟩; subst hw)
      | (go_at_call 7; (with_reducible refine (W2.out _).mono ?_); rintro r w' ⟨rfl, hw⟩; subst hw)
      | (go_at_call 7; (with_reducible refine (W3.out _).mono ?_); rintro r w' ⟨rfl, hw⟩; subst hw)
      | (go_at_call 8; (with_reducible refine (TR.out _).mono ?_); rintro r w2 ⟨rfl, h2⟩; have hB2 := Lib.hid (hB.out.trans (h2.mono hB.out.size)); have HN2 := Lib.hid ((h2.block _ (Array.getElem?_eq_some_iff.1 HN.out).1).trans HN.out); clear h2; have c0 := row_cellN HN2.out 0 _ rfl; have c1 := row_cellN HN2.out 1 _ rfl; have c2 := row_cellN HN2.out 2 _ rfl; have c3 := row_cellN HN2.out 3 _ rfl; have c4 := row_cellN HN2.out 4 _ rfl; have c5 := row_cellN HN2.out 5 _ rfl; have c6 := row_cellN HN2.out 6 _ rfl; have c7 := row_cellN HN2.out 7 _ rfl; have c8 := row_cellN HN2.out 8 _ rfl; have c9 := row_cellN HN2.out 9 _ rfl)
      | fail)
    go_ret
    exact ⟨by first | rfl | simp, hB.out⟩
set_option maxRecDepth 100000 in
set_option maxHeartbeats 8000000 in
theorem node_K (q : NodL) (hi : intsN q) (ht : textsN q) (K x48 x49 x50 D m1 m2 m3 tR bl p1 mj mn : Bool) (w : World)
    (hK : decide (48 ≤ (q.kind.toNat : Int) ∧ (q.kind.toNat : Int) ≤ 54) = K) (h48 : (q.kind == 48) = x48) (h49 : (q.kind == 49) = x49) (h50 : (q.kind == 50) = x50) (hD : isDevB q.kind = D) (hm1 : fitsI q.mode 4095 = m1) (hm2 : fitsI q.uid 1099511627775 = m2) (hm3 : fitsI q.gid 1099511627775 = m3) (htR : St.rightB q.sec q.nano = tR) (hbl : decide (q.link = []) = bl) (hp1 : txtOk q.link 120 = p1) (hmj : fitsI q.major (2097151 * (if D then 1 else 0)) = mj) (hmn : fitsI q.minor (2097151 * (if D then 1 else 0)) = mn) (e49 : x49 = false) (e : K = false) :
    Calls Try.prog 5 #[nodV q] w fun r w' => r = .returned (.bool (!x49 && (K && (m1 && (m2 && (m3 && (tR && ((x50 != bl) && (p1 && (mj && (mn && decide ((q.data.length : Int) ≤ 4000 * (if x48 then 1 else 0))))))))))))) ∧ Below w.heap.size w w' := by
  have hr := reachBytes_lt
  have sd := mkS_size q.data
  have hdl : (q.data.length : Int) ≤ 200000000000000 := by have := ht.1; omega
  have hll : q.link.length ≤ 9223372036854775807 := by have := ht.2; omega
  have hwr := wrapN_u8 q.kind
  have el := emp_dec q.link
  have y48 : ((q.kind.toNat : Int) == 48) = (q.kind == 48) := u8_at q.kind 48 (by omega)
  have y49 : ((q.kind.toNat : Int) == 49) = (q.kind == 49) := u8_at q.kind 49 (by omega)
  have y50 : ((q.kind.toNat : Int) == 50) = (q.kind == 50) := u8_at q.kind 50 (by omega)
  have y51 : ((q.kind.toNat : Int) == 51) = (q.kind == 51) := u8_at q.kind 51 (by omega)
  have y52 : ((q.kind.toNat : Int) == 52) = (q.kind == 52) := u8_at q.kind 52 (by omega)
  have hB := Lib.hid (below_alloc1 w (.cells (nodC q) 25))
  have HN := Lib.hid (heap_alloc_new w (.cells (nodC q) 25))
  have CW := Lib.hid (fun w => within_any (q.kind.toNat : Int) 48 54 w)
  have W1 := Lib.hid (fun w => within_any q.mode 0 4095 w)
  have W2 := Lib.hid (fun w => within_any q.uid 0 1099511627775 w)
  have W3 := Lib.hid (fun w => within_any q.gid 0 1099511627775 w)
  have W4 := Lib.hid (fun w => within_any q.major 0 (2097151 * (if D then 1 else 0)) w)
  have W5 := Lib.hid (fun w => within_any q.minor 0 (2097151 * (if D then 1 else 0)) w)
  have TR := Lib.hid (fun w => St.refRight_any q.sec q.nano w)
  have O := Lib.hid (fun w => one_any D w)
  have O8 := Lib.hid (fun w => one_any x48 w)
  have P1 := Lib.hid (fun w => plainN q.link hll w)
  rw [hK] at CW
  rw [← fitsN_dec, hm1] at W1
  rw [← fitsN_dec, hm2] at W2
  rw [← fitsN_dec, hm3] at W3
  rw [← fitsN_dec, hmj] at W4
  rw [← fitsN_dec, hmn] at W5
  rw [htR] at TR
  rw [hp1] at P1
  rw [hbl] at el
  rw [h48] at y48
  rw [h49] at y49
  rw [h50] at y50
  unfold isDevB at hD
  generalize (q.kind == 51) = x51 at *
  generalize (q.kind == 52) = x52 at *
  clear hi ht hr hK hm1 hm2 hm3 hmj hmn htR hp1 hbl h48 h49 h50 hll
  obtain ⟨o8, ho8⟩ : ∃ q : Int, (if x48 then 1 else 0 : Int) = q := ⟨_, rfl⟩
  have hr1 : 0 ≤ o8 ∧ o8 ≤ 1 := by rw [← ho8]; cases x48 <;> simp
  rw [ho8] at O8 ⊢
  clear ho8
  obtain ⟨hr0, hr1⟩ := hr1
  go_enter Try.func5, Try.ntmps5
  go_upto_region 1 with fail
  go_cut [3] (fun s3 wx => s3 = .bool D ∧ wx = w.alloc (.cells (nodC q) 25))
  case first =>
    subst hD
    cases x51 <;> cases x52
    all_goals
      go_wp2
      go_meet
      exact ⟨rfl, rfl⟩
  case rest =>
    obtain ⟨rfl, rfl⟩ := hcut
    clear y51 y52 hD
    obtain ⟨o1, ho1⟩ : ∃ q : Int, (if D then 1 else 0 : Int) = q := ⟨_, rfl⟩
    have hq1 : 0 ≤ o1 ∧ o1 ≤ 1 := by rw [← ho1]; cases D <;> simp
    rw [ho1] at O W4 W5
    clear ho1
    obtain ⟨hq0, hq1⟩ := hq1
    subst e49 e
    go_wp2_with (first
      | (go_at_call 7; (with_reducible refine (CW.out _).mono ?_); rintro r w' ⟨rfl, hw⟩; subst hw)
      | (go_at_call 7; (with_reducible refine (W1.out _).mono ?_); rintro r w' ⟨rfl, hw⟩; subst hw)
      | (go_at_call 7; (with_reducible refine (W2.out _).mono ?_); rintro r w' ⟨rfl, hw⟩; subst hw)
      | (go_at_call 7; (with_reducible refine (W3.out _).mono ?_); rintro r w' ⟨rfl, hw⟩; subst hw)
      | (go_at_call 8; (with_reducible refine (TR.out _).mono ?_); rintro r w2 ⟨rfl, h2⟩; have hB2 := Lib.hid (hB.out.trans (h2.mono hB.out.size)); have HN2 := Lib.hid ((h2.block _ (Array.getElem?_eq_some_iff.1 HN.out).1).trans HN.out); clear h2; have c0 := row_cellN HN2.out 0 _ rfl; have c1 := row_cellN HN2.out 1 _ rfl; have c2 := row_cellN HN2.out 2 _ rfl; have c3 := row_cellN HN2.out 3 _ rfl; have c4 := row_cellN HN2.out 4 _ rfl; have c5 := row_cellN HN2.out 5 _ rfl; have c6 := row_cellN HN2.out 6 _ rfl; have c7 := row_cellN HN2.out 7 _ rfl; have c8 := row_cellN HN2.out 8 _ rfl; have c9 := row_cellN HN2.out 9 _ rfl)
      | fail)
    go_ret
    exact ⟨by first | rfl | simp, hB.out⟩
set_option maxRecDepth 100000 in
set_option maxHeartbeats 8000000 in
theorem node_1 (q : NodL) (hi : intsN q) (ht : textsN q) (K x48 x49 x50 D m1 m2 m3 tR bl p1 mj mn : Bool) (w : World)
    (hK : decide (48 ≤ (q.kind.toNat : Int) ∧ (q.kind.toNat : Int) ≤ 54) = K) (h48 : (q.kind == 48) = x48) (h49 : (q.kind == 49) = x49) (h50 : (q.kind == 50) = x50) (hD : isDevB q.kind = D) (hm1 : fitsI q.mode 4095 = m1) (hm2 : fitsI q.uid 1099511627775 = m2) (hm3 : fitsI q.gid 1099511627775 = m3) (htR : St.rightB q.sec q.nano = tR) (hbl : decide (q.link = []) = bl) (hp1 : txtOk q.link 120 = p1) (hmj : fitsI q.major (2097151 * (if D then 1 else 0)) = mj) (hmn : fitsI q.minor (2097151 * (if D then 1 else 0)) = mn) (e49 : x49 = false) (eK : K = true) (e : m1 = false) :
    Calls Try.prog 5 #[nodV q] w fun r w' => r = .returned (.bool (!x49 && (K && (m1 && (m2 && (m3 && (tR && ((x50 != bl) && (p1 && (mj && (mn && decide ((q.data.length : Int) ≤ 4000 * (if x48 then 1 else 0))))))))))))) ∧ Below w.heap.size w w' := by
  have hr := reachBytes_lt
  have sd := mkS_size q.data
  have hdl : (q.data.length : Int) ≤ 200000000000000 := by have := ht.1; omega
  have hll : q.link.length ≤ 9223372036854775807 := by have := ht.2; omega
  have hwr := wrapN_u8 q.kind
  have el := emp_dec q.link
  have y48 : ((q.kind.toNat : Int) == 48) = (q.kind == 48) := u8_at q.kind 48 (by omega)
  have y49 : ((q.kind.toNat : Int) == 49) = (q.kind == 49) := u8_at q.kind 49 (by omega)
  have y50 : ((q.kind.toNat : Int) == 50) = (q.kind == 50) := u8_at q.kind 50 (by omega)
  have y51 : ((q.kind.toNat : Int) == 51) = (q.kind == 51) := u8_at q.kind 51 (by omega)
  have y52 : ((q.kind.toNat : Int) == 52) = (q.kind == 52) := u8_at q.kind 52 (by omega)
  have hB := Lib.hid (below_alloc1 w (.cells (nodC q) 25))
  have HN := Lib.hid (heap_alloc_new w (.cells (nodC q) 25))
  have CW := Lib.hid (fun w => within_any (q.kind.toNat : Int) 48 54 w)
  have W1 := Lib.hid (fun w => within_any q.mode 0 4095 w)
  have W2 := Lib.hid (fun w => within_any q.uid 0 1099511627775 w)
  have W3 := Lib.hid (fun w => within_any q.gid 0 1099511627775 w)
  have W4 := Lib.hid (fun w => within_any q.major 0 (2097151 * (if D then 1 else 0)) w)
  have W5 := Lib.hid (fun w => within_any q.minor 0 (2097151 * (if D then 1 else 0)) w)
  have TR := Lib.hid (fun w => St.refRight_any q.sec q.nano w)
  have O := Lib.hid (fun w => one_any D w)
  have O8 := Lib.hid (fun w => one_any x48 w)
  have P1 := Lib.hid (fun w => plainN q.link hll w)
  rw [hK] at CW
  rw [← fitsN_dec, hm1] at W1
  rw [← fitsN_dec, hm2] at W2
  rw [← fitsN_dec, hm3] at W3
  rw [← fitsN_dec, hmj] at W4
  rw [← fitsN_dec, hmn] at W5
  rw [htR] at TR
  rw [hp1] at P1
  rw [hbl] at el
  rw [h48] at y48
  rw [h49] at y49
  rw [h50] at y50
  unfold isDevB at hD
  generalize (q.kind == 51) = x51 at *
  generalize (q.kind == 52) = x52 at *
  clear hi ht hr hK hm1 hm2 hm3 hmj hmn htR hp1 hbl h48 h49 h50 hll
  obtain ⟨o8, ho8⟩ : ∃ q : Int, (if x48 then 1 else 0 : Int) = q := ⟨_, rfl⟩
  have hr1 : 0 ≤ o8 ∧ o8 ≤ 1 := by rw [← ho8]; cases x48 <;> simp
  rw [ho8] at O8 ⊢
  clear ho8
  obtain ⟨hr0, hr1⟩ := hr1
  go_enter Try.func5, Try.ntmps5
  go_upto_region 1 with fail
  go_cut [3] (fun s3 wx => s3 = .bool D ∧ wx = w.alloc (.cells (nodC q) 25))
  case first =>
    subst hD
    cases x51 <;> cases x52
    all_goals
      go_wp2
      go_meet
      exact ⟨rfl, rfl⟩
  case rest =>
    obtain ⟨rfl, rfl⟩ := hcut
    clear y51 y52 hD
    obtain ⟨o1, ho1⟩ : ∃ q : Int, (if D then 1 else 0 : Int) = q := ⟨_, rfl⟩
    have hq1 : 0 ≤ o1 ∧ o1 ≤ 1 := by rw [← ho1]; cases D <;> simp
    rw [ho1] at O W4 W5
    clear ho1
    obtain ⟨hq0, hq1⟩ := hq1
    subst e49 eK e
    go_wp2_with (first
      | (go_at_call 7; (with_reducible refine (CW.out _).mono ?_); rintro r w' ⟨rfl, hw⟩; subst hw)
      | (go_at_call 7; (with_reducible refine (W1.out _).mono ?_); rintro r w' ⟨rfl, hw⟩; subst hw)
      | (go_at_call 7; (with_reducible refine (W2.out _).mono ?_); rintro r w' ⟨rfl, hw⟩; subst hw)
      | (go_at_call 7; (with_reducible refine (W3.out _).mono ?_); rintro r w' ⟨rfl, hw⟩; subst hw)
      | (go_at_call 8; (with_reducible refine (TR.out _).mono ?_); rintro r w2 ⟨rfl, h2⟩; have hB2 := Lib.hid (hB.out.trans (h2.mono hB.out.size)); have HN2 := Lib.hid ((h2.block _ (Array.getElem?_eq_some_iff.1 HN.out).1).trans HN.out); clear h2; have c0 := row_cellN HN2.out 0 _ rfl; have c1 := row_cellN HN2.out 1 _ rfl; have c2 := row_cellN HN2.out 2 _ rfl; have c3 := row_cellN HN2.out 3 _ rfl; have c4 := row_cellN HN2.out 4 _ rfl; have c5 := row_cellN HN2.out 5 _ rfl; have c6 := row_cellN HN2.out 6 _ rfl; have c7 := row_cellN HN2.out 7 _ rfl; have c8 := row_cellN HN2.out 8 _ rfl; have c9 := row_cellN HN2.out 9 _ rfl)
      | fail)
    go_ret
    exact ⟨by first | rfl | simp, hB.out⟩
set_option maxRecDepth 100000 in
set_option maxHeartbeats 8000000 in
theorem node_2 (q : NodL) (hi : intsN q) (ht : textsN q) (K x48 x49 x50 D m1 m2 m3 tR bl p1 mj mn : Bool) (w : World)
    (hK : decide (48 ≤ (q.kind.toNat : Int) ∧ (q.kind.toNat : Int) ≤ 54) = K) (h48 : (q.kind == 48) = x48) (h49 : (q.kind == 49) = x49) (h50 : (q.kind == 50) = x50) (hD : isDevB q.kind = D) (hm1 : fitsI q.mode 4095 = m1) (hm2 : fitsI q.uid 1099511627775 = m2) (hm3 : fitsI q.gid 1099511627775 = m3) (htR : St.rightB q.sec q.nano = tR) (hbl : decide (q.link = []) = bl) (hp1 : txtOk q.link 120 = p1) (hmj : fitsI q.major (2097151 * (if D then 1 else 0)) = mj) (hmn : fitsI q.minor (2097151 * (if D then 1 else 0)) = mn) (e49 : x49 = false) (eK : K = true) (e1 : m1 = true) (e : m2 = false) :
    Calls Try.prog 5 #[nodV q] w fun r w' => r = .returned (.bool (!x49 && (K && (m1 && (m2 && (m3 && (tR && ((x50 != bl) && (p1 && (mj && (mn && decide ((q.data.length : Int) ≤ 4000 * (if x48 then 1 else 0))))))))))))) ∧ Below w.heap.size w w' := by
  have hr := reachBytes_lt
  have sd := mkS_size q.data
  have hdl : (q.data.length : Int) ≤ 200000000000000 := by have := ht.1; omega
  have hll : q.link.length ≤ 9223372036854775807 := by have := ht.2; omega
  have hwr := wrapN_u8 q.kind
  have el := emp_dec q.link
  have y48 : ((q.kind.toNat : Int) == 48) = (q.kind == 48) := u8_at q.kind 48 (by omega)
  have y49 : ((q.kind.toNat : Int) == 49) = (q.kind == 49) := u8_at q.kind 49 (by omega)
  have y50 : ((q.kind.toNat : Int) == 50) = (q.kind == 50) := u8_at q.kind 50 (by omega)
  have y51 : ((q.kind.toNat : Int) == 51) = (q.kind == 51) := u8_at q.kind 51 (by omega)
  have y52 : ((q.kind.toNat : Int) == 52) = (q.kind == 52) := u8_at q.kind 52 (by omega)
  have hB := Lib.hid (below_alloc1 w (.cells (nodC q) 25))
  have HN := Lib.hid (heap_alloc_new w (.cells (nodC q) 25))
  have CW := Lib.hid (fun w => within_any (q.kind.toNat : Int) 48 54 w)
  have W1 := Lib.hid (fun w => within_any q.mode 0 4095 w)
  have W2 := Lib.hid (fun w => within_any q.uid 0 1099511627775 w)
  have W3 := Lib.hid (fun w => within_any q.gid 0 1099511627775 w)
  have W4 := Lib.hid (fun w => within_any q.major 0 (2097151 * (if D then 1 else 0)) w)
  have W5 := Lib.hid (fun w => within_any q.minor 0 (2097151 * (if D then 1 else 0)) w)
  have TR := Lib.hid (fun w => St.refRight_any q.sec q.nano w)
  have O := Lib.hid (fun w => one_any D w)
  have O8 := Lib.hid (fun w => one_any x48 w)
  have P1 := Lib.hid (fun w => plainN q.link hll w)
  rw [hK] at CW
  rw [← fitsN_dec, hm1] at W1
  rw [← fitsN_dec, hm2] at W2
  rw [← fitsN_dec, hm3] at W3
  rw [← fitsN_dec, hmj] at W4
  rw [← fitsN_dec, hmn] at W5
  rw [htR] at TR
  rw [hp1] at P1
  rw [hbl] at el
  rw [h48] at y48
  rw [h49] at y49
  rw [h50] at y50
  unfold isDevB at hD
  generalize (q.kind == 51) = x51 at *
  generalize (q.kind == 52) = x52 at *
  clear hi ht hr hK hm1 hm2 hm3 hmj hmn htR hp1 hbl h48 h49 h50 hll
  obtain ⟨o8, ho8⟩ : ∃ q : Int, (if x48 then 1 else 0 : Int) = q := ⟨_, rfl⟩
  have hr1 : 0 ≤ o8 ∧ o8 ≤ 1 := by rw [← ho8]; cases x48 <;> simp
  rw [ho8] at O8 ⊢
  clear ho8
  obtain ⟨hr0, hr1⟩ := hr1
  go_enter Try.func5, Try.ntmps5
  go_upto_region 1 with fail
  go_cut [3] (fun s3 wx => s3 = .bool D ∧ wx = w.alloc (.cells (nodC q) 25))
  case first =>
    subst hD
    cases x51 <;> cases x52
    all_goals
      go_wp2
      go_meet
      exact ⟨rfl, rfl⟩
  case rest =>
    obtain ⟨rfl, rfl⟩ := hcut
    clear y51 y52 hD
    obtain ⟨o1, ho1⟩ : ∃ q : Int, (if D then 1 else 0 : Int) = q := ⟨_, rfl⟩
    have hq1 : 0 ≤ o1 ∧ o1 ≤ 1 := by rw [← ho1]; cases D <;> simp
    rw [ho1] at O W4 W5
    clear ho1
    obtain ⟨hq0, hq1⟩ := hq1
    subst e49 eK e1 e
    go_wp2_with (first
      | (go_at_call 7; (with_reducible refine (CW.out _).mono ?_); rintro r w' ⟨rfl, hw⟩; subst hw)
      | (go_at_call 7; (with_reducible refine (W1.out _).mono ?_); rintro r w' ⟨rfl, hw⟩; subst hw)
      | (go_at_call 7; (with_reducible refine (W2.out _).mono ?_); rintro r w' ⟨rfl, hw⟩; subst hw)
      | (go_at_call 7; (with_reducible refine (W3.out _).mono ?_); rintro r w' ⟨rfl, hw⟩; subst hw)
      | (go_at_call 8; (with_reducible refine (TR.out _).mono ?_); rintro r w2 ⟨rfl, h2⟩; have hB2 := Lib.hid (hB.out.trans (h2.mono hB.out.size)); have HN2 := Lib.hid ((h2.block _ (Array.getElem?_eq_some_iff.1 HN.out).1).trans HN.out); clear h2; have c0 := row_cellN HN2.out 0 _ rfl; have c1 := row_cellN HN2.out 1 _ rfl; have c2 := row_cellN HN2.out 2 _ rfl; have c3 := row_cellN HN2.out 3 _ rfl; have c4 := row_cellN HN2.out 4 _ rfl; have c5 := row_cellN HN2.out 5 _ rfl; have c6 := row_cellN HN2.out 6 _ rfl; have c7 := row_cellN HN2.out 7 _ rfl; have c8 := row_cellN HN2.out 8 _ rfl; have c9 := row_cellN HN2.out 9 _ rfl)
      | fail)
    go_ret
    exact ⟨by first | rfl | simp, hB.out⟩
set_option maxRecDepth 100000 in
set_option maxHeartbeats 8000000 in
theorem node_3 (q : NodL) (hi : intsN q) (ht : textsN q) (K x48 x49 x50 D m1 m2 m3 tR bl p1 mj mn : Bool) (w : World)
    (hK : decide (48 ≤ (q.kind.toNat : Int) ∧ (q.kind.toNat : Int) ≤ 54) = K) (h48 : (q.kind == 48) = x48) (h49 : (q.kind == 49) = x49) (h50 : (q.kind == 50) = x50) (hD : isDevB q.kind = D) (hm1 : fitsI q.mode 4095 = m1) (hm2 : fitsI q.uid 1099511627775 = m2) (hm3 : fitsI q.gid 1099511627775 = m3) (htR : St.rightB q.sec q.nano = tR) (hbl : decide (q.link = []) = bl) (hp1 : txtOk q.link 120 = p1) (hmj : fitsI q.major (2097151 * (if D then 1 else 0)) = mj) (hmn : fitsI q.minor (2097151 * (if D then 1 else 0)) = mn) (e49 : x49 = false) (eK : K = true) (e1 : m1 = true) (e2 : m2 = true) (e : m3 = false) :
    Calls Try.prog 5 #[nodV q] w fun r w' => r = .returned (.bool (!x49 && (K && (m1 && (m2 && (m3 && (tR && ((x50 != bl) && (p1 && (mj && (mn && decide ((q.data.length : Int) ≤ 4000 * (if x48 then 1 else 0))))))))))))) ∧ Below w.heap.size w w' := by
  have hr := reachBytes_lt
  have sd := mkS_size q.data
  have hdl : (q.data.length : Int) ≤ 200000000000000 := by have := ht.1; omega
  have hll : q.link.length ≤ 9223372036854775807 := by have := ht.2; omega
  have hwr := wrapN_u8 q.kind
  have el := emp_dec q.link
  have y48 : ((q.kind.toNat : Int) == 48) = (q.kind == 48) := u8_at q.kind 48 (by omega)
  have y49 : ((q.kind.toNat : Int) == 49) = (q.kind == 49) := u8_at q.kind 49 (by omega)
  have y50 : ((q.kind.toNat : Int) == 50) = (q.kind == 50) := u8_at q.kind 50 (by omega)
  have y51 : ((q.kind.toNat : Int) == 51) = (q.kind == 51) := u8_at q.kind 51 (by omega)
  have y52 : ((q.kind.toNat : Int) == 52) = (q.kind == 52) := u8_at q.kind 52 (by omega)
  have hB := Lib.hid (below_alloc1 w (.cells (nodC q) 25))
  have HN := Lib.hid (heap_alloc_new w (.cells (nodC q) 25))
  have CW := Lib.hid (fun w => within_any (q.kind.toNat : Int) 48 54 w)
  have W1 := Lib.hid (fun w => within_any q.mode 0 4095 w)
  have W2 := Lib.hid (fun w => within_any q.uid 0 1099511627775 w)
  have W3 := Lib.hid (fun w => within_any q.gid 0 1099511627775 w)
  have W4 := Lib.hid (fun w => within_any q.major 0 (2097151 * (if D then 1 else 0)) w)
  have W5 := Lib.hid (fun w => within_any q.minor 0 (2097151 * (if D then 1 else 0)) w)
  have TR := Lib.hid (fun w => St.refRight_any q.sec q.nano w)
  have O := Lib.hid (fun w => one_any D w)
  have O8 := Lib.hid (fun w => one_any x48 w)
  have P1 := Lib.hid (fun w => plainN q.link hll w)
  rw [hK] at CW
  rw [← fitsN_dec, hm1] at W1
  rw [← fitsN_dec, hm2] at W2
  rw [← fitsN_dec, hm3] at W3
  rw [← fitsN_dec, hmj] at W4
  rw [← fitsN_dec, hmn] at W5
  rw [htR] at TR
  rw [hp1] at P1
  rw [hbl] at el
  rw [h48] at y48
  rw [h49] at y49
  rw [h50] at y50
  unfold isDevB at hD
  generalize (q.kind == 51) = x51 at *
  generalize (q.kind == 52) = x52 at *
  clear hi ht hr hK hm1 hm2 hm3 hmj hmn htR hp1 hbl h48 h49 h50 hll
  obtain ⟨o8, ho8⟩ : ∃ q : Int, (if x48 then 1 else 0 : Int) = q := ⟨_, rfl⟩
  have hr1 : 0 ≤ o8 ∧ o8 ≤ 1 := by rw [← ho8]; cases x48 <;> simp
  rw [ho8] at O8 ⊢
  clear ho8
  obtain ⟨hr0, hr1⟩ := hr1
  go_enter Try.func5, Try.ntmps5
  go_upto_region 1 with fail
  go_cut [3] (fun s3 wx => s3 = .bool D ∧ wx = w.alloc (.cells (nodC q) 25))
  case first =>
    subst hD
    cases x51 <;> cases x52
    all_goals
      go_wp2
      go_meet
      exact ⟨rfl, rfl⟩
  case rest =>
    obtain ⟨rfl, rfl⟩ := hcut
    clear y51 y52 hD
    obtain ⟨o1, ho1⟩ : ∃ q : Int, (if D then 1 else 0 : Int) = q := ⟨_, rfl⟩
    have hq1 : 0 ≤ o1 ∧ o1 ≤ 1 := by rw [← ho1]; cases D <;> simp
    rw [ho1] at O W4 W5
    clear ho1
    obtain ⟨hq0, hq1⟩ := hq1
    subst e49 eK e1 e2 e
    go_wp2_with (first
      | (go_at_call 7; (with_reducible refine (CW.out _).mono ?_); rintro r w' ⟨rfl, hw⟩; subst hw)
      | (go_at_call 7; (with_reducible refine (W1.out _).mono ?_); rintro r w' ⟨rfl, hw⟩; subst hw)
      | (go_at_call 7; (with_reducible refine (W2.out _).mono ?_); rintro r w' ⟨rfl, hw⟩; subst hw)
      | (go_at_call 7; (with_reducible refine (W3.out _).mono ?_); rintro r w' ⟨rfl, hw⟩; subst hw)
      | (go_at_call 8; (with_reducible refine (TR.out _).mono ?_); rintro r w2 ⟨rfl, h2⟩; have hB2 := Lib.hid (hB.out.trans (h2.mono hB.out.size)); have HN2 := Lib.hid ((h2.block _ (Array.getElem?_eq_some_iff.1 HN.out).1).trans HN.out); clear h2; have c0 := row_cellN HN2.out 0 _ rfl; have c1 := row_cellN HN2.out 1 _ rfl; have c2 := row_cellN HN2.out 2 _ rfl; have c3 := row_cellN HN2.out 3 _ rfl; have c4 := row_cellN HN2.out 4 _ rfl; have c5 := row_cellN HN2.out 5 _ rfl; have c6 := row_cellN HN2.out 6 _ rfl; have c7 := row_cellN HN2.out 7 _ rfl; have c8 := row_cellN HN2.out 8 _ rfl; have c9 := row_cellN HN2.out 9 _ rfl)
      | fail)
    go_ret
    exact ⟨by first | rfl | simp, hB.out⟩
set_option maxRecDepth 100000 in
set_option maxHeartbeats 8000000 in
theorem node_T (q : NodL) (hi : intsN q) (ht : textsN q) (K x48 x49 x50 D m1 m2 m3 tR bl p1 mj mn : Bool) (w : World)
    (hK : decide (48 ≤ (q.kind.toNat : Int) ∧ (q.kind.toNat : Int) ≤ 54) = K) (h48 : (q.kind == 48) = x48) (h49 : (q.kind == 49) = x49) (h50 : (q.kind == 50) = x50) (hD : isDevB q.kind = D) (hm1 : fitsI q.mode 4095 = m1) (hm2 : fitsI q.uid 1099511627775 = m2) (hm3 : fitsI q.gid 1099511627775 = m3) (htR : St.rightB q.sec q.nano = tR) (hbl : decide (q.link = []) = bl) (hp1 : txtOk q.link 120 = p1) (hmj : fitsI q.major (2097151 * (if D then 1 else 0)) = mj) (hmn : fitsI q.minor (2097151 * (if D then 1 else 0)) = mn) (e49 : x49 = false) (eK : K = true) (e1 : m1 = true) (e2 : m2 = true) (e3 : m3 = true) (e : tR = false) :
    Calls Try.prog 5 #[nodV q] w fun r w' => r = .returned (.bool (!x49 && (K && (m1 && (m2 && (m3 && (tR && ((x50 != bl) && (p1 && (mj && (mn && decide ((q.data.length : Int) ≤ 4000 * (if x48 then 1 else 0))))))))))))) ∧ Below w.heap.size w w' := by
  have hr := reachBytes_lt
  have sd := mkS_size q.data
  have hdl : (q.data.length : Int) ≤ 200000000000000 := by have := ht.1; omega
  have hll : q.link.length ≤ 9223372036854775807 := by have := ht.2; omega
  have hwr := wrapN_u8 q.kind
  have el := emp_dec q.link
  have y48 : ((q.kind.toNat : Int) == 48) = (q.kind == 48) := u8_at q.kind 48 (by omega)
  have y49 : ((q.kind.toNat : Int) == 49) = (q.kind == 49) := u8_at q.kind 49 (by omega)
  have y50 : ((q.kind.toNat : Int) == 50) = (q.kind == 50) := u8_at q.kind 50 (by omega)
  have y51 : ((q.kind.toNat : Int) == 51) = (q.kind == 51) := u8_at q.kind 51 (by omega)
  have y52 : ((q.kind.toNat : Int) == 52) = (q.kind == 52) := u8_at q.kind 52 (by omega)
  have hB := Lib.hid (below_alloc1 w (.cells (nodC q) 25))
  have HN := Lib.hid (heap_alloc_new w (.cells (nodC q) 25))
  have CW := Lib.hid (fun w => within_any (q.kind.toNat : Int) 48 54 w)
  have W1 := Lib.hid (fun w => within_any q.mode 0 4095 w)
  have W2 := Lib.hid (fun w => within_any q.uid 0 1099511627775 w)
  have W3 := Lib.hid (fun w => within_any q.gid 0 1099511627775 w)
  have W4 := Lib.hid (fun w => within_any q.major 0 (2097151 * (if D then 1 else 0)) w)
  have W5 := Lib.hid (fun w => within_any q.minor 0 (2097151 * (if D then 1 else 0)) w)
  have TR := Lib.hid (fun w => St.refRight_any q.sec q.nano w)
  have O := Lib.hid (fun w => one_any D w)
  have O8 := Lib.hid (fun w => one_any x48 w)
  have P1 := Lib.hid (fun w => plainN q.link hll w)
  rw [hK] at CW
  rw [← fitsN_dec, hm1] at W1
  rw [← fitsN_dec, hm2] at W2
  rw [← fitsN_dec, hm3] at W3
  rw [← fitsN_dec, hmj] at W4
  rw [← fitsN_dec, hmn] at W5
  rw [htR] at TR
  rw [hp1] at P1
  rw [hbl] at el
  rw [h48] at y48
  rw [h49] at y49
  rw [h50] at y50
  unfold isDevB at hD
  generalize (q.kind == 51) = x51 at *
  generalize (q.kind == 52) = x52 at *
  clear hi ht hr hK hm1 hm2 hm3 hmj hmn htR hp1 hbl h48 h49 h50 hll
  obtain ⟨o8, ho8⟩ : ∃ q : Int, (if x48 then 1 else 0 : Int) = q := ⟨_, rfl⟩
  have hr1 : 0 ≤ o8 ∧ o8 ≤ 1 := by rw [← ho8]; cases x48 <;> simp
  rw [ho8] at O8 ⊢
  clear ho8
  obtain ⟨hr0, hr1⟩ := hr1
  go_enter Try.func5, Try.ntmps5
  go_upto_region 1 with fail
  go_cut [3] (fun s3 wx => s3 = .bool D ∧ wx = w.alloc (.cells (nodC q) 25))
  case first =>
    subst hD
    cases x51 <;> cases x52
    all_goals
      go_wp2
      go_meet
      exact ⟨rfl, rfl⟩
  case rest =>
    obtain ⟨rfl, rfl⟩ := hcut
    clear y51 y52 hD
    obtain ⟨o1, ho1⟩ : ∃ q : Int, (if D then 1 else 0 : Int) = q := ⟨_, rfl⟩
    have hq1 : 0 ≤ o1 ∧ o1 ≤ 1 := by rw [← ho1]; cases D <;> simp
    rw [ho1] at O W4 W5
    clear ho1
    obtain ⟨hq0, hq1⟩ := hq1
    subst e49 eK e1 e2 e3 e
    go_wp2_with (first
      | (go_at_call 7; (with_reducible refine (CW.out _).mono ?_); rintro r w' ⟨rfl, hw⟩; subst hw)
      | (go_at_call 7; (with_reducible refine (W1.out _).mono ?_); rintro r w' ⟨rfl, hw⟩; subst hw)
      | (go_at_call 7; (with_reducible refine (W2.out _).mono ?_); rintro r w' ⟨rfl, hw⟩; subst hw)
      | (go_at_call 7; (with_reducible refine (W3.out _).mono ?_); rintro r w' ⟨rfl, hw⟩; subst hw)
      | (go_at_call 8; (with_reducible refine (TR.out _).mono ?_); rintro r w2 ⟨rfl, h2⟩; have hB2 := Lib.hid (hB.out.trans (h2.mono hB.out.size)); have HN2 := Lib.hid ((h2.block _ (Array.getElem?_eq_some_iff.1 HN.out).1).trans HN.out); clear h2; have c0 := row_cellN HN2.out 0 _ rfl; have c1 := row_cellN HN2.out 1 _ rfl; have c2 := row_cellN HN2.out 2 _ rfl; have c3 := row_cellN HN2.out 3 _ rfl; have c4 := row_cellN HN2.out 4 _ rfl; have c5 := row_cellN HN2.out 5 _ rfl; have c6 := row_cellN HN2.out 6 _ rfl; have c7 := row_cellN HN2.out 7 _ rfl; have c8 := row_cellN HN2.out 8 _ rfl; have c9 := row_cellN HN2.out 9 _ rfl)
      | fail)
    go_ret
    exact ⟨by first | rfl | simp, hB2.out⟩
set_option maxRecDepth 100000 in
set_option maxHeartbeats 8000000 in
theorem node_L_true (q : NodL) (hi : intsN q) (ht : textsN q) (K x48 x49 x50 D m1 m2 m3 tR bl p1 mj mn : Bool) (w : World)
    (hK : decide (48 ≤ (q.kind.toNat : Int) ∧ (q.kind.toNat : Int) ≤ 54) = K) (h48 : (q.kind == 48) = x48) (h49 : (q.kind == 49) = x49) (h50 : (q.kind == 50) = x50) (hD : isDevB q.kind = D) (hm1 : fitsI q.mode 4095 = m1) (hm2 : fitsI q.uid 1099511627775 = m2) (hm3 : fitsI q.gid 1099511627775 = m3) (htR : St.rightB q.sec q.nano = tR) (hbl : decide (q.link = []) = bl) (hp1 : txtOk q.link 120 = p1) (hmj : fitsI q.major (2097151 * (if D then 1 else 0)) = mj) (hmn : fitsI q.minor (2097151 * (if D then 1 else 0)) = mn) (e49 : x49 = false) (eK : K = true) (e1 : m1 = true) (e2 : m2 = true) (e3 : m3 = true) (eT : tR = true) (eb : bl = true) (ex : x50 = true) :
    Calls Try.prog 5 #[nodV q] w fun r w' => r = .returned (.bool (!x49 && (K && (m1 && (m2 && (m3 && (tR && ((x50 != bl) && (p1 && (mj && (mn && decide ((q.data.length : Int) ≤ 4000 * (if x48 then 1 else 0))))))))))))) ∧ Below w.heap.size w w' := by
  have hr := reachBytes_lt
  have sd := mkS_size q.data
  have hdl : (q.data.length : Int) ≤ 200000000000000 := by have := ht.1; omega
  have hll : q.link.length ≤ 9223372036854775807 := by have := ht.2; omega
  have hwr := wrapN_u8 q.kind
  have el := emp_dec q.link
  have y48 : ((q.kind.toNat : Int) == 48) = (q.kind == 48) := u8_at q.kind 48 (by omega)
  have y49 : ((q.kind.toNat : Int) == 49) = (q.kind == 49) := u8_at q.kind 49 (by omega)
  have y50 : ((q.kind.toNat : Int) == 50) = (q.kind == 50) := u8_at q.kind 50 (by omega)
  have y51 : ((q.kind.toNat : Int) == 51) = (q.kind == 51) := u8_at q.kind 51 (by omega)
  have y52 : ((q.kind.toNat : Int) == 52) = (q.kind == 52) := u8_at q.kind 52 (by omega)
  have hB := Lib.hid (below_alloc1 w (.cells (nodC q) 25))
  have HN := Lib.hid (heap_alloc_new w (.cells (nodC q) 25))
  have CW := Lib.hid (fun w => within_any (q.kind.toNat : Int) 48 54 w)
  have W1 := Lib.hid (fun w => within_any q.mode 0 4095 w)
  have W2 := Lib.hid (fun w => within_any q.uid 0 1099511627775 w)
  have W3 := Lib.hid (fun w => within_any q.gid 0 1099511627775 w)
  have W4 := Lib.hid (fun w => within_any q.major 0 (2097151 * (if D then 1 else 0)) w)
  have W5 := Lib.hid (fun w => within_any q.minor 0 (2097151 * (if D then 1 else 0)) w)
  have TR := Lib.hid (fun w => St.refRight_any q.sec q.nano w)
  have O := Lib.hid (fun w => one_any D w)
  have O8 := Lib.hid (fun w => one_any x48 w)
  have P1 := Lib.hid (fun w => plainN q.link hll w)
  rw [hK] at CW
  rw [← fitsN_dec, hm1] at W1
  rw [← fitsN_dec, hm2] at W2
  rw [← fitsN_dec, hm3] at W3
  rw [← fitsN_dec, hmj] at W4
  rw [← fitsN_dec, hmn] at W5
  rw [htR] at TR
  rw [hp1] at P1
  rw [hbl] at el
  rw [h48] at y48
  rw [h49] at y49
  rw [h50] at y50
  unfold isDevB at hD
  generalize (q.kind == 51) = x51 at *
  generalize (q.kind == 52) = x52 at *
  clear hi ht hr hK hm1 hm2 hm3 hmj hmn htR hp1 hbl h48 h49 h50 hll
  obtain ⟨o8, ho8⟩ : ∃ q : Int, (if x48 then 1 else 0 : Int) = q := ⟨_, rfl⟩
  have hr1 : 0 ≤ o8 ∧ o8 ≤ 1 := by rw [← ho8]; cases x48 <;> simp
  rw [ho8] at O8 ⊢
  clear ho8
  obtain ⟨hr0, hr1⟩ := hr1
  go_enter Try.func5, Try.ntmps5
  go_upto_region 1 with fail
  go_cut [3] (fun s3 wx => s3 = .bool D ∧ wx = w.alloc (.cells (nodC q) 25))
  case first =>
    subst hD
    cases x51 <;> cases x52
    all_goals
      go_wp2
      go_meet
      exact ⟨rfl, rfl⟩
  case rest =>
    obtain ⟨rfl, rfl⟩ := hcut
    clear y51 y52 hD
    obtain ⟨o1, ho1⟩ : ∃ q : Int, (if D then 1 else 0 : Int) = q := ⟨_, rfl⟩
    have hq1 : 0 ≤ o1 ∧ o1 ≤ 1 := by rw [← ho1]; cases D <;> simp
    rw [ho1] at O W4 W5
    clear ho1
    obtain ⟨hq0, hq1⟩ := hq1
    subst e49 eK e1 e2 e3 eT eb ex
    go_wp2_with (first
      | (go_at_call 7; (with_reducible refine (CW.out _).mono ?_); rintro r w' ⟨rfl, hw⟩; subst hw)
      | (go_at_call 7; (with_reducible refine (W1.out _).mono ?_); rintro r w' ⟨rfl, hw⟩; subst hw)
      | (go_at_call 7; (with_reducible refine (W2.out _).mono ?_); rintro r w' ⟨rfl, hw⟩; subst hw)
      | (go_at_call 7; (with_reducible refine (W3.out _).mono ?_); rintro r w' ⟨rfl, hw⟩; subst hw)
      | (go_at_call 8; (with_reducible refine (TR.out _).mono ?_); rintro r w2 ⟨rfl, h2⟩; have hB2 := Lib.hid (hB.out.trans (h2.mono hB.out.size)); have HN2 := Lib.hid ((h2.block _ (Array.getElem?_eq_some_iff.1 HN.out).1).trans HN.out); clear h2; have c0 := row_cellN HN2.out 0 _ rfl; have c1 := row_cellN HN2.out 1 _ rfl; have c2 := row_cellN HN2.out 2 _ rfl; have c3 := row_cellN HN2.out 3 _ rfl; have c4 := row_cellN HN2.out 4 _ rfl; have c5 := row_cellN HN2.out 5 _ rfl; have c6 := row_cellN HN2.out 6 _ rfl; have c7 := row_cellN HN2.out 7 _ rfl; have c8 := row_cellN HN2.out 8 _ rfl; have c9 := row_cellN HN2.out 9 _ rfl)
      | fail)
    have v0 := fun d os => cell_regrown c0 d os
    have v1 := fun d os => cell_regrown c1 d os
    have v2 := fun d os => cell_regrown c2 d os
    have v3 := fun d os => cell_regrown c3 d os
    have v4 := fun d os => cell_regrown c4 d os
    have v5 := fun d os => cell_regrown c5 d os
    have v6 := fun d os => cell_regrown c6 d os
    have v7 := fun d os => cell_regrown c7 d os
    have v8 := fun d os => cell_regrown c8 d os
    have v9 := fun d os => cell_regrown c9 d os
    refine wp_region_quiet_below (by kernel_rfl) (by kernel_rfl) ?_
    repeat (go_big_quiet_step (first
      | (go_at_call 9; with_reducible exact Calls.regrown_of (regrown_eq (P1.out _)))
      | (go_at_call 10; with_reducible exact Calls.regrown_of (regrown_eq (O.out _)))
      | (go_at_call 7; with_reducible exact Calls.regrown_of (regrownN_eq2 (W4.out _)))
      | (go_at_call 7; with_reducible exact Calls.regrown_of (regrownN_eq2 (W5.out _)))))
    refine wpQuiet_nil ?_
    intro _ hw'
    obtain ⟨⟨dq, osq⟩, hw''⟩ := hw'
    subst hw''
    have hB3 := Lib.hid (hB2.out.trans ((below_regrown _ dq osq).mono hB2.out.size))
    have HN3 := Lib.hid (((below_regrown _ dq osq).block _ (Array.getElem?_eq_some_iff.1 HN2.out).1).trans HN2.out)
    dsimp only at *
    generalize Sort.grow (redrawn _ dq) osq = w3 at *
    clear v0 v1 v2 v3 v4 v5 v6 v7 v8 v9
    clear c0 c1 c2 c3 c4 c5 c6 c7 c8 c9
    have c0 := row_cellN HN3.out 0 _ rfl; have c1 := row_cellN HN3.out 1 _ rfl; have c2 := row_cellN HN3.out 2 _ rfl; have c3 := row_cellN HN3.out 3 _ rfl; have c4 := row_cellN HN3.out 4 _ rfl; have c5 := row_cellN HN3.out 5 _ rfl; have c6 := row_cellN HN3.out 6 _ rfl; have c7 := row_cellN HN3.out 7 _ rfl; have c8 := row_cellN HN3.out 8 _ rfl; have c9 := row_cellN HN3.out 9 _ rfl
    go_wp2_with fail
    go_ret
    exact ⟨by first | rfl | simp, hB3.out⟩
set_option maxRecDepth 100000 in
set_option maxHeartbeats 8000000 in
theorem node_L_false (q : NodL) (hi : intsN q) (ht : textsN q) (K x48 x49 x50 D m1 m2 m3 tR bl p1 mj mn : Bool) (w : World)
    (hK : decide (48 ≤ (q.kind.toNat : Int) ∧ (q.kind.toNat : Int) ≤ 54) = K) (h48 : (q.kind == 48) = x48) (h49 : (q.kind == 49) = x49) (h50 : (q.kind == 50) = x50) (hD : isDevB q.kind = D) (hm1 : fitsI q.mode 4095 = m1) (hm2 : fitsI q.uid 1099511627775 = m2) (hm3 : fitsI q.gid 1099511627775 = m3) (htR : St.rightB q.sec q.nano = tR) (hbl : decide (q.link = []) = bl) (hp1 : txtOk q.link 120 = p1) (hmj : fitsI q.major (2097151 * (if D then 1 else 0)) = mj) (hmn : fitsI q.minor (2097151 * (if D then 1 else 0)) = mn) (e49 : x49 = false) (eK : K = true) (e1 : m1 = true) (e2 : m2 = true) (e3 : m3 = true) (eT : tR = true) (eb : bl = false) (ex : x50 = false) :
    Calls Try.prog 5 #[nodV q] w fun r w' => r = .returned (.bool (!x49 && (K && (m1 && (m2 && (m3 && (tR && ((x50 != bl) && (p1 && (mj && (mn && decide ((q.data.length : Int) ≤ 4000 * (if x48 then 1 else 0))))))))))))) ∧ Below w.heap.size w w' := by
  have hr := reachBytes_lt
  have sd := mkS_size q.data
  have hdl : (q.data.length : Int) ≤ 200000000000000 := by have := ht.1; omega
  have hll : q.link.length ≤ 9223372036854775807 := by have := ht.2; omega
  have hwr := wrapN_u8 q.kind
  have el := emp_dec q.link
  have y48 : ((q.kind.toNat : Int) == 48) = (q.kind == 48) := u8_at q.kind 48 (by omega)
  have y49 : ((q.kind.toNat : Int) == 49) = (q.kind == 49) := u8_at q.kind 49 (by omega)
  have y50 : ((q.kind.toNat : Int) == 50) = (q.kind == 50) := u8_at q.kind 50 (by omega)
  have y51 : ((q.kind.toNat : Int) == 51) = (q.kind == 51) := u8_at q.kind 51 (by omega)
  have y52 : ((q.kind.toNat : Int) == 52) = (q.kind == 52) := u8_at q.kind 52 (by omega)
  have hB := Lib.hid (below_alloc1 w (.cells (nodC q) 25))
  have HN := Lib.hid (heap_alloc_new w (.cells (nodC q) 25))
  have CW := Lib.hid (fun w => within_any (q.kind.toNat : Int) 48 54 w)
  have W1 := Lib.hid (fun w => within_any q.mode 0 4095 w)
  have W2 := Lib.hid (fun w => within_any q.uid 0 1099511627775 w)
  have W3 := Lib.hid (fun w => within_any q.gid 0 1099511627775 w)
  have W4 := Lib.hid (fun w => within_any q.major 0 (2097151 * (if D then 1 else 0)) w)
  have W5 := Lib.hid (fun w => within_any q.minor 0 (2097151 * (if D then 1 else 0)) w)
  have TR := Lib.hid (fun w => St.refRight_any q.sec q.nano w)
  have O := Lib.hid (fun w => one_any D w)
  have O8 := Lib.hid (fun w => one_any x48 w)
  have P1 := Lib.hid (fun w => plainN q.link hll w)
  rw [hK] at CW
  rw [← fitsN_dec, hm1] at W1
  rw [← fitsN_dec, hm2] at W2
  rw [← fitsN_dec, hm3] at W3
  rw [← fitsN_dec, hmj] at W4
  rw [← fitsN_dec, hmn] at W5
  rw [htR] at TR
  rw [hp1] at P1
  rw [hbl] at el
  rw [h48] at y48
  rw [h49] at y49
  rw [h50] at y50
  unfold isDevB at hD
  generalize (q.kind == 51) = x51 at *
  generalize (q.kind == 52) = x52 at *
  clear hi ht hr hK hm1 hm2 hm3 hmj hmn htR hp1 hbl h48 h49 h50 hll
  obtain ⟨o8, ho8⟩ : ∃ q : Int, (if x48 then 1 else 0 : Int) = q := ⟨_, rfl⟩
  have hr1 : 0 ≤ o8 ∧ o8 ≤ 1 := by rw [← ho8]; cases x48 <;> simp
  rw [ho8] at O8 ⊢
  clear ho8
  obtain ⟨hr0, hr1⟩ := hr1
  go_enter Try.func5, Try.ntmps5
  go_upto_region 1 with fail
  go_cut [3] (fun s3 wx => s3 = .bool D ∧ wx = w.alloc (.cells (nodC q) 25))
  case first =>
    subst hD
    cases x51 <;> cases x52
    all_goals
      go_wp2
      go_meet
      exact ⟨rfl, rfl⟩
  case rest =>
    obtain ⟨rfl, rfl⟩ := hcut
    clear y51 y52 hD
    obtain ⟨o1, ho1⟩ : ∃ q : Int, (if D then 1 else 0 : Int) = q := ⟨_, rfl⟩
    have hq1 : 0 ≤ o1 ∧ o1 ≤ 1 := by rw [← ho1]; cases D <;> simp
    rw [ho1] at O W4 W5
    clear ho1
    obtain ⟨hq0, hq1⟩ := hq1
    subst e49 eK e1 e2 e3 eT eb ex
    go_wp2_with (first
      | (go_at_call 7; (with_reducible refine (CW.out _).mono ?_); rintro r w' ⟨rfl, hw⟩; subst hw)
      | (go_at_call 7; (with_reducible refine (W1.out _).mono ?_); rintro r w' ⟨rfl, hw⟩; subst hw)
      | (go_at_call 7; (with_reducible refine (W2.out _).mono ?_); rintro r w' ⟨rfl, hw⟩; subst hw)
      | (go_at_call 7; (with_reducible refine (W3.out _).mono ?_); rintro r w' ⟨rfl, hw⟩; subst hw)
      | (go_at_call 8; (with_reducible refine (TR.out _).mono ?_); rintro r w2 ⟨rfl, h2⟩; have hB2 := Lib.hid (hB.out.trans (h2.mono hB.out.size)); have HN2 := Lib.hid ((h2.block _ (Array.getElem?_eq_some_iff.1 HN.out).1).trans HN.out); clear h2; have c0 := row_cellN HN2.out 0 _ rfl; have c1 := row_cellN HN2.out 1 _ rfl; have c2 := row_cellN HN2.out 2 _ rfl; have c3 := row_cellN HN2.out 3 _ rfl; have c4 := row_cellN HN2.out 4 _ rfl; have c5 := row_cellN HN2.out 5 _ rfl; have c6 := row_cellN HN2.out 6 _ rfl; have c7 := row_cellN HN2.out 7 _ rfl; have c8 := row_cellN HN2.out 8 _ rfl; have c9 := row_cellN HN2.out 9 _ rfl)
      | fail)
    have v0 := fun d os => cell_regrown c0 d os
    have v1 := fun d os => cell_regrown c1 d os
    have v2 := fun d os => cell_regrown c2 d os
    have v3 := fun d os => cell_regrown c3 d os
    have v4 := fun d os => cell_regrown c4 d os
    have v5 := fun d os => cell_regrown c5 d os
    have v6 := fun d os => cell_regrown c6 d os
    have v7 := fun d os => cell_regrown c7 d os
    have v8 := fun d os => cell_regrown c8 d os
    have v9 := fun d os => cell_regrown c9 d os
    refine wp_region_quiet_below (by kernel_rfl) (by kernel_rfl) ?_
    repeat (go_big_quiet_step (first
      | (go_at_call 9; with_reducible exact Calls.regrown_of (regrown_eq (P1.out _)))
      | (go_at_call 10; with_reducible exact Calls.regrown_of (regrown_eq (O.out _)))
      | (go_at_call 7; with_reducible exact Calls.regrown_of (regrownN_eq2 (W4.out _)))
      | (go_at_call 7; with_reducible exact Calls.regrown_of (regrownN_eq2 (W5.out _)))))
    refine wpQuiet_nil ?_
    intro _ hw'
    obtain ⟨⟨dq, osq⟩, hw''⟩ := hw'
    subst hw''
    have hB3 := Lib.hid (hB2.out.trans ((below_regrown _ dq osq).mono hB2.out.size))
    have HN3 := Lib.hid (((below_regrown _ dq osq).block _ (Array.getElem?_eq_some_iff.1 HN2.out).1).trans HN2.out)
    dsimp only at *
    generalize Sort.grow (redrawn _ dq) osq = w3 at *
    clear v0 v1 v2 v3 v4 v5 v6 v7 v8 v9
    clear c0 c1 c2 c3 c4 c5 c6 c7 c8 c9
    have c0 := row_cellN HN3.out 0 _ rfl; have c1 := row_cellN HN3.out 1 _ rfl; have c2 := row_cellN HN3.out 2 _ rfl; have c3 := row_cellN HN3.out 3 _ rfl; have c4 := row_cellN HN3.out 4 _ rfl; have c5 := row_cellN HN3.out 5 _ rfl; have c6 := row_cellN HN3.out 6 _ rfl; have c7 := row_cellN HN3.out 7 _ rfl; have c8 := row_cellN HN3.out 8 _ rfl; have c9 := row_cellN HN3.out 9 _ rfl
    go_wp2_with fail
    go_ret
    exact ⟨by first | rfl | simp, hB3.out⟩
set_option maxRecDepth 100000 in
set_option maxHeartbeats 8000000 in
theorem node_P_true (q : NodL) (hi : intsN q) (ht : textsN q) (K x48 x49 x50 D m1 m2 m3 tR bl p1 mj mn : Bool) (w : World)
    (hK : decide (48 ≤ (q.kind.toNat : Int) ∧ (q.kind.toNat : Int) ≤ 54) = K) (h48 : (q.kind == 48) = x48) (h49 : (q.kind == 49) = x49) (h50 : (q.kind == 50) = x50) (hD : isDevB q.kind = D) (hm1 : fitsI q.mode 4095 = m1) (hm2 : fitsI q.uid 1099511627775 = m2) (hm3 : fitsI q.gid 1099511627775 = m3) (htR : St.rightB q.sec q.nano = tR) (hbl : decide (q.link = []) = bl) (hp1 : txtOk q.link 120 = p1) (hmj : fitsI q.major (2097151 * (if D then 1 else 0)) = mj) (hmn : fitsI q.minor (2097151 * (if D then 1 else 0)) = mn) (e49 : x49 = false) (eK : K = true) (e1 : m1 = true) (e2 : m2 = true) (e3 : m3 = true) (eT : tR = true) (eb : bl = true) (ex : x50 = false) (ep : p1 = false) :
    Calls Try.prog 5 #[nodV q] w fun r w' => r = .returned (.bool (!x49 && (K && (m1 && (m2 && (m3 && (tR && ((x50 != bl) && (p1 && (mj && (mn && decide ((q.data.length : Int) ≤ 4000 * (if x48 then 1 else 0))))))))))))) ∧ Below w.heap.size w w' := by
  have hr := reachBytes_lt
  have sd := mkS_size q.data
  have hdl : (q.data.length : Int) ≤ 200000000000000 := by have := ht.1; omega
  have hll : q.link.length ≤ 9223372036854775807 := by have := ht.2; omega
  have hwr := wrapN_u8 q.kind
  have el := emp_dec q.link
  have y48 : ((q.kind.toNat : Int) == 48) = (q.kind == 48) := u8_at q.kind 48 (by omega)
  have y49 : ((q.kind.toNat : Int) == 49) = (q.kind == 49) := u8_at q.kind 49 (by omega)
  have y50 : ((q.kind.toNat : Int) == 50) = (q.kind == 50) := u8_at q.kind 50 (by omega)
  have y51 : ((q.kind.toNat : Int) == 51) = (q.kind == 51) := u8_at q.kind 51 (by omega)
  have y52 : ((q.kind.toNat : Int) == 52) = (q.kind == 52) := u8_at q.kind 52 (by omega)
  have hB := Lib.hid (below_alloc1 w (.cells (nodC q) 25))
  have HN := Lib.hid (heap_alloc_new w (.cells (nodC q) 25))
  have CW := Lib.hid (fun w => within_any (q.kind.toNat : Int) 48 54 w)
  have W1 := Lib.hid (fun w => within_any q.mode 0 4095 w)
  have W2 := Lib.hid (fun w => within_any q.uid 0 1099511627775 w)
  have W3 := Lib.hid (fun w => within_any q.gid 0 1099511627775 w)
  have W4 := Lib.hid (fun w => within_any q.major 0 (2097151 * (if D then 1 else 0)) w)
  have W5 := Lib.hid (fun w => within_any q.minor 0 (2097151 * (if D then 1 else 0)) w)
  have TR := Lib.hid (fun w => St.refRight_any q.sec q.nano w)
  have O := Lib.hid (fun w => one_any D w)
  have O8 := Lib.hid (fun w => one_any x48 w)
  have P1 := Lib.hid (fun w => plainN q.link hll w)
  rw [hK] at CW
  rw [← fitsN_dec, hm1] at W1
  rw [← fitsN_dec, hm2] at W2
  rw [← fitsN_dec, hm3] at W3
  rw [← fitsN_dec, hmj] at W4
  rw [← fitsN_dec, hmn] at W5
  rw [htR] at TR
  rw [hp1] at P1
  rw [hbl] at el
  rw [h48] at y48
  rw [h49] at y49
  rw [h50] at y50
  unfold isDevB at hD
  generalize (q.kind == 51) = x51 at *
  generalize (q.kind == 52) = x52 at *
  clear hi ht hr hK hm1 hm2 hm3 hmj hmn htR hp1 hbl h48 h49 h50 hll
  obtain ⟨o8, ho8⟩ : ∃ q : Int, (if x48 then 1 else 0 : Int) = q := ⟨_, rfl⟩
  have hr1 : 0 ≤ o8 ∧ o8 ≤ 1 := by rw [← ho8]; cases x48 <;> simp
  rw [ho8] at O8 ⊢
  clear ho8
  obtain ⟨hr0, hr1⟩ := hr1
  go_enter Try.func5, Try.ntmps5
  go_upto_region 1 with fail
  go_cut [3] (fun s3 wx => s3 = .bool D ∧ wx = w.alloc (.cells (nodC q) 25))
  case first =>
    subst hD
    cases x51 <;> cases x52
    all_goals
      go_wp2
      go_meet
      exact ⟨rfl, rfl⟩
  case rest =>
    obtain ⟨rfl, rfl⟩ := hcut
    clear y51 y52 hD
    obtain ⟨o1, ho1⟩ : ∃ q : Int, (if D then 1 else 0 : Int) = q := ⟨_, rfl⟩
    have hq1 : 0 ≤ o1 ∧ o1 ≤ 1 := by rw [← ho1]; cases D <;> simp
    rw [ho1] at O W4 W5
    clear ho1
    obtain ⟨hq0, hq1⟩ := hq1
    subst e49 eK e1 e2 e3 eT eb ex ep
    go_wp2_with (first
      | (go_at_call 7; (with_reducible refine (CW.out _).mono ?_); rintro r w' ⟨rfl, hw⟩; subst hw)
      | (go_at_call 7; (with_reducible refine (W1.out _).mono ?_); rintro r w' ⟨rfl, hw⟩; subst hw)
      | (go_at_call 7; (with_reducible refine (W2.out _).mono ?_); rintro r w' ⟨rfl, hw⟩; subst hw)
      | (go_at_call 7; (with_reducible refine (W3.out _).mono ?_); rintro r w' ⟨rfl, hw⟩; subst hw)
      | (go_at_call 8; (with_reducible refine (TR.out _).mono ?_); rintro r w2 ⟨rfl, h2⟩; have hB2 := Lib.hid (hB.out.trans (h2.mono hB.out.size)); have HN2 := Lib.hid ((h2.block _ (Array.getElem?_eq_some_iff.1 HN.out).1).trans HN.out); clear h2; have c0 := row_cellN HN2.out 0 _ rfl; have c1 := row_cellN HN2.out 1 _ rfl; have c2 := row_cellN HN2.out 2 _ rfl; have c3 := row_cellN HN2.out 3 _ rfl; have c4 := row_cellN HN2.out 4 _ rfl; have c5 := row_cellN HN2.out 5 _ rfl; have c6 := row_cellN HN2.out 6 _ rfl; have c7 := row_cellN HN2.out 7 _ rfl; have c8 := row_cellN HN2.out 8 _ rfl; have c9 := row_cellN HN2.out 9 _ rfl)
      | fail)
    have v0 := fun d os => cell_regrown c0 d os
    have v1 := fun d os => cell_regrown c1 d os
    have v2 := fun d os => cell_regrown c2 d os
    have v3 := fun d os => cell_regrown c3 d os
    have v4 := fun d os => cell_regrown c4 d os
    have v5 := fun d os => cell_regrown c5 d os
    have v6 := fun d os => cell_regrown c6 d os
    have v7 := fun d os => cell_regrown c7 d os
    have v8 := fun d os => cell_regrown c8 d os
    have v9 := fun d os => cell_regrown c9 d os
    refine wp_region_quiet_below (by kernel_rfl) (by kernel_rfl) ?_
    repeat (go_big_quiet_step (first
      | (go_at_call 9; with_reducible exact Calls.regrown_of (regrown_eq (P1.out _)))
      | (go_at_call 10; with_reducible exact Calls.regrown_of (regrown_eq (O.out _)))
      | (go_at_call 7; with_reducible exact Calls.regrown_of (regrownN_eq2 (W4.out _)))
      | (go_at_call 7; with_reducible exact Calls.regrown_of (regrownN_eq2 (W5.out _)))))
    refine wpQuiet_nil ?_
    intro _ hw'
    obtain ⟨⟨dq, osq⟩, hw''⟩ := hw'
    subst hw''
    have hB3 := Lib.hid (hB2.out.trans ((below_regrown _ dq osq).mono hB2.out.size))
    have HN3 := Lib.hid (((below_regrown _ dq osq).block _ (Array.getElem?_eq_some_iff.1 HN2.out).1).trans HN2.out)
    dsimp only at *
    generalize Sort.grow (redrawn _ dq) osq = w3 at *
    clear v0 v1 v2 v3 v4 v5 v6 v7 v8 v9
    clear c0 c1 c2 c3 c4 c5 c6 c7 c8 c9
    have c0 := row_cellN HN3.out 0 _ rfl; have c1 := row_cellN HN3.out 1 _ rfl; have c2 := row_cellN HN3.out 2 _ rfl; have c3 := row_cellN HN3.out 3 _ rfl; have c4 := row_cellN HN3.out 4 _ rfl; have c5 := row_cellN HN3.out 5 _ rfl; have c6 := row_cellN HN3.out 6 _ rfl; have c7 := row_cellN HN3.out 7 _ rfl; have c8 := row_cellN HN3.out 8 _ rfl; have c9 := row_cellN HN3.out 9 _ rfl
    go_wp2_with fail
    go_ret
    exact ⟨by first | rfl | simp, hB3.out⟩
set_option maxRecDepth 100000 in
set_option maxHeartbeats 8000000 in
theorem node_mj_true (q : NodL) (hi : intsN q) (ht : textsN q) (K x48 x49 x50 D m1 m2 m3 tR bl p1 mj mn : Bool) (w : World)
    (hK : decide (48 ≤ (q.kind.toNat : Int) ∧ (q.kind.toNat : Int) ≤ 54) = K) (h48 : (q.kind == 48) = x48) (h49 : (q.kind == 49) = x49) (h50 : (q.kind == 50) = x50) (hD : isDevB q.kind = D) (hm1 : fitsI q.mode 4095 = m1) (hm2 : fitsI q.uid 1099511627775 = m2) (hm3 : fitsI q.gid 1099511627775 = m3) (htR : St.rightB q.sec q.nano = tR) (hbl : decide (q.link = []) = bl) (hp1 : txtOk q.link 120 = p1) (hmj : fitsI q.major (2097151 * (if D then 1 else 0)) = mj) (hmn : fitsI q.minor (2097151 * (if D then 1 else 0)) = mn) (e49 : x49 = false) (eK : K = true) (e1 : m1 = true) (e2 : m2 = true) (e3 : m3 = true) (eT : tR = true) (eb : bl = true) (ex : x50 = false) (ep : p1 = true) (ej : mj = false) :
    Calls Try.prog 5 #[nodV q] w fun r w' => r = .returned (.bool (!x49 && (K && (m1 && (m2 && (m3 && (tR && ((x50 != bl) && (p1 && (mj && (mn && decide ((q.data.length : Int) ≤ 4000 * (if x48 then 1 else 0))))))))))))) ∧ Below w.heap.size w w' := by
  have hr := reachBytes_lt
  have sd := mkS_size q.data
  have hdl : (q.data.length : Int) ≤ 200000000000000 := by have := ht.1; omega
  have hll : q.link.length ≤ 9223372036854775807 := by have := ht.2; omega
  have hwr := wrapN_u8 q.kind
  have el := emp_dec q.link
  have y48 : ((q.kind.toNat : Int) == 48) = (q.kind == 48) := u8_at q.kind 48 (by omega)
  have y49 : ((q.kind.toNat : Int) == 49) = (q.kind == 49) := u8_at q.kind 49 (by omega)
  have y50 : ((q.kind.toNat : Int) == 50) = (q.kind == 50) := u8_at q.kind 50 (by omega)
  have y51 : ((q.kind.toNat : Int) == 51) = (q.kind == 51) := u8_at q.kind 51 (by omega)
  have y52 : ((q.kind.toNat : Int) == 52) = (q.kind == 52) := u8_at q.kind 52 (by omega)
  have hB := Lib.hid (below_alloc1 w (.cells (nodC q) 25))
  have HN := Lib.hid (heap_alloc_new w (.cells (nodC q) 25))
  have CW := Lib.hid (fun w => within_any (q.kind.toNat : Int) 48 54 w)
  have W1 := Lib.hid (fun w => within_any q.mode 0 4095 w)
  have W2 := Lib.hid (fun w => within_any q.uid 0 1099511627775 w)
  have W3 := Lib.hid (fun w => within_any q.gid 0 1099511627775 w)
  have W4 := Lib.hid (fun w => within_any q.major 0 (2097151 * (if D then 1 else 0)) w)
  have W5 := Lib.hid (fun w => within_any q.minor 0 (2097151 * (if D then 1 else 0)) w)
  have TR := Lib.hid (fun w => St.refRight_any q.sec q.nano w)
  have O := Lib.hid (fun w => one_any D w)
  have O8 := Lib.hid (fun w => one_any x48 w)
  have P1 := Lib.hid (fun w => plainN q.link hll w)
  rw [hK] at CW
  rw [← fitsN_dec, hm1] at W1
  rw [← fitsN_dec, hm2] at W2
  rw [← fitsN_dec, hm3] at W3
  rw [← fitsN_dec, hmj] at W4
  rw [← fitsN_dec, hmn] at W5
  rw [htR] at TR
  rw [hp1] at P1
  rw [hbl] at el
  rw [h48] at y48
  rw [h49] at y49
  rw [h50] at y50
  unfold isDevB at hD
  generalize (q.kind == 51) = x51 at *
  generalize (q.kind == 52) = x52 at *
  clear hi ht hr hK hm1 hm2 hm3 hmj hmn htR hp1 hbl h48 h49 h50 hll
  obtain ⟨o8, ho8⟩ : ∃ q : Int, (if x48 then 1 else 0 : Int) = q := ⟨_, rfl⟩
  have hr1 : 0 ≤ o8 ∧ o8 ≤ 1 := by rw [← ho8]; cases x48 <;> simp
  rw [ho8] at O8 ⊢
  clear ho8
  obtain ⟨hr0, hr1⟩ := hr1
  go_enter Try.func5, Try.ntmps5
  go_upto_region 1 with fail
  go_cut [3] (fun s3 wx => s3 = .bool D ∧ wx = w.alloc (.cells (nodC q) 25))
  case first =>
    subst hD
    cases x51 <;> cases x52
    all_goals
      go_wp2
      go_meet
      exact ⟨rfl, rfl⟩
  case rest =>
    obtain ⟨rfl, rfl⟩ := hcut
    clear y51 y52 hD
    obtain ⟨o1, ho1⟩ : ∃ q : Int, (if D then 1 else 0 : Int) = q := ⟨_, rfl⟩
    have hq1 : 0 ≤ o1 ∧ o1 ≤ 1 := by rw [← ho1]; cases D <;> simp
    rw [ho1] at O W4 W5
    clear ho1
    obtain ⟨hq0, hq1⟩ := hq1
    subst e49 eK e1 e2 e3 eT eb ex ep ej
    go_wp2_with (first
      | (go_at_call 7; (with_reducible refine (CW.out _).mono ?_); rintro r w' ⟨rfl, hw⟩; subst hw)
      | (go_at_call 7; (with_reducible refine (W1.out _).mono ?_); rintro r w' ⟨rfl, hw⟩; subst hw)
      | (go_at_call 7; (with_reducible refine (W2.out _).mono ?_); rintro r w' ⟨rfl, hw⟩; subst hw)
      | (go_at_call 7; (with_reducible refine (W3.out _).mono ?_); rintro r w' ⟨rfl, hw⟩; subst hw)
      | (go_at_call 8; (with_reducible refine (TR.out _).mono ?_); rintro r w2 ⟨rfl, h2⟩; have hB2 := Lib.hid (hB.out.trans (h2.mono hB.out.size)); have HN2 := Lib.hid ((h2.block _ (Array.getElem?_eq_some_iff.1 HN.out).1).trans HN.out); clear h2; have c0 := row_cellN HN2.out 0 _ rfl; have c1 := row_cellN HN2.out 1 _ rfl; have c2 := row_cellN HN2.out 2 _ rfl; have c3 := row_cellN HN2.out 3 _ rfl; have c4 := row_cellN HN2.out 4 _ rfl; have c5 := row_cellN HN2.out 5 _ rfl; have c6 := row_cellN HN2.out 6 _ rfl; have c7 := row_cellN HN2.out 7 _ rfl; have c8 := row_cellN HN2.out 8 _ rfl; have c9 := row_cellN HN2.out 9 _ rfl)
      | fail)
    have v0 := fun d os => cell_regrown c0 d os
    have v1 := fun d os => cell_regrown c1 d os
    have v2 := fun d os => cell_regrown c2 d os
    have v3 := fun d os => cell_regrown c3 d os
    have v4 := fun d os => cell_regrown c4 d os
    have v5 := fun d os => cell_regrown c5 d os
    have v6 := fun d os => cell_regrown c6 d os
    have v7 := fun d os => cell_regrown c7 d os
    have v8 := fun d os => cell_regrown c8 d os
    have v9 := fun d os => cell_regrown c9 d os
    refine wp_region_quiet_below (by kernel_rfl) (by kernel_rfl) ?_
    repeat (go_big_quiet_step (first
      | (go_at_call 9; with_reducible exact Calls.regrown_of (regrown_eq (P1.out _)))
      | (go_at_call 10; with_reducible exact Calls.regrown_of (regrown_eq (O.out _)))
      | (go_at_call 7; with_reducible exact Calls.regrown_of (regrownN_eq2 (W4.out _)))
      | (go_at_call 7; with_reducible exact Calls.regrown_of (regrownN_eq2 (W5.out _)))))
    refine wpQuiet_nil ?_
    intro _ hw'
    obtain ⟨⟨dq, osq⟩, hw''⟩ := hw'
    subst hw''
    have hB3 := Lib.hid (hB2.out.trans ((below_regrown _ dq osq).mono hB2.out.size))
    have HN3 := Lib.hid (((below_regrown _ dq osq).block _ (Array.getElem?_eq_some_iff.1 HN2.out).1).trans HN2.out)
    dsimp only at *
    generalize Sort.grow (redrawn _ dq) osq = w3 at *
    clear v0 v1 v2 v3 v4 v5 v6 v7 v8 v9
    clear c0 c1 c2 c3 c4 c5 c6 c7 c8 c9
    have c0 := row_cellN HN3.out 0 _ rfl; have c1 := row_cellN HN3.out 1 _ rfl; have c2 := row_cellN HN3.out 2 _ rfl; have c3 := row_cellN HN3.out 3 _ rfl; have c4 := row_cellN HN3.out 4 _ rfl; have c5 := row_cellN HN3.out 5 _ rfl; have c6 := row_cellN HN3.out 6 _ rfl; have c7 := row_cellN HN3.out 7 _ rfl; have c8 := row_cellN HN3.out 8 _ rfl; have c9 := row_cellN HN3.out 9 _ rfl
    go_wp2_with fail
    go_ret
    exact ⟨by first | rfl | simp, hB3.out⟩
set_option maxRecDepth 100000 in
set_option maxHeartbeats 8000000 in
theorem node_mn_true (q : NodL) (hi : intsN q) (ht : textsN q) (K x48 x49 x50 D m1 m2 m3 tR bl p1 mj mn : Bool) (w : World)
    (hK : decide (48 ≤ (q.kind.toNat : Int) ∧ (q.kind.toNat : Int) ≤ 54) = K) (h48 : (q.kind == 48) = x48) (h49 : (q.kind == 49) = x49) (h50 : (q.kind == 50) = x50) (hD : isDevB q.kind = D) (hm1 : fitsI q.mode 4095 = m1) (hm2 : fitsI q.uid 1099511627775 = m2) (hm3 : fitsI q.gid 1099511627775 = m3) (htR : St.rightB q.sec q.nano = tR) (hbl : decide (q.link = []) = bl) (hp1 : txtOk q.link 120 = p1) (hmj : fitsI q.major (2097151 * (if D then 1 else 0)) = mj) (hmn : fitsI q.minor (2097151 * (if D then 1 else 0)) = mn) (e49 : x49 = false) (eK : K = true) (e1 : m1 = true) (e2 : m2 = true) (e3 : m3 = true) (eT : tR = true) (eb : bl = true) (ex : x50 = false) (ep : p1 = true) (ej : mj = true) (en : mn = false) :
    Calls Try.prog 5 #[nodV q] w fun r w' => r = .returned (.bool (!x49 && (K && (m1 && (m2 && (m3 && (tR && ((x50 != bl) && (p1 && (mj && (mn && decide ((q.data.length : Int) ≤ 4000 * (if x48 then 1 else 0))))))))))))) ∧ Below w.heap.size w w' := by
  have hr := reachBytes_lt
  have sd := mkS_size q.data
  have hdl : (q.data.length : Int) ≤ 200000000000000 := by have := ht.1; omega
  have hll : q.link.length ≤ 9223372036854775807 := by have := ht.2; omega
  have hwr := wrapN_u8 q.kind
  have el := emp_dec q.link
  have y48 : ((q.kind.toNat : Int) == 48) = (q.kind == 48) := u8_at q.kind 48 (by omega)
  have y49 : ((q.kind.toNat : Int) == 49) = (q.kind == 49) := u8_at q.kind 49 (by omega)
  have y50 : ((q.kind.toNat : Int) == 50) = (q.kind == 50) := u8_at q.kind 50 (by omega)
  have y51 : ((q.kind.toNat : Int) == 51) = (q.kind == 51) := u8_at q.kind 51 (by omega)
  have y52 : ((q.kind.toNat : Int) == 52) = (q.kind == 52) := u8_at q.kind 52 (by omega)
  have hB := Lib.hid (below_alloc1 w (.cells (nodC q) 25))
  have HN := Lib.hid (heap_alloc_new w (.cells (nodC q) 25))
  have CW := Lib.hid (fun w => within_any (q.kind.toNat : Int) 48 54 w)
  have W1 := Lib.hid (fun w => within_any q.mode 0 4095 w)
  have W2 := Lib.hid (fun w => within_any q.uid 0 1099511627775 w)
  have W3 := Lib.hid (fun w => within_any q.gid 0 1099511627775 w)
  have W4 := Lib.hid (fun w => within_any q.major 0 (2097151 * (if D then 1 else 0)) w)
  have W5 := Lib.hid (fun w => within_any q.minor 0 (2097151 * (if D then 1 else 0)) w)
  have TR := Lib.hid (fun w => St.refRight_any q.sec q.nano w)
  have O := Lib.hid (fun w => one_any D w)
  have O8 := Lib.hid (fun w => one_any x48 w)
  have P1 := Lib.hid (fun w => plainN q.link hll w)
  rw [hK] at CW
  rw [← fitsN_dec, hm1] at W1
  rw [← fitsN_dec, hm2] at W2
  rw [← fitsN_dec, hm3] at W3
  rw [← fitsN_dec, hmj] at W4
  rw [← fitsN_dec, hmn] at W5
  rw [htR] at TR
  rw [hp1] at P1
  rw [hbl] at el
  rw [h48] at y48
  rw [h49] at y49
  rw [h50] at y50
  unfold isDevB at hD
  generalize (q.kind == 51) = x51 at *
  generalize (q.kind == 52) = x52 at *
  clear hi ht hr hK hm1 hm2 hm3 hmj hmn htR hp1 hbl h48 h49 h50 hll
  obtain ⟨o8, ho8⟩ : ∃ q : Int, (if x48 then 1 else 0 : Int) = q := ⟨_, rfl⟩
  have hr1 : 0 ≤ o8 ∧ o8 ≤ 1 := by rw [← ho8]; cases x48 <;> simp
  rw [ho8] at O8 ⊢
  clear ho8
  obtain ⟨hr0, hr1⟩ := hr1
  go_enter Try.func5, Try.ntmps5
  go_upto_region 1 with fail
  go_cut [3] (fun s3 wx => s3 = .bool D ∧ wx = w.alloc (.cells (nodC q) 25))
  case first =>
    subst hD
    cases x51 <;> cases x52
    all_goals
      go_wp2
      go_meet
      exact ⟨rfl, rfl⟩
  case rest =>
    obtain ⟨rfl, rfl⟩ := hcut
    clear y51 y52 hD
    obtain ⟨o1, ho1⟩ : ∃ q : Int, (if D then 1 else 0 : Int) = q := ⟨_, rfl⟩
    have hq1 : 0 ≤ o1 ∧ o1 ≤ 1 := by rw [← ho1]; cases D <;> simp
    rw [ho1] at O W4 W5
    clear ho1
    obtain ⟨hq0, hq1⟩ := hq1
    subst e49 eK e1 e2 e3 eT eb ex ep ej en
    go_wp2_with (first
      | (go_at_call 7; (with_reducible refine (CW.out _).mono ?_); rintro r w' ⟨rfl, hw⟩; subst hw)
      | (go_at_call 7; (with_reducible refine (W1.out _).mono ?_); rintro r w' ⟨rfl, hw⟩; subst hw)
      | (go_at_call 7; (with_reducible refine (W2.out _).mono ?_); rintro r w' ⟨rfl, hw⟩; subst hw)
      | (go_at_call 7; (with_reducible refine (W3.out _).mono ?_); rintro r w' ⟨rfl, hw⟩; subst hw)
      | (go_at_call 8; (with_reducible refine (TR.out _).mono ?_); rintro r w2 ⟨rfl, h2⟩; have hB2 := Lib.hid (hB.out.trans (h2.mono hB.out.size)); have HN2 := Lib.hid ((h2.block _ (Array.getElem?_eq_some_iff.1 HN.out).1).trans HN.out); clear h2; have c0 := row_cellN HN2.out 0 _ rfl; have c1 := row_cellN HN2.out 1 _ rfl; have c2 := row_cellN HN2.out 2 _ rfl; have c3 := row_cellN HN2.out 3 _ rfl; have c4 := row_cellN HN2.out 4 _ rfl; have c5 := row_cellN HN2.out 5 _ rfl; have c6 := row_cellN HN2.out 6 _ rfl; have c7 := row_cellN HN2.out 7 _ rfl; have c8 := row_cellN HN2.out 8 _ rfl; have c9 := row_cellN HN2.out 9 _ rfl)
      | fail)
    have v0 := fun d os => cell_regrown c0 d os
    have v1 := fun d os => cell_regrown c1 d os
    have v2 := fun d os => cell_regrown c2 d os
    have v3 := fun d os => cell_regrown c3 d os
    have v4 := fun d os => cell_regrown c4 d os
    have v5 := fun d os => cell_regrown c5 d os
    have v6 := fun d os => cell_regrown c6 d os
    have v7 := fun d os => cell_regrown c7 d os
    have v8 := fun d os => cell_regrown c8 d os
    have v9 := fun d os => cell_regrown c9 d os
    refine wp_region_quiet_below (by kernel_rfl) (by kernel_rfl) ?_
    repeat (go_big_quiet_step (first
      | (go_at_call 9; with_reducible exact Calls.regrown_of (regrown_eq (P1.out _)))
      | (go_at_call 10; with_reducible exact Calls.regrown_of (regrown_eq (O.out _)))
      | (go_at_call 7; with_reducible exact Calls.regrown_of (regrownN_eq2 (W4.out _)))
      | (go_at_call 7; with_reducible exact Calls.regrown_of (regrownN_eq2 (W5.out _)))))
    refine wpQuiet_nil ?_
    intro _ hw'
    obtain ⟨⟨dq, osq⟩, hw''⟩ := hw'
    subst hw''
    have hB3 := Lib.hid (hB2.out.trans ((below_regrown _ dq osq).mono hB2.out.size))
    have HN3 := Lib.hid (((below_regrown _ dq osq).block _ (Array.getElem?_eq_some_iff.1 HN2.out).1).trans HN2.out)
    dsimp only at *
    generalize Sort.grow (redrawn _ dq) osq = w3 at *
    clear v0 v1 v2 v3 v4 v5 v6 v7 v8 v9
    clear c0 c1 c2 c3 c4 c5 c6 c7 c8 c9
    have c0 := row_cellN HN3.out 0 _ rfl; have c1 := row_cellN HN3.out 1 _ rfl; have c2 := row_cellN HN3.out 2 _ rfl; have c3 := row_cellN HN3.out 3 _ rfl; have c4 := row_cellN HN3.out 4 _ rfl; have c5 := row_cellN HN3.out 5 _ rfl; have c6 := row_cellN HN3.out 6 _ rfl; have c7 := row_cellN HN3.out 7 _ rfl; have c8 := row_cellN HN3.out 8 _ rfl; have c9 := row_cellN HN3.out 9 _ rfl
    go_wp2_with fail
    go_ret
    exact ⟨by first | rfl | simp, hB3.out⟩
set_option maxRecDepth 100000 in
set_option maxHeartbeats 8000000 in
theorem node_ok_true (q : NodL) (hi : intsN q) (ht : textsN q) (K x48 x49 x50 D m1 m2 m3 tR bl p1 mj mn : Bool) (w : World)
    (hK : decide (48 ≤ (q.kind.toNat : Int) ∧ (q.kind.toNat : Int) ≤ 54) = K) (h48 : (q.kind == 48) = x48) (h49 : (q.kind == 49) = x49) (h50 : (q.kind == 50) = x50) (hD : isDevB q.kind = D) (hm1 : fitsI q.mode 4095 = m1) (hm2 : fitsI q.uid 1099511627775 = m2) (hm3 : fitsI q.gid 1099511627775 = m3) (htR : St.rightB q.sec q.nano = tR) (hbl : decide (q.link = []) = bl) (hp1 : txtOk q.link 120 = p1) (hmj : fitsI q.major (2097151 * (if D then 1 else 0)) = mj) (hmn : fitsI q.minor (2097151 * (if D then 1 else 0)) = mn) (e49 : x49 = false) (eK : K = true) (e1 : m1 = true) (e2 : m2 = true) (e3 : m3 = true) (eT : tR = true) (eb : bl = true) (ex : x50 = false) (ep : p1 = true) (ej : mj = true) (en : mn = true) :
    Calls Try.prog 5 #[nodV q] w fun r w' => r = .returned (.bool (!x49 && (K && (m1 && (m2 && (m3 && (tR && ((x50 != bl) && (p1 && (mj && (mn && decide ((q.data.length : Int) ≤ 4000 * (if x48 then 1 else 0))))))))))))) ∧ Below w.heap.size w w' := by
  have hr := reachBytes_lt
  have sd := mkS_size q.data
  have hdl : (q.data.length : Int) ≤ 200000000000000 := by have := ht.1; omega
  have hll : q.link.length ≤ 9223372036854775807 := by have := ht.2; omega
  have hwr := wrapN_u8 q.kind
  have el := emp_dec q.link
  have y48 : ((q.kind.toNat : Int) == 48) = (q.kind == 48) := u8_at q.kind 48 (by omega)
  have y49 : ((q.kind.toNat : Int) == 49) = (q.kind == 49) := u8_at q.kind 49 (by omega)
  have y50 : ((q.kind.toNat : Int) == 50) = (q.kind == 50) := u8_at q.kind 50 (by omega)
  have y51 : ((q.kind.toNat : Int) == 51) = (q.kind == 51) := u8_at q.kind 51 (by omega)
  have y52 : ((q.kind.toNat : Int) == 52) = (q.kind == 52) := u8_at q.kind 52 (by omega)
  have hB := Lib.hid (below_alloc1 w (.cells (nodC q) 25))
  have HN := Lib.hid (heap_alloc_new w (.cells (nodC q) 25))
  have CW := Lib.hid (fun w => within_any (q.kind.toNat : Int) 48 54 w)
  have W1 := Lib.hid (fun w => within_any q.mode 0 4095 w)
  have W2 := Lib.hid (fun w => within_any q.uid 0 1099511627775 w)
  have W3 := Lib.hid (fun w => within_any q.gid 0 1099511627775 w)
  have W4 := Lib.hid (fun w => within_any q.major 0 (2097151 * (if D then 1 else 0)) w)
  have W5 := Lib.hid (fun w => within_any q.minor 0 (2097151 * (if D then 1 else 0)) w)
  have TR := Lib.hid (fun w => St.refRight_any q.sec q.nano w)
  have O := Lib.hid (fun w => one_any D w)
  have O8 := Lib.hid (fun w => one_any x48 w)
  have P1 := Lib.hid (fun w => plainN q.link hll w)
  rw [hK] at CW
  rw [← fitsN_dec, hm1] at W1
  rw [← fitsN_dec, hm2] at W2
  rw [← fitsN_dec, hm3] at W3
  rw [← fitsN_dec, hmj] at W4
  rw [← fitsN_dec, hmn] at W5
  rw [htR] at TR
  rw [hp1] at P1
  rw [hbl] at el
  rw [h48] at y48
  rw [h49] at y49
  rw [h50] at y50
  unfold isDevB at hD
  generalize (q.kind == 51) = x51 at *
  generalize (q.kind == 52) = x52 at *
  clear hi ht hr hK hm1 hm2 hm3 hmj hmn htR hp1 hbl h48 h49 h50 hll
  obtain ⟨o8, ho8⟩ : ∃ q : Int, (if x48 then 1 else 0 : Int) = q := ⟨_, rfl⟩
  have hr1 : 0 ≤ o8 ∧ o8 ≤ 1 := by rw [← ho8]; cases x48 <;> simp
  rw [ho8] at O8 ⊢
  clear ho8
  obtain ⟨hr0, hr1⟩ := hr1
  go_enter Try.func5, Try.ntmps5
  go_upto_region 1 with fail
  go_cut [3] (fun s3 wx => s3 = .bool D ∧ wx = w.alloc (.cells (nodC q) 25))
  case first =>
    subst hD
    cases x51 <;> cases x52
    all_goals
      go_wp2
      go_meet
      exact ⟨rfl, rfl⟩
  case rest =>
    obtain ⟨rfl, rfl⟩ := hcut
    clear y51 y52 hD
    obtain ⟨o1, ho1⟩ : ∃ q : Int, (if D then 1 else 0 : Int) = q := ⟨_, rfl⟩
    have hq1 : 0 ≤ o1 ∧ o1 ≤ 1 := by rw [← ho1]; cases D <;> simp
    rw [ho1] at O W4 W5
    clear ho1
    obtain ⟨hq0, hq1⟩ := hq1
    subst e49 eK e1 e2 e3 eT eb ex ep ej en
    go_wp2_with (first
      | (go_at_call 7; (with_reducible refine (CW.out _).mono ?_); rintro r w' ⟨rfl, hw⟩; subst hw)
      | (go_at_call 7; (with_reducible refine (W1.out _).mono ?_); rintro r w' ⟨rfl, hw⟩; subst hw)
      | (go_at_call 7; (with_reducible refine (W2.out _).mono ?_); rintro r w' ⟨rfl, hw⟩; subst hw)
      | (go_at_call 7; (with_reducible refine (W3.out _).mono ?_); rintro r w' ⟨rfl, hw⟩; subst hw)
      | (go_at_call 8; (with_reducible refine (TR.out _).mono ?_); rintro r w2 ⟨rfl, h2⟩; have hB2 := Lib.hid (hB.out.trans (h2.mono hB.out.size)); have HN2 := Lib.hid ((h2.block _ (Array.getElem?_eq_some_iff.1 HN.out).1).trans HN.out); clear h2; have c0 := row_cellN HN2.out 0 _ rfl; have c1 := row_cellN HN2.out 1 _ rfl; have c2 := row_cellN HN2.out 2 _ rfl; have c3 := row_cellN HN2.out 3 _ rfl; have c4 := row_cellN HN2.out 4 _ rfl; have c5 := row_cellN HN2.out 5 _ rfl; have c6 := row_cellN HN2.out 6 _ rfl; have c7 := row_cellN HN2.out 7 _ rfl; have c8 := row_cellN HN2.out 8 _ rfl; have c9 := row_cellN HN2.out 9 _ rfl)
      | fail)
    have v0 := fun d os => cell_regrown c0 d os
    have v1 := fun d os => cell_regrown c1 d os
    have v2 := fun d os => cell_regrown c2 d os
    have v3 := fun d os => cell_regrown c3 d os
    have v4 := fun d os => cell_regrown c4 d os
    have v5 := fun d os => cell_regrown c5 d os
    have v6 := fun d os => cell_regrown c6 d os
    have v7 := fun d os => cell_regrown c7 d os
    have v8 := fun d os => cell_regrown c8 d os
    have v9 := fun d os => cell_regrown c9 d os
    refine wp_region_quiet_below (by kernel_rfl) (by kernel_rfl) ?_
    repeat (go_big_quiet_step (first
      | (go_at_call 9; with_reducible exact Calls.regrown_of (regrown_eq (P1.out _)))
      | (go_at_call 10; with_reducible exact Calls.regrown_of (regrown_eq (O.out _)))
      | (go_at_call 7; with_reducible exact Calls.regrown_of (regrownN_eq2 (W4.out _)))
      | (go_at_call 7; with_reducible exact Calls.regrown_of (regrownN_eq2 (W5.out _)))))
    refine wpQuiet_nil ?_
    intro _ hw'
    obtain ⟨⟨dq, osq⟩, hw''⟩ := hw'
    subst hw''
    have hB3 := Lib.hid (hB2.out.trans ((below_regrown _ dq osq).mono hB2.out.size))
    have HN3 := Lib.hid (((below_regrown _ dq osq).block _ (Array.getElem?_eq_some_iff.1 HN2.out).1).trans HN2.out)
    dsimp only at *
    generalize Sort.grow (redrawn _ dq) osq = w3 at *
    clear v0 v1 v2 v3 v4 v5 v6 v7 v8 v9
    clear c0 c1 c2 c3 c4 c5 c6 c7 c8 c9
    have c0 := row_cellN HN3.out 0 _ rfl; have c1 := row_cellN HN3.out 1 _ rfl; have c2 := row_cellN HN3.out 2 _ rfl; have c3 := row_cellN HN3.out 3 _ rfl; have c4 := row_cellN HN3.out 4 _ rfl; have c5 := row_cellN HN3.out 5 _ rfl; have c6 := row_cellN HN3.out 6 _ rfl; have c7 := row_cellN HN3.out 7 _ rfl; have c8 := row_cellN HN3.out 8 _ rfl; have c9 := row_cellN HN3.out 9 _ rfl
    go_wp2_with fail
    have v0 := fun d os => cell_regrown c0 d os
    have v1 := fun d os => cell_regrown c1 d os
    have v2 := fun d os => cell_regrown c2 d os
    have v3 := fun d os => cell_regrown c3 d os
    have v4 := fun d os => cell_regrown c4 d os
    have v5 := fun d os => cell_regrown c5 d os
    have v6 := fun d os => cell_regrown c6 d os
    have v7 := fun d os => cell_regrown c7 d os
    have v8 := fun d os => cell_regrown c8 d os
    have v9 := fun d os => cell_regrown c9 d os
    refine wp_region_quiet_below (by kernel_rfl) (by kernel_rfl) ?_
    repeat (go_big_quiet_step (first
      | (go_at_call 10; with_reducible exact Calls.regrown_of (regrown_eq (O8.out _)))))
    refine wpQuiet_nil ?_
    intro _ hw'
    obtain ⟨⟨dq, osq⟩, hw''⟩ := hw'
    subst hw''
    have hB4 := Lib.hid (hB3.out.trans ((below_regrown _ dq osq).mono hB3.out.size))
    have HN4 := Lib.hid (((below_regrown _ dq osq).block _ (Array.getElem?_eq_some_iff.1 HN3.out).1).trans HN3.out)
    dsimp only at *
    generalize Sort.grow (redrawn _ dq) osq = w4 at *
    clear v0 v1 v2 v3 v4 v5 v6 v7 v8 v9
    clear c0 c1 c2 c3 c4 c5 c6 c7 c8 c9
    have c0 := row_cellN HN4.out 0 _ rfl; have c1 := row_cellN HN4.out 1 _ rfl; have c2 := row_cellN HN4.out 2 _ rfl; have c3 := row_cellN HN4.out 3 _ rfl; have c4 := row_cellN HN4.out 4 _ rfl; have c5 := row_cellN HN4.out 5 _ rfl; have c6 := row_cellN HN4.out 6 _ rfl; have c7 := row_cellN HN4.out 7 _ rfl; have c8 := row_cellN HN4.out 8 _ rfl; have c9 := row_cellN HN4.out 9 _ rfl
    go_wp2_with fail
    go_ret
    exact ⟨by first | rfl | simp, hB4.out⟩
set_option maxRecDepth 100000 in
set_option maxHeartbeats 8000000 in
theorem node_P_false (q : NodL) (hi : intsN q) (ht : textsN q) (K x48 x49 x50 D m1 m2 m3 tR bl p1 mj mn : Bool) (w : World)
    (hK : decide (48 ≤ (q.kind.toNat : Int) ∧ (q.kind.toNat : Int) ≤ 54) = K) (h48 : (q.kind == 48) = x48) (h49 : (q.kind == 49) = x49) (h50 : (q.kind == 50) = x50) (hD : isDevB q.kind = D) (hm1 : fitsI q.mode 4095 = m1) (hm2 : fitsI q.uid 1099511627775 = m2) (hm3 : fitsI q.gid 1099511627775 = m3) (htR : St.rightB q.sec q.nano = tR) (hbl : decide (q.link = []) = bl) (hp1 : txtOk q.link 120 = p1) (hmj : fitsI q.major (2097151 * (if D then 1 else 0)) = mj) (hmn : fitsI q.minor (2097151 * (if D then 1 else 0)) = mn) (e49 : x49 = false) (eK : K = true) (e1 : m1 = true) (e2 : m2 = true) (e3 : m3 = true) (eT : tR = true) (eb : bl = false) (ex : x50 = true) (ep : p1 = false) :
    Calls Try.prog 5 #[nodV q] w fun r w' => r = .returned (.bool (!x49 && (K && (m1 && (m2 && (m3 && (tR && ((x50 != bl) && (p1 && (mj && (mn && decide ((q.data.length : Int) ≤ 4000 * (if x48 then 1 else 0))))))))))))) ∧ Below w.heap.size w w' := by
  have hr := reachBytes_lt
  have sd := mkS_size q.data
  have hdl : (q.data.length : Int) ≤ 200000000000000 := by have := ht.1; omega
  have hll : q.link.length ≤ 9223372036854775807 := by have := ht.2; omega
  have hwr := wrapN_u8 q.kind
  have el := emp_dec q.link
  have y48 : ((q.kind.toNat : Int) == 48) = (q.kind == 48) := u8_at q.kind 48 (by omega)
  have y49 : ((q.kind.toNat : Int) == 49) = (q.kind == 49) := u8_at q.kind 49 (by omega)
  have y50 : ((q.kind.toNat : Int) == 50) = (q.kind == 50) := u8_at q.kind 50 (by omega)
  have y51 : ((q.kind.toNat : Int) == 51) = (q.kind == 51) := u8_at q.kind 51 (by omega)
  have y52 : ((q.kind.toNat : Int) == 52) = (q.kind == 52) := u8_at q.kind 52 (by omega)
  have hB := Lib.hid (below_alloc1 w (.cells (nodC q) 25))
  have HN := Lib.hid (heap_alloc_new w (.cells (nodC q) 25))
  have CW := Lib.hid (fun w => within_any (q.kind.toNat : Int) 48 54 w)
  have W1 := Lib.hid (fun w => within_any q.mode 0 4095 w)
  have W2 := Lib.hid (fun w => within_any q.uid 0 1099511627775 w)
  have W3 := Lib.hid (fun w => within_any q.gid 0 1099511627775 w)
  have W4 := Lib.hid (fun w => within_any q.major 0 (2097151 * (if D then 1 else 0)) w)
  have W5 := Lib.hid (fun w => within_any q.minor 0 (2097151 * (if D then 1 else 0)) w)
  have TR := Lib.hid (fun w => St.refRight_any q.sec q.nano w)
  have O := Lib.hid (fun w => one_any D w)
  have O8 := Lib.hid (fun w => one_any x48 w)
  have P1 := Lib.hid (fun w => plainN q.link hll w)
  rw [hK] at CW
  rw [← fitsN_dec, hm1] at W1
  rw [← fitsN_dec, hm2] at W2
  rw [← fitsN_dec, hm3] at W3
  rw [← fitsN_dec, hmj] at W4
  rw [← fitsN_dec, hmn] at W5
  rw [htR] at TR
  rw [hp1] at P1
  rw [hbl] at el
  rw [h48] at y48
  rw [h49] at y49
  rw [h50] at y50
  unfold isDevB at hD
  generalize (q.kind == 51) = x51 at *
  generalize (q.kind == 52) = x52 at *
  clear hi ht hr hK hm1 hm2 hm3 hmj hmn htR hp1 hbl h48 h49 h50 hll
  obtain ⟨o8, ho8⟩ : ∃ q : Int, (if x48 then 1 else 0 : Int) = q := ⟨_, rfl⟩
  have hr1 : 0 ≤ o8 ∧ o8 ≤ 1 := by rw [← ho8]; cases x48 <;> simp
  rw [ho8] at O8 ⊢
  clear ho8
  obtain ⟨hr0, hr1⟩ := hr1
  go_enter Try.func5, Try.ntmps5
  go_upto_region 1 with fail
  go_cut [3] (fun s3 wx => s3 = .bool D ∧ wx = w.alloc (.cells (nodC q) 25))
  case first =>
    subst hD
    cases x51 <;> cases x52
    all_goals
      go_wp2
      go_meet
      exact ⟨rfl, rfl⟩
  case rest =>
    obtain ⟨rfl, rfl⟩ := hcut
    clear y51 y52 hD
    obtain ⟨o1, ho1⟩ : ∃ q : Int, (if D then 1 else 0 : Int) = q := ⟨_, rfl⟩
    have hq1 : 0 ≤ o1 ∧ o1 ≤ 1 := by rw [← ho1]; cases D <;> simp
    rw [ho1] at O W4 W5
    clear ho1
    obtain ⟨hq0, hq1⟩ := hq1
    subst e49 eK e1 e2 e3 eT eb ex ep
    go_wp2_with (first
      | (go_at_call 7; (with_reducible refine (CW.out _).mono ?_); rintro r w' ⟨rfl, hw⟩; subst hw)
      | (go_at_call 7; (with_reducible refine (W1.out _).mono ?_); rintro r w' ⟨rfl, hw⟩; subst hw)
      | (go_at_call 7; (with_reducible refine (W2.out _).mono ?_); rintro r w' ⟨rfl, hw⟩; subst hw)
      | (go_at_call 7; (with_reducible refine (W3.out _).mono ?_); rintro r w' ⟨rfl, hw⟩; subst hw)
      | (go_at_call 8; (with_reducible refine (TR.out _).mono ?_); rintro r w2 ⟨rfl, h2⟩; have hB2 := Lib.hid (hB.out.trans (h2.mono hB.out.size)); have HN2 := Lib.hid ((h2.block _ (Array.getElem?_eq_some_iff.1 HN.out).1).trans HN.out); clear h2; have c0 := row_cellN HN2.out 0 _ rfl; have c1 := row_cellN HN2.out 1 _ rfl; have c2 := row_cellN HN2.out 2 _ rfl; have c3 := row_cellN HN2.out 3 _ rfl; have c4 := row_cellN HN2.out 4 _ rfl; have c5 := row_cellN HN2.out 5 _ rfl; have c6 := row_cellN HN2.out 6 _ rfl; have c7 := row_cellN HN2.out 7 _ rfl; have c8 := row_cellN HN2.out 8 _ rfl; have c9 := row_cellN HN2.out 9 _ rfl)
      | fail)
    have v0 := fun d os => cell_regrown c0 d os
    have v1 := fun d os => cell_regrown c1 d os
    have v2 := fun d os => cell_regrown c2 d os
    have v3 := fun d os => cell_regrown c3 d os
    have v4 := fun d os => cell_regrown c4 d os
    have v5 := fun d os => cell_regrown c5 d os
    have v6 := fun d os => cell_regrown c6 d os
    have v7 := fun d os => cell_regrown c7 d os
    have v8 := fun d os => cell_regrown c8 d os
    have v9 := fun d os => cell_regrown c9 d os
    refine wp_region_quiet_below (by kernel_rfl) (by kernel_rfl) ?_
    repeat (go_big_quiet_step (first
      | (go_at_call 9; with_reducible exact Calls.regrown_of (regrown_eq (P1.out _)))
      | (go_at_call 10; with_reducible exact Calls.regrown_of (regrown_eq (O.out _)))
      | (go_at_call 7; with_reducible exact Calls.regrown_of (regrownN_eq2 (W4.out _)))
      | (go_at_call 7; with_reducible exact Calls.regrown_of (regrownN_eq2 (W5.out _)))))
    refine wpQuiet_nil ?_
    intro _ hw'
    obtain ⟨⟨dq, osq⟩, hw''⟩ := hw'
    subst hw''
    have hB3 := Lib.hid (hB2.out.trans ((below_regrown _ dq osq).mono hB2.out.size))
    have HN3 := Lib.hid (((below_regrown _ dq osq).block _ (Array.getElem?_eq_some_iff.1 HN2.out).1).trans HN2.out)
    dsimp only at *
    generalize Sort.grow (redrawn _ dq) osq = w3 at *
    clear v0 v1 v2 v3 v4 v5 v6 v7 v8 v9
    clear c0 c1 c2 c3 c4 c5 c6 c7 c8 c9
    have c0 := row_cellN HN3.out 0 _ rfl; have c1 := row_cellN HN3.out 1 _ rfl; have c2 := row_cellN HN3.out 2 _ rfl; have c3 := row_cellN HN3.out 3 _ rfl; have c4 := row_cellN HN3.out 4 _ rfl; have c5 := row_cellN HN3.out 5 _ rfl; have c6 := row_cellN HN3.out 6 _ rfl; have c7 := row_cellN HN3.out 7 _ rfl; have c8 := row_cellN HN3.out 8 _ rfl; have c9 := row_cellN HN3.out 9 _ rfl
    go_wp2_with fail
    go_ret
    exact ⟨by first | rfl | simp, hB3.out⟩
set_option maxRecDepth 100000 in
set_option maxHeartbeats 8000000 in
theorem node_mj_false (q : NodL) (hi : intsN q) (ht : textsN q) (K x48 x49 x50 D m1 m2 m3 tR bl p1 mj mn : Bool) (w : World)
    (hK : decide (48 ≤ (q.kind.toNat : Int) ∧ (q.kind.toNat : Int) ≤ 54) = K) (h48 : (q.kind == 48) = x48) (h49 : (q.kind == 49) = x49) (h50 : (q.kind == 50) = x50) (hD : isDevB q.kind = D) (hm1 : fitsI q.mode 4095 = m1) (hm2 : fitsI q.uid 1099511627775 = m2) (hm3 : fitsI q.gid 1099511627775 = m3) (htR : St.rightB q.sec q.nano = tR) (hbl : decide (q.link = []) = bl) (hp1 : txtOk q.link 120 = p1) (hmj : fitsI q.major (2097151 * (if D then 1 else 0)) = mj) (hmn : fitsI q.minor (2097151 * (if D then 1 else 0)) = mn) (e49 : x49 = false) (eK : K = true) (e1 : m1 = true) (e2 : m2 = true) (e3 : m3 = true) (eT : tR = true) (eb : bl = false) (ex : x50 = true) (ep : p1 = true) (ej : mj = false) :
    Calls Try.prog 5 #[nodV q] w fun r w' => r = .returned (.bool (!x49 && (K && (m1 && (m2 && (m3 && (tR && ((x50 != bl) && (p1 && (mj && (mn && decide ((q.data.length : Int) ≤ 4000 * (if x48 then 1 else 0))))))))))))) ∧ Below w.heap.size w w' := by
  have hr := reachBytes_lt
  have sd := mkS_size q.data
  have hdl : (q.data.length : Int) ≤ 200000000000000 := by have := ht.1; omega
  have hll : q.link.length ≤ 9223372036854775807 := by have := ht.2; omega
  have hwr := wrapN_u8 q.kind
  have el := emp_dec q.link
  have y48 : ((q.kind.toNat : Int) == 48) = (q.kind == 48) := u8_at q.kind 48 (by omega)
  have y49 : ((q.kind.toNat : Int) == 49) = (q.kind == 49) := u8_at q.kind 49 (by omega)
  have y50 : ((q.kind.toNat : Int) == 50) = (q.kind == 50) := u8_at q.kind 50 (by omega)
  have y51 : ((q.kind.toNat : Int) == 51) = (q.kind == 51) := u8_at q.kind 51 (by omega)
  have y52 : ((q.kind.toNat : Int) == 52) = (q.kind == 52) := u8_at q.kind 52 (by omega)
  have hB := Lib.hid (below_alloc1 w (.cells (nodC q) 25))
  have HN := Lib.hid (heap_alloc_new w (.cells (nodC q) 25))
  have CW := Lib.hid (fun w => within_any (q.kind.toNat : Int) 48 54 w)
  have W1 := Lib.hid (fun w => within_any q.mode 0 4095 w)
  have W2 := Lib.hid (fun w => within_any q.uid 0 1099511627775 w)
  have W3 := Lib.hid (fun w => within_any q.gid 0 1099511627775 w)
  have W4 := Lib.hid (fun w => within_any q.major 0 (2097151 * (if D then 1 else 0)) w)
  have W5 := Lib.hid (fun w => within_any q.minor 0 (2097151 * (if D then 1 else 0)) w)
  have TR := Lib.hid (fun w => St.refRight_any q.sec q.nano w)
  have O := Lib.hid (fun w => one_any D w)
  have O8 := Lib.hid (fun w => one_any x48 w)
  have P1 := Lib.hid (fun w => plainN q.link hll w)
  rw [hK] at CW
  rw [← fitsN_dec, hm1] at W1
  rw [← fitsN_dec, hm2] at W2
  rw [← fitsN_dec, hm3] at W3
  rw [← fitsN_dec, hmj] at W4
  rw [← fitsN_dec, hmn] at W5
  rw [htR] at TR
  rw [hp1] at P1
  rw [hbl] at el
  rw [h48] at y48
  rw [h49] at y49
  rw [h50] at y50
  unfold isDevB at hD
  generalize (q.kind == 51) = x51 at *
  generalize (q.kind == 52) = x52 at *
  clear hi ht hr hK hm1 hm2 hm3 hmj hmn htR hp1 hbl h48 h49 h50 hll
  obtain ⟨o8, ho8⟩ : ∃ q : Int, (if x48 then 1 else 0 : Int) = q := ⟨_, rfl⟩
  have hr1 : 0 ≤ o8 ∧ o8 ≤ 1 := by rw [← ho8]; cases x48 <;> simp
  rw [ho8] at O8 ⊢
  clear ho8
  obtain ⟨hr0, hr1⟩ := hr1
  go_enter Try.func5, Try.ntmps5
  go_upto_region 1 with fail
  go_cut [3] (fun s3 wx => s3 = .bool D ∧ wx = w.alloc (.cells (nodC q) 25))
  case first =>
    subst hD
    cases x51 <;> cases x52
    all_goals
      go_wp2
      go_meet
      exact ⟨rfl, rfl⟩
  case rest =>
    obtain ⟨rfl, rfl⟩ := hcut
    clear y51 y52 hD
    obtain ⟨o1, ho1⟩ : ∃ q : Int, (if D then 1 else 0 : Int) = q := ⟨_, rfl⟩
    have hq1 : 0 ≤ o1 ∧ o1 ≤ 1 := by rw [← ho1]; cases D <;> simp
    rw [ho1] at O W4 W5
    clear ho1
    obtain ⟨hq0, hq1⟩ := hq1
    subst e49 eK e1 e2 e3 eT eb ex ep ej
    go_wp2_with (first
      | (go_at_call 7; (with_reducible refine (CW.out _).mono ?_); rintro r w' ⟨rfl, hw⟩; subst hw)
      | (go_at_call 7; (with_reducible refine (W1.out _).mono ?_); rintro r w' ⟨rfl, hw⟩; subst hw)
      | (go_at_call 7; (with_reducible refine (W2.out _).mono ?_); rintro r w' ⟨rfl, hw⟩; subst hw)
      | (go_at_call 7; (with_reducible refine (W3.out _).mono ?_); rintro r w' ⟨rfl, hw⟩; subst hw)
      | (go_at_call 8; (with_reducible refine (TR.out _).mono ?_); rintro r w2 ⟨rfl, h2⟩; have hB2 := Lib.hid (hB.out.trans (h2.mono hB.out.size)); have HN2 := Lib.hid ((h2.block _ (Array.getElem?_eq_some_iff.1 HN.out).1).trans HN.out); clear h2; have c0 := row_cellN HN2.out 0 _ rfl; have c1 := row_cellN HN2.out 1 _ rfl; have c2 := row_cellN HN2.out 2 _ rfl; have c3 := row_cellN HN2.out 3 _ rfl; have c4 := row_cellN HN2.out 4 _ rfl; have c5 := row_cellN HN2.out 5 _ rfl; have c6 := row_cellN HN2.out 6 _ rfl; have c7 := row_cellN HN2.out 7 _ rfl; have c8 := row_cellN HN2.out 8 _ rfl; have c9 := row_cellN HN2.out 9 _ rfl)
      | fail)
    have v0 := fun d os => cell_regrown c0 d os
    have v1 := fun d os => cell_regrown c1 d os
    have v2 := fun d os => cell_regrown c2 d os
    have v3 := fun d os => cell_regrown c3 d os
    have v4 := fun d os => cell_regrown c4 d os
    have v5 := fun d os => cell_regrown c5 d os
    have v6 := fun d os => cell_regrown c6 d os
    have v7 := fun d os => cell_regrown c7 d os
    have v8 := fun d os => cell_regrown c8 d os
    have v9 := fun d os => cell_regrown c9 d os
    refine wp_region_quiet_below (by kernel_rfl) (by kernel_rfl) ?_
    repeat (go_big_quiet_step (first
      | (go_at_call 9; with_reducible exact Calls.regrown_of (regrown_eq (P1.out _)))
      | (go_at_call 10; with_reducible exact Calls.regrown_of (regrown_eq (O.out _)))
      | (go_at_call 7; with_reducible exact Calls.regrown_of (regrownN_eq2 (W4.out _)))
      | (go_at_call 7; with_reducible exact Calls.regrown_of (regrownN_eq2 (W5.out _)))))
    refine wpQuiet_nil ?_
    intro _ hw'
    obtain ⟨⟨dq, osq⟩, hw''⟩ := hw'
    subst hw''
    have hB3 := Lib.hid (hB2.out.trans ((below_regrown _ dq osq).mono hB2.out.size))
    have HN3 := Lib.hid (((below_regrown _ dq osq).block _ (Array.getElem?_eq_some_iff.1 HN2.out).1).trans HN2.out)
    dsimp only at *
    generalize Sort.grow (redrawn _ dq) osq = w3 at *
    clear v0 v1 v2 v3 v4 v5 v6 v7 v8 v9
    clear c0 c1 c2 c3 c4 c5 c6 c7 c8 c9
    have c0 := row_cellN HN3.out 0 _ rfl; have c1 := row_cellN HN3.out 1 _ rfl; have c2 := row_cellN HN3.out 2 _ rfl; have c3 := row_cellN HN3.out 3 _ rfl; have c4 := row_cellN HN3.out 4 _ rfl; have c5 := row_cellN HN3.out 5 _ rfl; have c6 := row_cellN HN3.out 6 _ rfl; have c7 := row_cellN HN3.out 7 _ rfl; have c8 := row_cellN HN3.out 8 _ rfl; have c9 := row_cellN HN3.out 9 _ rfl
    go_wp2_with fail
    go_ret
    exact ⟨by first | rfl | simp, hB3.out⟩
set_option maxRecDepth 100000 in
set_option maxHeartbeats 8000000 in
theorem node_mn_false (q : NodL) (hi : intsN q) (ht : textsN q) (K x48 x49 x50 D m1 m2 m3 tR bl p1 mj mn : Bool) (w : World)
    (hK : decide (48 ≤ (q.kind.toNat : Int) ∧ (q.kind.toNat : Int) ≤ 54) = K) (h48 : (q.kind == 48) = x48) (h49 : (q.kind == 49) = x49) (h50 : (q.kind == 50) = x50) (hD : isDevB q.kind = D) (hm1 : fitsI q.mode 4095 = m1) (hm2 : fitsI q.uid 1099511627775 = m2) (hm3 : fitsI q.gid 1099511627775 = m3) (htR : St.rightB q.sec q.nano = tR) (hbl : decide (q.link = []) = bl) (hp1 : txtOk q.link 120 = p1) (hmj : fitsI q.major (2097151 * (if D then 1 else 0)) = mj) (hmn : fitsI q.minor (2097151 * (if D then 1 else 0)) = mn) (e49 : x49 = false) (eK : K = true) (e1 : m1 = true) (e2 : m2 = true) (e3 : m3 = true) (eT : tR = true) (eb : bl = false) (ex : x50 = true) (ep : p1 = true) (ej : mj = true) (en : mn = false) :
    Calls Try.prog 5 #[nodV q] w fun r w' => r = .returned (.bool (!x49 && (K && (m1 && (m2 && (m3 && (tR && ((x50 != bl) && (p1 && (mj && (mn && decide ((q.data.length : Int) ≤ 4000 * (if x48 then 1 else 0))))))))))))) ∧ Below w.heap.size w w' := by
  have hr := reachBytes_lt
  have sd := mkS_size q.data
  have hdl : (q.data.length : Int) ≤ 200000000000000 := by have := ht.1; omega
  have hll : q.link.length ≤ 9223372036854775807 := by have := ht.2; omega
  have hwr := wrapN_u8 q.kind
  have el := emp_dec q.link
  have y48 : ((q.kind.toNat : Int) == 48) = (q.kind == 48) := u8_at q.kind 48 (by omega)
  have y49 : ((q.kind.toNat : Int) == 49) = (q.kind == 49) := u8_at q.kind 49 (by omega)
  have y50 : ((q.kind.toNat : Int) == 50) = (q.kind == 50) := u8_at q.kind 50 (by omega)
  have y51 : ((q.kind.toNat : Int) == 51) = (q.kind == 51) := u8_at q.kind 51 (by omega)
  have y52 : ((q.kind.toNat : Int) == 52) = (q.kind == 52) := u8_at q.kind 52 (by omega)
  have hB := Lib.hid (below_alloc1 w (.cells (nodC q) 25))
  have HN := Lib.hid (heap_alloc_new w (.cells (nodC q) 25))
  have CW := Lib.hid (fun w => within_any (q.kind.toNat : Int) 48 54 w)
  have W1 := Lib.hid (fun w => within_any q.mode 0 4095 w)
  have W2 := Lib.hid (fun w => within_any q.uid 0 1099511627775 w)
  have W3 := Lib.hid (fun w => within_any q.gid 0 1099511627775 w)
  have W4 := Lib.hid (fun w => within_any q.major 0 (2097151 * (if D then 1 else 0)) w)
  have W5 := Lib.hid (fun w => within_any q.minor 0 (2097151 * (if D then 1 else 0)) w)
  have TR := Lib.hid (fun w => St.refRight_any q.sec q.nano w)
  have O := Lib.hid (fun w => one_any D w)
  have O8 := Lib.hid (fun w => one_any x48 w)
  have P1 := Lib.hid (fun w => plainN q.link hll w)
  rw [hK] at CW
  rw [← fitsN_dec, hm1] at W1
  rw [← fitsN_dec, hm2] at W2
  rw [← fitsN_dec, hm3] at W3
  rw [← fitsN_dec, hmj] at W4
  rw [← fitsN_dec, hmn] at W5
  rw [htR] at TR
  rw [hp1] at P1
  rw [hbl] at el
  rw [h48] at y48
  rw [h49] at y49
  rw [h50] at y50
  unfold isDevB at hD
  generalize (q.kind == 51) = x51 at *
  generalize (q.kind == 52) = x52 at *
  clear hi ht hr hK hm1 hm2 hm3 hmj hmn htR hp1 hbl h48 h49 h50 hll
  obtain ⟨o8, ho8⟩ : ∃ q : Int, (if x48 then 1 else 0 : Int) = q := ⟨_, rfl⟩
  have hr1 : 0 ≤ o8 ∧ o8 ≤ 1 := by rw [← ho8]; cases x48 <;> simp
  rw [ho8] at O8 ⊢
  clear ho8
  obtain ⟨hr0, hr1⟩ := hr1
  go_enter Try.func5, Try.ntmps5
  go_upto_region 1 with fail
  go_cut [3] (fun s3 wx => s3 = .bool D ∧ wx = w.alloc (.cells (nodC q) 25))
  case first =>
    subst hD
    cases x51 <;> cases x52
    all_goals
      go_wp2
      go_meet
      exact ⟨rfl, rfl⟩
  case rest =>
    obtain ⟨rfl, rfl⟩ := hcut
    clear y51 y52 hD
    obtain ⟨o1, ho1⟩ : ∃ q : Int, (if D then 1 else 0 : Int) = q := ⟨_, rfl⟩
    have hq1 : 0 ≤ o1 ∧ o1 ≤ 1 := by rw [← ho1]; cases D <;> simp
    rw [ho1] at O W4 W5
    clear ho1
    obtain ⟨hq0, hq1⟩ := hq1
    subst e49 eK e1 e2 e3 eT eb ex ep ej en
    go_wp2_with (first
      | (go_at_call 7; (with_reducible refine (CW.out _).mono ?_); rintro r w' ⟨rfl, hw⟩; subst hw)
      | (go_at_call 7; (with_reducible refine (W1.out _).mono ?_); rintro r w' ⟨rfl, hw⟩; subst hw)
      | (go_at_call 7; (with_reducible refine (W2.out _).mono ?_); rintro r w' ⟨rfl, hw⟩; subst hw)
      | (go_at_call 7; (with_reducible refine (W3.out _).mono ?_); rintro r w' ⟨rfl, hw⟩; subst hw)
      | (go_at_call 8; (with_reducible refine (TR.out _).mono ?_); rintro r w2 ⟨rfl, h2⟩; have hB2 := Lib.hid (hB.out.trans (h2.mono hB.out.size)); have HN2 := Lib.hid ((h2.block _ (Array.getElem?_eq_some_iff.1 HN.out).1).trans HN.out); clear h2; have c0 := row_cellN HN2.out 0 _ rfl; have c1 := row_cellN HN2.out 1 _ rfl; have c2 := row_cellN HN2.out 2 _ rfl; have c3 := row_cellN HN2.out 3 _ rfl; have c4 := row_cellN HN2.out 4 _ rfl; have c5 := row_cellN HN2.out 5 _ rfl; have c6 := row_cellN HN2.out 6 _ rfl; have c7 := row_cellN HN2.out 7 _ rfl; have c8 := row_cellN HN2.out 8 _ rfl; have c9 := row_cellN HN2.out 9 _ rfl)
      | fail)
    have v0 := fun d os => cell_regrown c0 d os
    have v1 := fun d os => cell_regrown c1 d os
    have v2 := fun d os => cell_regrown c2 d os
    have v3 := fun d os => cell_regrown c3 d os
    have v4 := fun d os => cell_regrown c4 d os
    have v5 := fun d os => cell_regrown c5 d os
    have v6 := fun d os => cell_regrown c6 d os
    have v7 := fun d os => cell_regrown c7 d os
    have v8 := fun d os => cell_regrown c8 d os
    have v9 := fun d os => cell_regrown c9 d os
    refine wp_region_quiet_below (by kernel_rfl) (by kernel_rfl) ?_
    repeat (go_big_quiet_step (first
      | (go_at_call 9; with_reducible exact Calls.regrown_of (regrown_eq (P1.out _)))
      | (go_at_call 10; with_reducible exact Calls.regrown_of (regrown_eq (O.out _)))
      | (go_at_call 7; with_reducible exact Calls.regrown_of (regrownN_eq2 (W4.out _)))
      | (go_at_call 7; with_reducible exact Calls.regrown_of (regrownN_eq2 (W5.out _)))))
    refine wpQuiet_nil ?_
    intro _ hw'
    obtain ⟨⟨dq, osq⟩, hw''⟩ := hw'
    subst hw''
    have hB3 := Lib.hid (hB2.out.trans ((below_regrown _ dq osq).mono hB2.out.size))
    have HN3 := Lib.hid (((below_regrown _ dq osq).block _ (Array.getElem?_eq_some_iff.1 HN2.out).1).trans HN2.out)
    dsimp only at *
    generalize Sort.grow (redrawn _ dq) osq = w3 at *
    clear v0 v1 v2 v3 v4 v5 v6 v7 v8 v9
    clear c0 c1 c2 c3 c4 c5 c6 c7 c8 c9
    have c0 := row_cellN HN3.out 0 _ rfl; have c1 := row_cellN HN3.out 1 _ rfl; have c2 := row_cellN HN3.out 2 _ rfl; have c3 := row_cellN HN3.out 3 _ rfl; have c4 := row_cellN HN3.out 4 _ rfl; have c5 := row_cellN HN3.out 5 _ rfl; have c6 := row_cellN HN3.out 6 _ rfl; have c7 := row_cellN HN3.out 7 _ rfl; have c8 := row_cellN HN3.out 8 _ rfl; have c9 := row_cellN HN3.out 9 _ rfl
    go_wp2_with fail
    go_ret
    exact ⟨by first | rfl | simp, hB3.out⟩
set_option maxRecDepth 100000 in
set_option maxHeartbeats 8000000 in
theorem node_ok_false (q : NodL) (hi : intsN q) (ht : textsN q) (K x48 x49 x50 D m1 m2 m3 tR bl p1 mj mn : Bool) (w : World)
    (hK : decide (48 ≤ (q.kind.toNat : Int) ∧ (q.kind.toNat : Int) ≤ 54) = K) (h48 : (q.kind == 48) = x48) (h49 : (q.kind == 49) = x49) (h50 : (q.kind == 50) = x50) (hD : isDevB q.kind = D) (hm1 : fitsI q.mode 4095 = m1) (hm2 : fitsI q.uid 1099511627775 = m2) (hm3 : fitsI q.gid 1099511627775 = m3) (htR : St.rightB q.sec q.nano = tR) (hbl : decide (q.link = []) = bl) (hp1 : txtOk q.link 120 = p1) (hmj : fitsI q.major (2097151 * (if D then 1 else 0)) = mj) (hmn : fitsI q.minor (2097151 * (if D then 1 else 0)) = mn) (e49 : x49 = false) (eK : K = true) (e1 : m1 = true) (e2 : m2 = true) (e3 : m3 = true) (eT : tR = true) (eb : bl = false) (ex : x50 = true) (ep : p1 = true) (ej : mj = true) (en : mn = true) :
    Calls Try.prog 5 #[nodV q] w fun r w' => r = .returned (.bool (!x49 && (K && (m1 && (m2 && (m3 && (tR && ((x50 != bl) && (p1 && (mj && (mn && decide ((q.data.length : Int) ≤ 4000 * (if x48 then 1 else 0))))))))))))) ∧ Below w.heap.size w w' := by
  have hr := reachBytes_lt
  have sd := mkS_size q.data
  have hdl : (q.data.length : Int) ≤ 200000000000000 := by have := ht.1; omega
  have hll : q.link.length ≤ 9223372036854775807 := by have := ht.2; omega
  have hwr := wrapN_u8 q.kind
  have el := emp_dec q.link
  have y48 : ((q.kind.toNat : Int) == 48) = (q.kind == 48) := u8_at q.kind 48 (by omega)
  have y49 : ((q.kind.toNat : Int) == 49) = (q.kind == 49) := u8_at q.kind 49 (by omega)
  have y50 : ((q.kind.toNat : Int) == 50) = (q.kind == 50) := u8_at q.kind 50 (by omega)
  have y51 : ((q.kind.toNat : Int) == 51) = (q.kind == 51) := u8_at q.kind 51 (by omega)
  have y52 : ((q.kind.toNat : Int) == 52) = (q.kind == 52) := u8_at q.kind 52 (by omega)
  have hB := Lib.hid (below_alloc1 w (.cells (nodC q) 25))
  have HN := Lib.hid (heap_alloc_new w (.cells (nodC q) 25))
  have CW := Lib.hid (fun w => within_any (q.kind.toNat : Int) 48 54 w)
  have W1 := Lib.hid (fun w => within_any q.mode 0 4095 w)
  have W2 := Lib.hid (fun w => within_any q.uid 0 1099511627775 w)
  have W3 := Lib.hid (fun w => within_any q.gid 0 1099511627775 w)
  have W4 := Lib.hid (fun w => within_any q.major 0 (2097151 * (if D then 1 else 0)) w)
  have W5 := Lib.hid (fun w => within_any q.minor 0 (2097151 * (if D then 1 else 0)) w)
  have TR := Lib.hid (fun w => St.refRight_any q.sec q.nano w)
  have O := Lib.hid (fun w => one_any D w)
  have O8 := Lib.hid (fun w => one_any x48 w)
  have P1 := Lib.hid (fun w => plainN q.link hll w)
  rw [hK] at CW
  rw [← fitsN_dec, hm1] at W1
  rw [← fitsN_dec, hm2] at W2
  rw [← fitsN_dec, hm3] at W3
  rw [← fitsN_dec, hmj] at W4
  rw [← fitsN_dec, hmn] at W5
  rw [htR] at TR
  rw [hp1] at P1
  rw [hbl] at el
  rw [h48] at y48
  rw [h49] at y49
  rw [h50] at y50
  unfold isDevB at hD
  generalize (q.kind == 51) = x51 at *
  generalize (q.kind == 52) = x52 at *
  clear hi ht hr hK hm1 hm2 hm3 hmj hmn htR hp1 hbl h48 h49 h50 hll
  obtain ⟨o8, ho8⟩ : ∃ q : Int, (if x48 then 1 else 0 : Int) = q := ⟨_, rfl⟩
  have hr1 : 0 ≤ o8 ∧ o8 ≤ 1 := by rw [← ho8]; cases x48 <;> simp
  rw [ho8] at O8 ⊢
  clear ho8
  obtain ⟨hr0, hr1⟩ := hr1
  go_enter Try.func5, Try.ntmps5
  go_upto_region 1 with fail
  go_cut [3] (fun s3 wx => s3 = .bool D ∧ wx = w.alloc (.cells (nodC q) 25))
  case first =>
    subst hD
    cases x51 <;> cases x52
    all_goals
      go_wp2
      go_meet
      exact ⟨rfl, rfl⟩
  case rest =>
    obtain ⟨rfl, rfl⟩ := hcut
    clear y51 y52 hD
    obtain ⟨o1, ho1⟩ : ∃ q : Int, (if D then 1 else 0 : Int) = q := ⟨_, rfl⟩
    have hq1 : 0 ≤ o1 ∧ o1 ≤ 1 := by rw [← ho1]; cases D <;> simp
    rw [ho1] at O W4 W5
    clear ho1
    obtain ⟨hq0, hq1⟩ := hq1
    subst e49 eK e1 e2 e3 eT eb ex ep ej en
    go_wp2_with (first
      | (go_at_call 7; (with_reducible refine (CW.out _).mono ?_); rintro r w' ⟨rfl, hw⟩; subst hw)
      | (go_at_call 7; (with_reducible refine (W1.out _).mono ?_); rintro r w' ⟨rfl, hw⟩; subst hw)
      | (go_at_call 7; (with_reducible refine (W2.out _).mono ?_); rintro r w' ⟨rfl, hw⟩; subst hw)
      | (go_at_call 7; (with_reducible refine (W3.out _).mono ?_); rintro r w' ⟨rfl, hw⟩; subst hw)
      | (go_at_call 8; (with_reducible refine (TR.out _).mono ?_); rintro r w2 ⟨rfl, h2⟩; have hB2 := Lib.hid (hB.out.trans (h2.mono hB.out.size)); have HN2 := Lib.hid ((h2.block _ (Array.getElem?_eq_some_iff.1 HN.out).1).trans HN.out); clear h2; have c0 := row_cellN HN2.out 0 _ rfl; have c1 := row_cellN HN2.out 1 _ rfl; have c2 := row_cellN HN2.out 2 _ rfl; have c3 := row_cellN HN2.out 3 _ rfl; have c4 := row_cellN HN2.out 4 _ rfl; have c5 := row_cellN HN2.out 5 _ rfl; have c6 := row_cellN HN2.out 6 _ rfl; have c7 := row_cellN HN2.out 7 _ rfl; have c8 := row_cellN HN2.out 8 _ rfl; have c9 := row_cellN HN2.out 9 _ rfl)
      | fail)
    have v0 := fun d os => cell_regrown c0 d os
    have v1 := fun d os => cell_regrown c1 d os
    have v2 := fun d os => cell_regrown c2 d os
    have v3 := fun d os => cell_regrown c3 d os
    have v4 := fun d os => cell_regrown c4 d os
    have v5 := fun d os => cell_regrown c5 d os
    have v6 := fun d os => cell_regrown c6 d os
    have v7 := fun d os => cell_regrown c7 d os
    have v8 := fun d os => cell_regrown c8 d os
    have v9 := fun d os => cell_regrown c9 d os
    refine wp_region_quiet_below (by kernel_rfl) (by kernel_rfl) ?_
    repeat (go_big_quiet_step (first
      | (go_at_call 9; with_reducible exact Calls.regrown_of (regrown_eq (P1.out _)))
      | (go_at_call 10; with_reducible exact Calls.regrown_of (regrown_eq (O.out _)))
      | (go_at_call 7; with_reducible exact Calls.regrown_of (regrownN_eq2 (W4.out _)))
      | (go_at_call 7; with_reducible exact Calls.regrown_of (regrownN_eq2 (W5.out _)))))
    refine wpQuiet_nil ?_
    intro _ hw'
    obtain ⟨⟨dq, osq⟩, hw''⟩ := hw'
    subst hw''
    have hB3 := Lib.hid (hB2.out.trans ((below_regrown _ dq osq).mono hB2.out.size))
    have HN3 := Lib.hid (((below_regrown _ dq osq).block _ (Array.getElem?_eq_some_iff.1 HN2.out).1).trans HN2.out)
    dsimp only at *
    generalize Sort.grow (redrawn _ dq) osq = w3 at *
    clear v0 v1 v2 v3 v4 v5 v6 v7 v8 v9
    clear c0 c1 c2 c3 c4 c5 c6 c7 c8 c9
    have c0 := row_cellN HN3.out 0 _ rfl; have c1 := row_cellN HN3.out 1 _ rfl; have c2 := row_cellN HN3.out 2 _ rfl; have c3 := row_cellN HN3.out 3 _ rfl; have c4 := row_cellN HN3.out 4 _ rfl; have c5 := row_cellN HN3.out 5 _ rfl; have c6 := row_cellN HN3.out 6 _ rfl; have c7 := row_cellN HN3.out 7 _ rfl; have c8 := row_cellN HN3.out 8 _ rfl; have c9 := row_cellN HN3.out 9 _ rfl
    go_wp2_with fail
    have v0 := fun d os => cell_regrown c0 d os
    have v1 := fun d os => cell_regrown c1 d os
    have v2 := fun d os => cell_regrown c2 d os
    have v3 := fun d os => cell_regrown c3 d os
    have v4 := fun d os => cell_regrown c4 d os
    have v5 := fun d os => cell_regrown c5 d os
    have v6 := fun d os => cell_regrown c6 d os
    have v7 := fun d os => cell_regrown c7 d os
    have v8 := fun d os => cell_regrown c8 d os
    have v9 := fun d os => cell_regrown c9 d os
    refine wp_region_quiet_below (by kernel_rfl) (by kernel_rfl) ?_
    repeat (go_big_quiet_step (first
      | (go_at_call 10; with_reducible exact Calls.regrown_of (regrown_eq (O8.out _)))))
    refine wpQuiet_nil ?_
    intro _ hw'
    obtain ⟨⟨dq, osq⟩, hw''⟩ := hw'
    subst hw''
    have hB4 := Lib.hid (hB3.out.trans ((below_regrown _ dq osq).mono hB3.out.size))
    have HN4 := Lib.hid (((below_regrown _ dq osq).block _ (Array.getElem?_eq_some_iff.1 HN3.out).1).trans HN3.out)
    dsimp only at *
    generalize Sort.grow (redrawn _ dq) osq = w4 at *
    clear v0 v1 v2 v3 v4 v5 v6 v7 v8 v9
    clear c0 c1 c2 c3 c4 c5 c6 c7 c8 c9
    have c0 := row_cellN HN4.out 0 _ rfl; have c1 := row_cellN HN4.out 1 _ rfl; have c2 := row_cellN HN4.out 2 _ rfl; have c3 := row_cellN HN4.out 3 _ rfl; have c4 := row_cellN HN4.out 4 _ rfl; have c5 := row_cellN HN4.out 5 _ rfl; have c6 := row_cellN HN4.out 6 _ rfl; have c7 := row_cellN HN4.out 7 _ rfl; have c8 := row_cellN HN4.out 8 _ rfl; have c9 := row_cellN HN4.out 9 _ rfl
    go_wp2_with fail
    go_ret
    exact ⟨by first | rfl | simp, hB4.out⟩
theorem nodeRight_at (q : NodL) (hi : intsN q) (ht : textsN q) (K x48 x49 x50 D m1 m2 m3 tR bl p1 mj mn : Bool) (w : World)
    (hK : decide (48 ≤ (q.kind.toNat : Int) ∧ (q.kind.toNat : Int) ≤ 54) = K) (h48 : (q.kind == 48) = x48) (h49 : (q.kind == 49) = x49) (h50 : (q.kind == 50) = x50) (hD : isDevB q.kind = D) (hm1 : fitsI q.mode 4095 = m1) (hm2 : fitsI q.uid 1099511627775 = m2) (hm3 : fitsI q.gid 1099511627775 = m3) (htR : St.rightB q.sec q.nano = tR) (hbl : decide (q.link = []) = bl) (hp1 : txtOk q.link 120 = p1) (hmj : fitsI q.major (2097151 * (if D then 1 else 0)) = mj) (hmn : fitsI q.minor (2097151 * (if D then 1 else 0)) = mn) :
    Calls Try.prog 5 #[nodV q] w fun r w' => r = .returned (.bool (!x49 && (K && (m1 && (m2 && (m3 && (tR && ((x50 != bl) && (p1 && (mj && (mn && decide ((q.data.length : Int) ≤ 4000 * (if x48 then 1 else 0))))))))))))) ∧ Below w.heap.size w w' := by
  by_cases e49 : x49 = true
  · exact node_49 q hi ht K x48 x49 x50 D m1 m2 m3 tR bl p1 mj mn w hK h48 h49 h50 hD hm1 hm2 hm3 htR hbl hp1 hmj hmn e49
  replace e49 : x49 = false := by simpa using e49
  by_cases eK : K = false
  · exact node_K q hi ht K x48 x49 x50 D m1 m2 m3 tR bl p1 mj mn w hK h48 h49 h50 hD hm1 hm2 hm3 htR hbl hp1 hmj hmn e49 eK
  replace eK : K = true := by simpa using eK
  by_cases e1 : m1 = false
  · exact node_1 q hi ht K x48 x49 x50 D m1 m2 m3 tR bl p1 mj mn w hK h48 h49 h50 hD hm1 hm2 hm3 htR hbl hp1 hmj hmn e49 eK e1
  replace e1 : m1 = true := by simpa using e1
  by_cases e2 : m2 = false
  · exact node_2 q hi ht K x48 x49 x50 D m1 m2 m3 tR bl p1 mj mn w hK h48 h49 h50 hD hm1 hm2 hm3 htR hbl hp1 hmj hmn e49 eK e1 e2
  replace e2 : m2 = true := by simpa using e2
  by_cases e3 : m3 = false
  · exact node_3 q hi ht K x48 x49 x50 D m1 m2 m3 tR bl p1 mj mn w hK h48 h49 h50 hD hm1 hm2 hm3 htR hbl hp1 hmj hmn e49 eK e1 e2 e3
  replace e3 : m3 = true := by simpa using e3
  by_cases eT : tR = false
  · exact node_T q hi ht K x48 x49 x50 D m1 m2 m3 tR bl p1 mj mn w hK h48 h49 h50 hD hm1 hm2 hm3 htR hbl hp1 hmj hmn e49 eK e1 e2 e3 eT
  replace eT : tR = true := by simpa using eT
  by_cases eb : bl = true
  · by_cases ex : x50 = true
    · exact node_L_true q hi ht K x48 x49 x50 D m1 m2 m3 tR bl p1 mj mn w hK h48 h49 h50 hD hm1 hm2 hm3 htR hbl hp1 hmj hmn e49 eK e1 e2 e3 eT eb ex
    · replace ex : x50 = false := by simpa using ex
      by_cases ep : p1 = false
      · exact node_P_true q hi ht K x48 x49 x50 D m1 m2 m3 tR bl p1 mj mn w hK h48 h49 h50 hD hm1 hm2 hm3 htR hbl hp1 hmj hmn e49 eK e1 e2 e3 eT eb ex ep
      replace ep : p1 = true := by simpa using ep
      by_cases ej : mj = false
      · exact node_mj_true q hi ht K x48 x49 x50 D m1 m2 m3 tR bl p1 mj mn w hK h48 h49 h50 hD hm1 hm2 hm3 htR hbl hp1 hmj hmn e49 eK e1 e2 e3 eT eb ex ep ej
      replace ej : mj = true := by simpa using ej
      by_cases en : mn = false
      · exact node_mn_true q hi ht K x48 x49 x50 D m1 m2 m3 tR bl p1 mj mn w hK h48 h49 h50 hD hm1 hm2 hm3 htR hbl hp1 hmj hmn e49 eK e1 e2 e3 eT eb ex ep ej en
      replace en : mn = true := by simpa using en
      exact node_ok_true q hi ht K x48 x49 x50 D m1 m2 m3 tR bl p1 mj mn w hK h48 h49 h50 hD hm1 hm2 hm3 htR hbl hp1 hmj hmn e49 eK e1 e2 e3 eT eb ex ep ej en
  · replace eb : bl = false := by simpa using eb
    by_cases ex : x50 = true
    · by_cases ep : p1 = false
      · exact node_P_false q hi ht K x48 x49 x50 D m1 m2 m3 tR bl p1 mj mn w hK h48 h49 h50 hD hm1 hm2 hm3 htR hbl hp1 hmj hmn e49 eK e1 e2 e3 eT eb ex ep
      replace ep : p1 = true := by simpa using ep
      by_cases ej : mj = false
      · exact node_mj_false q hi ht K x48 x49 x50 D m1 m2 m3 tR bl p1 mj mn w hK h48 h49 h50 hD hm1 hm2 hm3 htR hbl hp1 hmj hmn e49 eK e1 e2 e3 eT eb ex ep ej
      replace ej : mj = true := by simpa using ej
      by_cases en : mn = false
      · exact node_mn_false q hi ht K x48 x49 x50 D m1 m2 m3 tR bl p1 mj mn w hK h48 h49 h50 hD hm1 hm2 hm3 htR hbl hp1 hmj hmn e49 eK e1 e2 e3 eT eb ex ep ej en
      replace en : mn = true := by simpa using en
      exact node_ok_false q hi ht K x48 x49 x50 D m1 m2 m3 tR bl p1 mj mn w hK h48 h49 h50 hD hm1 hm2 hm3 htR hbl hp1 hmj hmn e49 eK e1 e2 e3 eT eb ex ep ej en
    · replace ex : x50 = false := by simpa using ex
      exact node_L_false q hi ht K x48 x49 x50 D m1 m2 m3 tR bl p1 mj mn w hK h48 h49 h50 hD hm1 hm2 hm3 htR hbl hp1 hmj hmn e49 eK e1 e2 e3 eT eb ex
theorem rightNd_form (q : NodL) : rightNd q = (!(q.kind == 49) && (decide (48 ≤ (q.kind.toNat : Int) ∧ (q.kind.toNat : Int) ≤ 54) && (fitsI q.mode 4095 && (fitsI q.uid 1099511627775 && (fitsI q.gid 1099511627775 && (St.rightB q.sec q.nano && (((q.kind == 50) != decide (q.link = [])) && (txtOk q.link 120 && (fitsI q.major (2097151 * (if isDevB q.kind then 1 else 0)) && (fitsI q.minor (2097151 * (if isDevB q.kind then 1 else 0)) && decide ((q.data.length : Int) ≤ 4000 * (if (q.kind == 48) then 1 else 0)))))))))))) := by
  unfold rightNd rightE rightT rightN nodeE
  dsimp only
  rw [show (2097151 : Int) * (if isDevB q.kind = true then 1 else 0) = devMost q.kind by unfold devMost; cases isDevB q.kind <;> rfl]
  have hk : decide (q.kind = 49) = (q.kind == 49) := by by_cases h : q.kind = 49 <;> simp [h]
  rw [hk]
  have ht : txtOk [110, 97, 109, 101] 120 = true := by decide
  have ht2 : txtOk [] 32 = true := by decide
  have he : endsS [110, 97, 109, 101] = false := by decide
  rw [ht, ht2, he]
  cases h49 : (q.kind == 49) with
  | true => simp
  | false =>
    have hl : isLinkB q.kind = (q.kind == 50) := by unfold isLinkB; rw [h49, Bool.false_or]
    rw [hl]
    have hD : rightD ({ name := [110, 97, 109, 101], kind := q.kind, mode := q.mode, uid := q.uid, gid := q.gid, size := (q.data.length : Int), sec := q.sec, nano := q.nano, link := q.link, user := [], group := [], major := q.major, minor := q.minor, data := q.data, map := [] } : EntL) = (decide (48 ≤ (q.kind.toNat : Int) ∧ (q.kind.toNat : Int) ≤ 54) && decide ((q.data.length : Int) ≤ 4000 * (if (q.kind == 48) then 1 else 0))) := by
      have hne : q.kind ≠ 49 := by intro h; rw [h] at h49; simp at h49
      unfold rightD sparseE fitsI
      dsimp only
      by_cases h48 : q.kind = 48
      · rw [if_pos h48, h48]
        simp <;> omega
      · have h48' : (q.kind == 48) = false := by simpa using h48
        rw [if_neg h48, h48']
        by_cases hr : (49 : UInt8) ≤ q.kind ∧ q.kind ≤ 54
        · rw [if_pos hr]
          have h1 : (48 : Int) ≤ (q.kind.toNat : Int) ∧ (q.kind.toNat : Int) ≤ 54 := by
            have a := UInt8.le_iff_toNat_le.1 hr.1
            have b := UInt8.le_iff_toNat_le.1 hr.2
            simp at a b
            omega
          rw [decide_eq_true h1]
          simp <;> omega
        · rw [if_neg hr]
          have h1 : ¬ ((48 : Int) ≤ (q.kind.toNat : Int) ∧ (q.kind.toNat : Int) ≤ 54) := by
            rintro ⟨a, b⟩
            have hne' : q.kind.toNat ≠ 48 := fun h => h48 (UInt8.toNat_inj.1 (by rw [h]; rfl))
            apply hr
            constructor
            · rw [UInt8.le_iff_toNat_le]; simp; omega
            · rw [UInt8.le_iff_toNat_le]; simp; omega
          rw [decide_eq_false h1]
          rfl
    rw [hD, show (!decide (q.link = []) == (q.kind == 50)) = ((q.kind == 50) != decide (q.link = [])) by cases decide (q.link = []) <;> cases (q.kind == 50) <;> rfl]
    simp only [List.cons_ne_nil, decide_false, Bool.not_false, Bool.true_and, Bool.and_true, reduceCtorEq]
    ac_rfl
theorem nodeRight_any (q : NodL) (hi : intsN q) (ht : textsN q) (w : World) :
    Calls Try.prog 5 #[nodV q] w fun r w' => r = .returned (.bool (rightNd q)) ∧ Below w.heap.size w w' := by
  rw [rightNd_form]
  exact nodeRight_at q hi ht _ _ _ _ _ _ _ _ _ _ _ _ _ w rfl rfl rfl rfl rfl rfl rfl rfl rfl rfl rfl rfl rfl
end Go.Proofs.Ytnjcefmmdghbmaa
end
