/- A header's fields as a struct value of thirteen cells: opened, shut, sized; no run in it. -/
import Derived.Test.YtapfkjdkpcgoiaaDoorMk
import Derived.Deep.Fields
import Derived.SizedLaws
import Derived.WideShapes
import Derived.ChangeSame
import Derived.Laws.StructEq
namespace Go.Proofs.YtapfkjdkpcgoiaaDoor
open Go.RowKit Go.Joins Go.ChangeShapes Go.WideShapes Go.Deep
set_option linter.unusedVariables false

/-- A header's fields. -/
structure RawL where
  name : List UInt8
  link : List UInt8
  user : List UInt8
  group : List UInt8
  front : List UInt8
  kind : UInt8
  mode : Int
  uid : Int
  gid : Int
  size : Int
  time : Int
  major : Int
  minor : Int
  deriving DecidableEq

def i64 (n : Int) : Prop := -9223372036854775808 ≤ n ∧ n ≤ 9223372036854775807
def intsL (r : RawL) : Prop := i64 r.mode ∧ i64 r.uid ∧ i64 r.gid ∧ i64 r.size ∧ i64 r.time ∧ i64 r.major ∧ i64 r.minor
/-- Its texts reach no further than a machine. -/
def textsL (r : RawL) : Prop := r.name.length ≤ reachBytes ∧ r.link.length ≤ reachBytes ∧ r.user.length ≤ reachBytes ∧ r.group.length ≤ reachBytes ∧ r.front.length ≤ reachBytes
/-- as a value. -/
abbrev rawV (r : RawL) : Value := .agg #[.string (mkS r.name), .string (mkS r.link), .string (mkS r.user), .string (mkS r.group), .string (mkS r.front), .int .u8 (r.kind.toNat : Int), .int .i64 r.mode, .int .i64 r.uid, .int .i64 r.gid, .int .i64 r.size, .int .i64 r.time, .int .i64 r.major, .int .i64 r.minor]
/-- as data. -/
abbrev rawD {H : Type} (r : RawL) : DataW H := .agg [.lit (.string r.name), .lit (.string r.link), .lit (.string r.user), .lit (.string r.group), .lit (.string r.front), .lit (.int .u8 (r.kind.toNat : Int)), .lit (.int .i64 r.mode), .lit (.int .i64 r.uid), .lit (.int .i64 r.gid), .lit (.int .i64 r.size), .lit (.int .i64 r.time), .lit (.int .i64 r.major), .lit (.int .i64 r.minor)]

theorem list13 {α : Type} {l : List α} (h : l.length = 13) : ∃ c0 c1 c2 c3 c4 c5 c6 c7 c8 c9 c10 c11 c12, l = [c0, c1, c2, c3, c4, c5, c6, c7, c8, c9, c10, c11, c12] := by
  match l, h with
  | [c0, c1, c2, c3, c4, c5, c6, c7, c8, c9, c10, c11, c12], _ => exact ⟨c0, c1, c2, c3, c4, c5, c6, c7, c8, c9, c10, c11, c12, rfl⟩
theorem array13 {α : Type} {l : Array α} (h : l.size = 13) : ∃ c0 c1 c2 c3 c4 c5 c6 c7 c8 c9 c10 c11 c12, l = #[c0, c1, c2, c3, c4, c5, c6, c7, c8, c9, c10, c11, c12] := by
  obtain ⟨l⟩ := l
  obtain ⟨c0, c1, c2, c3, c4, c5, c6, c7, c8, c9, c10, c11, c12, rfl⟩ := list13 (show l.length = 13 from h)
  exact ⟨c0, c1, c2, c3, c4, c5, c6, c7, c8, c9, c10, c11, c12, rfl⟩

theorem u8_of {n : Int} (h : (Lit.int .u8 n).wf = true) : ∃ c : UInt8, n = (c.toNat : Int) := by
  have h2 : 0 ≤ n ∧ n ≤ 255 := by simpa [Lit.wf, IntKind.min, IntKind.max, IntKind.signed, IntKind.bits] using h
  exact ⟨UInt8.ofNat n.toNat, by rw [UInt8.toNat_ofNat']; omega⟩
theorem i64_of {n : Int} (h : (Lit.int .i64 n).wf = true) : i64 n := by
  unfold i64
  simpa [Lit.wf, IntKind.min, IntKind.max, IntKind.signed, IntKind.bits] using h
theorem wf_i64 {n : Int} (h : i64 n) : (Lit.int .i64 n).wf = true := by
  unfold i64 at h
  simpa [Lit.wf, IntKind.min, IntKind.max, IntKind.signed, IntKind.bits] using h
theorem wf_u8 (c : UInt8) : (Lit.int .u8 (c.toNat : Int)).wf = true := by
  have := c.toNat_lt
  simp [Lit.wf, IntKind.min, IntKind.max, IntKind.signed, IntKind.bits]
  omega
section
variable {H : Type} {enc : TypeId × Value → H} {P : Program} {w : World} {base : Nat} {spare : Nat → Bool} {held : Bool}
theorem open_raw {r : Reach} {b0 : Nat} {t : TypeId} {fs : Array Field} {v : Value} {d : DataW H} {p : List MemPlace} (hs : P.underlying t = some (.struct fs)) (hone : oneCellFields P fs = true) (hC : P.cellsOf t = 13)
    (hty : fs.toList.map (fun f => P.underlying f.type) = [some .string, some .string, some .string, some .string, some .string, some (.int .u8), some (.int .i64), some (.int .i64), some (.int .i64), some (.int .i64), some (.int .i64), some (.int .i64), some (.int .i64)])
    (hv : Value.okWide P w r b0 t v) (h : DataW.Trod enc P w base spare held t v d p) :
    ∃ q : RawL, v = rawV q ∧ d = rawD q ∧ p = [] ∧ intsL q := by
  obtain ⟨cs, rfl, hsz⟩ := okWide_struct hs hv
  obtain ⟨fuel, hf⟩ := h
  obtain ⟨xs, n, _, hx, _, hlen, hfld⟩ := DataW.trod_struct hs hf
  have hfl : fs.size = 13 := by have := congrArg List.length hty; simpa using this
  obtain ⟨f0, f1, f2, f3, f4, f5, f6, f7, f8, f9, f10, f11, f12, rfl⟩ := array13 hfl
  obtain ⟨c0, c1, c2, c3, c4, c5, c6, c7, c8, c9, c10, c11, c12, rfl⟩ := array13 (hsz.trans hC)
  obtain ⟨y0, y1, y2, y3, y4, y5, y6, y7, y8, y9, y10, y11, y12, rfl⟩ := list13 (hlen.trans hfl)
  simp only [List.map_cons, List.map_nil, List.cons.injEq, and_true] at hty
  obtain ⟨e0, e1, e2, e3, e4, e5, e6, e7, e8, e9, e10, e11, e12⟩ := hty
  have get : ∀ i f, #[f0, f1, f2, f3, f4, f5, f6, f7, f8, f9, f10, f11, f12][i]? = some f → DataW.trod enc P w base spare held n f.type (([c0, c1, c2, c3, c4, c5, c6, c7, c8, c9, c10, c11, c12].drop i).take 1) = [y0, y1, y2, y3, y4, y5, y6, y7, y8, y9, y10, y11, y12][i]? := by
    intro i f hi
    obtain ⟨o, k⟩ := hone_of hone i f hi
    have := hfld i f hi
    rw [o, k] at this
    exact this
  have z : (Value.agg #[c0, c1, c2, c3, c4, c5, c6, c7, c8, c9, c10, c11, c12]).cells.toList = [c0, c1, c2, c3, c4, c5, c6, c7, c8, c9, c10, c11, c12] := rfl
  obtain ⟨s0, g0, k0, m0⟩ := DataW.trod_string e0 (show DataW.trod enc P w base spare held n f0.type [c0] = some y0 from get 0 f0 rfl)
  obtain ⟨s1, g1, k1, m1⟩ := DataW.trod_string e1 (show DataW.trod enc P w base spare held n f1.type [c1] = some y1 from get 1 f1 rfl)
  obtain ⟨s2, g2, k2, m2⟩ := DataW.trod_string e2 (show DataW.trod enc P w base spare held n f2.type [c2] = some y2 from get 2 f2 rfl)
  obtain ⟨s3, g3, k3, m3⟩ := DataW.trod_string e3 (show DataW.trod enc P w base spare held n f3.type [c3] = some y3 from get 3 f3 rfl)
  obtain ⟨s4, g4, k4, m4⟩ := DataW.trod_string e4 (show DataW.trod enc P w base spare held n f4.type [c4] = some y4 from get 4 f4 rfl)
  obtain ⟨s5, g5, k5, m5⟩ := DataW.trod_int e5 (show DataW.trod enc P w base spare held n f5.type [c5] = some y5 from get 5 f5 rfl)
  obtain ⟨s6, g6, k6, m6⟩ := DataW.trod_int e6 (show DataW.trod enc P w base spare held n f6.type [c6] = some y6 from get 6 f6 rfl)
  obtain ⟨s7, g7, k7, m7⟩ := DataW.trod_int e7 (show DataW.trod enc P w base spare held n f7.type [c7] = some y7 from get 7 f7 rfl)
  obtain ⟨s8, g8, k8, m8⟩ := DataW.trod_int e8 (show DataW.trod enc P w base spare held n f8.type [c8] = some y8 from get 8 f8 rfl)
  obtain ⟨s9, g9, k9, m9⟩ := DataW.trod_int e9 (show DataW.trod enc P w base spare held n f9.type [c9] = some y9 from get 9 f9 rfl)
  obtain ⟨s10, g10, k10, m10⟩ := DataW.trod_int e10 (show DataW.trod enc P w base spare held n f10.type [c10] = some y10 from get 10 f10 rfl)
  obtain ⟨s11, g11, k11, m11⟩ := DataW.trod_int e11 (show DataW.trod enc P w base spare held n f11.type [c11] = some y11 from get 11 f11 rfl)
  obtain ⟨s12, g12, k12, m12⟩ := DataW.trod_int e12 (show DataW.trod enc P w base spare held n f12.type [c12] = some y12 from get 12 f12 rfl)
  simp only [List.cons.injEq, and_true] at g0 g1 g2 g3 g4 g5 g6 g7 g8 g9 g10 g11 g12
  subst g0 g1 g2 g3 g4 g5 g6 g7 g8 g9 g10 g11 g12
  subst k0 k1 k2 k3 k4 k5 k6 k7 k8 k9 k10 k11 k12
  obtain ⟨s5, rfl⟩ := u8_of m5
  simp only [Prod.mk.injEq] at hx
  obtain ⟨rfl, rfl⟩ := hx
  refine ⟨⟨s0.data.toList, s1.data.toList, s2.data.toList, s3.data.toList, s4.data.toList, s5, s6, s7, s8, s9, s10, s11, s12⟩, ?_, rfl, rfl, i64_of m6, i64_of m7, i64_of m8, i64_of m9, i64_of m10, i64_of m11, i64_of m12⟩
  simp only [rawV, mkS_self]
theorem shut_raw {t : TypeId} {fs : Array Field} {q : RawL} (hs : P.underlying t = some (.struct fs)) (hone : oneCellFields P fs = true) (hC : P.cellsOf t = 13)
    (hty : fs.toList.map (fun f => P.underlying f.type) = [some .string, some .string, some .string, some .string, some .string, some (.int .u8), some (.int .i64), some (.int .i64), some (.int .i64), some (.int .i64), some (.int .i64), some (.int .i64), some (.int .i64)]) (hi : intsL q) (hz : textsL q) :
    DataW.Trod enc P w base spare held t (rawV q) (rawD q) [] := by
  have hfl : fs.size = 13 := by have := congrArg List.length hty; simpa using this
  obtain ⟨f0, f1, f2, f3, f4, f5, f6, f7, f8, f9, f10, f11, f12, rfl⟩ := array13 hfl
  simp only [List.map_cons, List.map_nil, List.cons.injEq, and_true] at hty
  obtain ⟨e0, e1, e2, e3, e4, e5, e6, e7, e8, e9, e10, e11, e12⟩ := hty
  obtain ⟨i0, i1, i2, i3, i4, i5, i6⟩ := hi
  obtain ⟨z0, z1, z2, z3, z4⟩ := hz
  have hr : reachBytes ≤ maxLen := by decide
  obtain ⟨o0, k0⟩ := hone_of hone 0 f0 rfl
  obtain ⟨o1, k1⟩ := hone_of hone 1 f1 rfl
  obtain ⟨o2, k2⟩ := hone_of hone 2 f2 rfl
  obtain ⟨o3, k3⟩ := hone_of hone 3 f3 rfl
  obtain ⟨o4, k4⟩ := hone_of hone 4 f4 rfl
  obtain ⟨o5, k5⟩ := hone_of hone 5 f5 rfl
  obtain ⟨o6, k6⟩ := hone_of hone 6 f6 rfl
  obtain ⟨o7, k7⟩ := hone_of hone 7 f7 rfl
  obtain ⟨o8, k8⟩ := hone_of hone 8 f8 rfl
  obtain ⟨o9, k9⟩ := hone_of hone 9 f9 rfl
  obtain ⟨o10, k10⟩ := hone_of hone 10 f10 rfl
  obtain ⟨o11, k11⟩ := hone_of hone 11 f11 rfl
  obtain ⟨o12, k12⟩ := hone_of hone 12 f12 rfl
  have t0 : DataW.trod enc P w base spare held 1 f0.type [.string (mkS q.name)] = some (.lit (.string q.name), []) := by simp [DataW.trod, e0, mkS_list, mkS_size]; omega
  have t1 : DataW.trod enc P w base spare held 1 f1.type [.string (mkS q.link)] = some (.lit (.string q.link), []) := by simp [DataW.trod, e1, mkS_list, mkS_size]; omega
  have t2 : DataW.trod enc P w base spare held 1 f2.type [.string (mkS q.user)] = some (.lit (.string q.user), []) := by simp [DataW.trod, e2, mkS_list, mkS_size]; omega
  have t3 : DataW.trod enc P w base spare held 1 f3.type [.string (mkS q.group)] = some (.lit (.string q.group), []) := by simp [DataW.trod, e3, mkS_list, mkS_size]; omega
  have t4 : DataW.trod enc P w base spare held 1 f4.type [.string (mkS q.front)] = some (.lit (.string q.front), []) := by simp [DataW.trod, e4, mkS_list, mkS_size]; omega
  have t5 : DataW.trod enc P w base spare held 1 f5.type [.int .u8 (q.kind.toNat : Int)] = some (.lit (.int .u8 (q.kind.toNat : Int)), []) := by simp [DataW.trod, e5, wf_u8]
  have t6 : DataW.trod enc P w base spare held 1 f6.type [.int .i64 q.mode] = some (.lit (.int .i64 q.mode), []) := by simp [DataW.trod, e6, wf_i64 i0]
  have t7 : DataW.trod enc P w base spare held 1 f7.type [.int .i64 q.uid] = some (.lit (.int .i64 q.uid), []) := by simp [DataW.trod, e7, wf_i64 i1]
  have t8 : DataW.trod enc P w base spare held 1 f8.type [.int .i64 q.gid] = some (.lit (.int .i64 q.gid), []) := by simp [DataW.trod, e8, wf_i64 i2]
  have t9 : DataW.trod enc P w base spare held 1 f9.type [.int .i64 q.size] = some (.lit (.int .i64 q.size), []) := by simp [DataW.trod, e9, wf_i64 i3]
  have t10 : DataW.trod enc P w base spare held 1 f10.type [.int .i64 q.time] = some (.lit (.int .i64 q.time), []) := by simp [DataW.trod, e10, wf_i64 i4]
  have t11 : DataW.trod enc P w base spare held 1 f11.type [.int .i64 q.major] = some (.lit (.int .i64 q.major), []) := by simp [DataW.trod, e11, wf_i64 i5]
  have t12 : DataW.trod enc P w base spare held 1 f12.type [.int .i64 q.minor] = some (.lit (.int .i64 q.minor), []) := by simp [DataW.trod, e12, wf_i64 i6]
  have ts := trod_struct_mk (enc := enc) (w := w) (base := base) (spare := spare) (held := held) (n := 1) (cs := (rawV q).cells.toList) (xs := [(.lit (.string q.name), []), (.lit (.string q.link), []), (.lit (.string q.user), []), (.lit (.string q.group), []), (.lit (.string q.front), []), (.lit (.int .u8 (q.kind.toNat : Int)), []), (.lit (.int .i64 q.mode), []), (.lit (.int .i64 q.uid), []), (.lit (.int .i64 q.gid), []), (.lit (.int .i64 q.size), []), (.lit (.int .i64 q.time), []), (.lit (.int .i64 q.major), []), (.lit (.int .i64 q.minor), [])]) hs (by rw [hC]; rfl) ?_
  · exact ⟨2, ts⟩
  · show List.mapM _ [f0, f1, f2, f3, f4, f5, f6, f7, f8, f9, f10, f11, f12] = _
    simp only [List.mapM_cons, List.mapM_nil, o0, k0, o1, k1, o2, k2, o3, k3, o4, k4, o5, k5, o6, k6, o7, k7, o8, k8, o9, k9, o10, k10, o11, k11, o12, k12]
    rw [show ((rawV q).cells.toList.drop 0).take 1 = [.string (mkS q.name)] from rfl, t0]
    rw [show ((rawV q).cells.toList.drop 1).take 1 = [.string (mkS q.link)] from rfl, t1]
    rw [show ((rawV q).cells.toList.drop 2).take 1 = [.string (mkS q.user)] from rfl, t2]
    rw [show ((rawV q).cells.toList.drop 3).take 1 = [.string (mkS q.group)] from rfl, t3]
    rw [show ((rawV q).cells.toList.drop 4).take 1 = [.string (mkS q.front)] from rfl, t4]
    rw [show ((rawV q).cells.toList.drop 5).take 1 = [.int .u8 (q.kind.toNat : Int)] from rfl, t5]
    rw [show ((rawV q).cells.toList.drop 6).take 1 = [.int .i64 q.mode] from rfl, t6]
    rw [show ((rawV q).cells.toList.drop 7).take 1 = [.int .i64 q.uid] from rfl, t7]
    rw [show ((rawV q).cells.toList.drop 8).take 1 = [.int .i64 q.gid] from rfl, t8]
    rw [show ((rawV q).cells.toList.drop 9).take 1 = [.int .i64 q.size] from rfl, t9]
    rw [show ((rawV q).cells.toList.drop 10).take 1 = [.int .i64 q.time] from rfl, t10]
    rw [show ((rawV q).cells.toList.drop 11).take 1 = [.int .i64 q.major] from rfl, t11]
    rw [show ((rawV q).cells.toList.drop 12).take 1 = [.int .i64 q.minor] from rfl, t12]
    rfl
theorem sized_raw {ts : List TypeId} {ds : List (DataW H)} (h : (DataW.weightsEach P ts ds).all (· ≤ reachBytes) = true) {j : Nat} {t : TypeId} {fs : Array Field} {q : RawL} (ht : ts[j]? = some t) (hd : ds[j]? = some (rawD q)) (hu : P.underlying t = some (.struct fs)) (hfl : fs.size = 13) : textsL q := by
  obtain ⟨f0, f1, f2, f3, f4, f5, f6, f7, f8, f9, f10, f11, f12, rfl⟩ := array13 hfl
  have h0 := List.all_eq_true.1 h _ (DataW.weights_mem_each ht hd q.name.length (by simp [DataW.weights, DataW.weightsEach, hu]))
  have h1 := List.all_eq_true.1 h _ (DataW.weights_mem_each ht hd q.link.length (by simp [DataW.weights, DataW.weightsEach, hu]))
  have h2 := List.all_eq_true.1 h _ (DataW.weights_mem_each ht hd q.user.length (by simp [DataW.weights, DataW.weightsEach, hu]))
  have h3 := List.all_eq_true.1 h _ (DataW.weights_mem_each ht hd q.group.length (by simp [DataW.weights, DataW.weightsEach, hu]))
  have h4 := List.all_eq_true.1 h _ (DataW.weights_mem_each ht hd q.front.length (by simp [DataW.weights, DataW.weightsEach, hu]))
  exact ⟨by simpa using h0, by simpa using h1, by simpa using h2, by simpa using h3, by simpa using h4⟩
end
end Go.Proofs.YtapfkjdkpcgoiaaDoor
