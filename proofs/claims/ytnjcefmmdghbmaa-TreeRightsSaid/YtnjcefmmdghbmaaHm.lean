/- Hm: what the texts of the name hold, joined. -/
import Derived.Test.YtnjcefmmdghbmaaBa
import Derived.Test.YtnjcefmmdghbmaaOo
import Derived.Deep.Fields
import Derived.SizedLaws
import Derived.WideShapes
import Derived.ChangeSame
import Derived.Laws.StructEq
import Derived.Lib.QuietBelow
import Derived.BigQuiet
import Derived.Lib.Split
import Derived.Lib.Join
import Derived.Lib.MinMax
import Derived.Test.YtnjcefmmdghbmaaShelf
set_option linter.unusedSimpArgs false
set_option linter.unusedVariables false
section
/- A header's fields as a struct value of thirteen cells: opened, shut, sized; no run in it. -/
namespace Go.Proofs.Ytnjcefmmdghbmaa
open Go.RowKit Go.Joins Go.ChangeShapes Go.WideShapes Go.Deep
set_option linter.unusedVariables false

/-- A header's fields. -/
structure RawL where
  name : List UInt8
  link : List UInt8
  user : List UInt8
  group : List UInt8
  front : List UInt8
  kind : UInt8
  mode : Int
  uid : Int
  gid : Int
  size : Int
  time : Int
  major : Int
  minor : Int
  deriving DecidableEq

def i64 (n : Int) : Prop := -9223372036854775808 ≤ n ∧ n ≤ 9223372036854775807
def intsL (r : RawL) : Prop := i64 r.mode ∧ i64 r.uid ∧ i64 r.gid ∧ i64 r.size ∧ i64 r.time ∧ i64 r.major ∧ i64 r.minor
/-- Its texts reach no further than a machine. -/
def textsL (r : RawL) : Prop := r.name.length ≤ reachBytes ∧ r.link.length ≤ reachBytes ∧ r.user.length ≤ reachBytes ∧ r.group.length ≤ reachBytes ∧ r.front.length ≤ reachBytes
/-- as a value. -/
abbrev rawV (r : RawL) : Value := .agg #[.string (mkS r.name), .string (mkS r.link), .string (mkS r.user), .string (mkS r.group), .string (mkS r.front), .int .u8 (r.kind.toNat : Int), .int .i64 r.mode, .int .i64 r.uid, .int .i64 r.gid, .int .i64 r.size, .int .i64 r.time, .int .i64 r.major, .int .i64 r.minor]
/-- as data. -/
abbrev rawD {H : Type} (r : RawL) : DataW H := .agg [.lit (.string r.name), .lit (.string r.link), .lit (.string r.user), .lit (.string r.group), .lit (.string r.front), .lit (.int .u8 (r.kind.toNat : Int)), .lit (.int .i64 r.mode), .lit (.int .i64 r.uid), .lit (.int .i64 r.gid), .lit (.int .i64 r.size), .lit (.int .i64 r.time), .lit (.int .i64 r.major), .lit (.int .i64 r.minor)]

theorem list13 {α : Type} {l : List α} (h : l.length = 13) : ∃ c0 c1 c2 c3 c4 c5 c6 c7 c8 c9 c10 c11 c12, l = [c0, c1, c2, c3, c4, c5, c6, c7, c8, c9, c10, c11, c12] := by
  match l, h with
  | [c0, c1, c2, c3, c4, c5, c6, c7, c8, c9, c10, c11, c12], _ => exact ⟨c0, c1, c2, c3, c4, c5, c6, c7, c8, c9, c10, c11, c12, rfl⟩
theorem array13 {α : Type} {l : Array α} (h : l.size = 13) : ∃ c0 c1 c2 c3 c4 c5 c6 c7 c8 c9 c10 c11 c12, l = #[c0, c1, c2, c3, c4, c5, c6, c7, c8, c9, c10, c11, c12] := by
  obtain ⟨l⟩ := l
  obtain ⟨c0, c1, c2, c3, c4, c5, c6, c7, c8, c9, c10, c11, c12, rfl⟩ := list13 (show l.length = 13 from h)
  exact ⟨c0, c1, c2, c3, c4, c5, c6, c7, c8, c9, c10, c11, c12, rfl⟩

theorem u8_of {n : Int} (h : (Lit.int .u8 n).wf = true) : ∃ c : UInt8, n = (c.toNat : Int) := by
  have h2 : 0 ≤ n ∧ n ≤ 255 := by simpa [Lit.wf, IntKind.min, IntKind.max, IntKind.signed, IntKind.bits] using h
  exact ⟨UInt8.ofNat n.toNat, by rw [UInt8.toNat_ofNat']; omega⟩
theorem i64_of {n : Int} (h : (Lit.int .i64 n).wf = true) : i64 n := by
  unfold i64
  simpa [Lit.wf, IntKind.min, IntKind.max, IntKind.signed, IntKind.bits] using h
theorem wf_i64 {n : Int} (h : i64 n) : (Lit.int .i64 n).wf = true := by
  unfold i64 at h
  simpa [Lit.wf, IntKind.min, IntKind.max, IntKind.signed, IntKind.bits] using h
theorem wf_u8 (c : UInt8) : (Lit.int .u8 (c.toNat : Int)).wf = true := by
  have := c.toNat_lt
  simp [Lit.wf, IntKind.min, IntKind.max, IntKind.signed, IntKind.bits]
  omega
section
variable {H : Type} {enc : TypeId × Value → H} {P : Program} {w : World} {base : Nat} {spare : Nat → Bool} {held : Bool}
theorem open_raw {r : Reach} {b0 : Nat} {t : TypeId} {fs : Array Field} {v : Value} {d : DataW H} {p : List MemPlace} (hs : P.underlying t = some (.struct fs)) (hone : oneCellFields P fs = true) (hC : P.cellsOf t = 13)
    (hty : fs.toList.map (fun f => P.underlying f.type) = [some .string, some .string, some .string, some .string, some .string, some (.int .u8), some (.int .i64), some (.int .i64), some (.int .i64), some (.int .i64), some (.int .i64), some (.int .i64), some (.int .i64)])
    (hv : Value.okWide P w r b0 t v) (h : DataW.Trod enc P w base spare held t v d p) :
    ∃ q : RawL, v = rawV q ∧ d = rawD q ∧ p = [] ∧ intsL q := by
  obtain ⟨cs, rfl, hsz⟩ := okWide_struct hs hv
  obtain ⟨fuel, hf⟩ := h
  obtain ⟨xs, n, _, hx, _, hlen, hfld⟩ := DataW.trod_struct hs hf
  have hfl : fs.size = 13 := by have := congrArg List.length hty; simpa using this
  obtain ⟨f0, f1, f2, f3, f4, f5, f6, f7, f8, f9, f10, f11, f12, rfl⟩ := array13 hfl
  obtain ⟨c0, c1, c2, c3, c4, c5, c6, c7, c8, c9, c10, c11, c12, rfl⟩ := array13 (hsz.trans hC)
  obtain ⟨y0, y1, y2, y3, y4, y5, y6, y7, y8, y9, y10, y11, y12, rfl⟩ := list13 (hlen.trans hfl)
  simp only [List.map_cons, List.map_nil, List.cons.injEq, and_true] at hty
  obtain ⟨e0, e1, e2, e3, e4, e5, e6, e7, e8, e9, e10, e11, e12⟩ := hty
  have get : ∀ i f, #[f0, f1, f2, f3, f4, f5, f6, f7, f8, f9, f10, f11, f12][i]? = some f → DataW.trod enc P w base spare held n f.type (([c0, c1, c2, c3, c4, c5, c6, c7, c8, c9, c10, c11, c12].drop i).take 1) = [y0, y1, y2, y3, y4, y5, y6, y7, y8, y9, y10, y11, y12][i]? := by
    intro i f hi
    obtain ⟨o, k⟩ := hone_of hone i f hi
    have := hfld i f hi
    rw [o, k] at this
    exact this
  have z : (Value.agg #[c0, c1, c2, c3, c4, c5, c6, c7, c8, c9, c10, c11, c12]).cells.toList = [c0, c1, c2, c3, c4, c5, c6, c7, c8, c9, c10, c11, c12] := rfl
  obtain ⟨s0, g0, k0, m0⟩ := DataW.trod_string e0 (show DataW.trod enc P w base spare held n f0.type [c0] = some y0 from get 0 f0 rfl)
  obtain ⟨s1, g1, k1, m1⟩ := DataW.trod_string e1 (show DataW.trod enc P w base spare held n f1.type [c1] = some y1 from get 1 f1 rfl)
  obtain ⟨s2, g2, k2, m2⟩ := DataW.trod_string e2 (show DataW.trod enc P w base spare held n f2.type [c2] = some y2 from get 2 f2 rfl)
  obtain ⟨s3, g3, k3, m3⟩ := DataW.trod_string e3 (show DataW.trod enc P w base spare held n f3.type [c3] = some y3 from get 3 f3 rfl)
  obtain ⟨s4, g4, k4, m4⟩ := DataW.trod_string e4 (show DataW.trod enc P w base spare held n f4.type [c4] = some y4 from get 4 f4 rfl)
  obtain ⟨s5, g5, k5, m5⟩ := DataW.trod_int e5 (show DataW.trod enc P w base spare held n f5.type [c5] = some y5 from get 5 f5 rfl)
  obtain ⟨s6, g6, k6, m6⟩ := DataW.trod_int e6 (show DataW.trod enc P w base spare held n f6.type [c6] = some y6 from get 6 f6 rfl)
  obtain ⟨s7, g7, k7, m7⟩ := DataW.trod_int e7 (show DataW.trod enc P w base spare held n f7.type [c7] = some y7 from get 7 f7 rfl)
  obtain ⟨s8, g8, k8, m8⟩ := DataW.trod_int e8 (show DataW.trod enc P w base spare held n f8.type [c8] = some y8 from get 8 f8 rfl)
  obtain ⟨s9, g9, k9, m9⟩ := DataW.trod_int e9 (show DataW.trod enc P w base spare held n f9.type [c9] = some y9 from get 9 f9 rfl)
  obtain ⟨s10, g10, k10, m10⟩ := DataW.trod_int e10 (show DataW.trod enc P w base spare held n f10.type [c10] = some y10 from get 10 f10 rfl)
  obtain ⟨s11, g11, k11, m11⟩ := DataW.trod_int e11 (show DataW.trod enc P w base spare held n f11.type [c11] = some y11 from get 11 f11 rfl)
  obtain ⟨s12, g12, k12, m12⟩ := DataW.trod_int e12 (show DataW.trod enc P w base spare held n f12.type [c12] = some y12 from get 12 f12 rfl)
  simp only [List.cons.injEq, and_true] at g0 g1 g2 g3 g4 g5 g6 g7 g8 g9 g10 g11 g12
  subst g0 g1 g2 g3 g4 g5 g6 g7 g8 g9 g10 g11 g12
  subst k0 k1 k2 k3 k4 k5 k6 k7 k8 k9 k10 k11 k12
  obtain ⟨s5, rfl⟩ := u8_of m5
  simp only [Prod.mk.injEq] at hx
  obtain ⟨rfl, rfl⟩ := hx
  refine ⟨⟨s0.data.toList, s1.data.toList, s2.data.toList, s3.data.toList, s4.data.toList, s5, s6, s7, s8, s9, s10, s11, s12⟩, ?_, rfl, rfl, i64_of m6, i64_of m7, i64_of m8, i64_of m9, i64_of m10, i64_of m11, i64_of m12⟩
  simp only [rawV, mkS_self]
theorem shut_raw {t : TypeId} {fs : Array Field} {q : RawL} (hs : P.underlying t = some (.struct fs)) (hone : oneCellFields P fs = true) (hC : P.cellsOf t = 13)
    (hty : fs.toList.map (fun f => P.underlying f.type) = [some .string, some .string, some .string, some .string, some .string, some (.int .u8), some (.int .i64), some (.int .i64), some (.int .i64), some (.int .i64), some (.int .i64), some (.int .i64), some (.int .i64)]) (hi : intsL q) (hz : textsL q) :
    DataW.Trod enc P w base spare held t (rawV q) (rawD q) [] := by
  have hfl : fs.size = 13 := by have := congrArg List.length hty; simpa using this
  obtain ⟨f0, f1, f2, f3, f4, f5, f6, f7, f8, f9, f10, f11, f12, rfl⟩ := array13 hfl
  simp only [List.map_cons, List.map_nil, List.cons.injEq, and_true] at hty
  obtain ⟨e0, e1, e2, e3, e4, e5, e6, e7, e8, e9, e10, e11, e12⟩ := hty
  obtain ⟨i0, i1, i2, i3, i4, i5, i6⟩ := hi
  obtain ⟨z0, z1, z2, z3, z4⟩ := hz
  have hr : reachBytes ≤ maxLen := by decide
  obtain ⟨o0, k0⟩ := hone_of hone 0 f0 rfl
  obtain ⟨o1, k1⟩ := hone_of hone 1 f1 rfl
  obtain ⟨o2, k2⟩ := hone_of hone 2 f2 rfl
  obtain ⟨o3, k3⟩ := hone_of hone 3 f3 rfl
  obtain ⟨o4, k4⟩ := hone_of hone 4 f4 rfl
  obtain ⟨o5, k5⟩ := hone_of hone 5 f5 rfl
  obtain ⟨o6, k6⟩ := hone_of hone 6 f6 rfl
  obtain ⟨o7, k7⟩ := hone_of hone 7 f7 rfl
  obtain ⟨o8, k8⟩ := hone_of hone 8 f8 rfl
  obtain ⟨o9, k9⟩ := hone_of hone 9 f9 rfl
  obtain ⟨o10, k10⟩ := hone_of hone 10 f10 rfl
  obtain ⟨o11, k11⟩ := hone_of hone 11 f11 rfl
  obtain ⟨o12, k12⟩ := hone_of hone 12 f12 rfl
  have t0 : DataW.trod enc P w base spare held 1 f0.type [.string (mkS q.name)] = some (.lit (.string q.name), []) := by simp [DataW.trod, e0, mkS_list, mkS_size]; omega
  have t1 : DataW.trod enc P w base spare held 1 f1.type [.string (mkS q.link)] = some (.lit (.string q.link), []) := by simp [DataW.trod, e1, mkS_list, mkS_size]; omega
  have t2 : DataW.trod enc P w base spare held 1 f2.type [.string (mkS q.user)] = some (.lit (.string q.user), []) := by simp [DataW.trod, e2, mkS_list, mkS_size]; omega
  have t3 : DataW.trod enc P w base spare held 1 f3.type [.string (mkS q.group)] = some (.lit (.string q.group), []) := by simp [DataW.trod, e3, mkS_list, mkS_size]; omega
  have t4 : DataW.trod enc P w base spare held 1 f4.type [.string (mkS q.front)] = some (.lit (.string q.front), []) := by simp [DataW.trod, e4, mkS_list, mkS_size]; omega
  have t5 : DataW.trod enc P w base spare held 1 f5.type [.int .u8 (q.kind.toNat : Int)] = some (.lit (.int .u8 (q.kind.toNat : Int)), []) := by simp [DataW.trod, e5, wf_u8]
  have t6 : DataW.trod enc P w base spare held 1 f6.type [.int .i64 q.mode] = some (.lit (.int .i64 q.mode), []) := by simp [DataW.trod, e6, wf_i64 i0]
  have t7 : DataW.trod enc P w base spare held 1 f7.type [.int .i64 q.uid] = some (.lit (.int .i64 q.uid), []) := by simp [DataW.trod, e7, wf_i64 i1]
  have t8 : DataW.trod enc P w base spare held 1 f8.type [.int .i64 q.gid] = some (.lit (.int .i64 q.gid), []) := by simp [DataW.trod, e8, wf_i64 i2]
  have t9 : DataW.trod enc P w base spare held 1 f9.type [.int .i64 q.size] = some (.lit (.int .i64 q.size), []) := by simp [DataW.trod, e9, wf_i64 i3]
  have t10 : DataW.trod enc P w base spare held 1 f10.type [.int .i64 q.time] = some (.lit (.int .i64 q.time), []) := by simp [DataW.trod, e10, wf_i64 i4]
  have t11 : DataW.trod enc P w base spare held 1 f11.type [.int .i64 q.major] = some (.lit (.int .i64 q.major), []) := by simp [DataW.trod, e11, wf_i64 i5]
  have t12 : DataW.trod enc P w base spare held 1 f12.type [.int .i64 q.minor] = some (.lit (.int .i64 q.minor), []) := by simp [DataW.trod, e12, wf_i64 i6]
  have ts := trod_struct_mk (enc := enc) (w := w) (base := base) (spare := spare) (held := held) (n := 1) (cs := (rawV q).cells.toList) (xs := [(.lit (.string q.name), []), (.lit (.string q.link), []), (.lit (.string q.user), []), (.lit (.string q.group), []), (.lit (.string q.front), []), (.lit (.int .u8 (q.kind.toNat : Int)), []), (.lit (.int .i64 q.mode), []), (.lit (.int .i64 q.uid), []), (.lit (.int .i64 q.gid), []), (.lit (.int .i64 q.size), []), (.lit (.int .i64 q.time), []), (.lit (.int .i64 q.major), []), (.lit (.int .i64 q.minor), [])]) hs (by rw [hC]; rfl) ?_
  · exact ⟨2, ts⟩
  · show List.mapM _ [f0, f1, f2, f3, f4, f5, f6, f7, f8, f9, f10, f11, f12] = _
    simp only [List.mapM_cons, List.mapM_nil, o0, k0, o1, k1, o2, k2, o3, k3, o4, k4, o5, k5, o6, k6, o7, k7, o8, k8, o9, k9, o10, k10, o11, k11, o12, k12]
    rw [show ((rawV q).cells.toList.drop 0).take 1 = [.string (mkS q.name)] from rfl, t0]
    rw [show ((rawV q).cells.toList.drop 1).take 1 = [.string (mkS q.link)] from rfl, t1]
    rw [show ((rawV q).cells.toList.drop 2).take 1 = [.string (mkS q.user)] from rfl, t2]
    rw [show ((rawV q).cells.toList.drop 3).take 1 = [.string (mkS q.group)] from rfl, t3]
    rw [show ((rawV q).cells.toList.drop 4).take 1 = [.string (mkS q.front)] from rfl, t4]
    rw [show ((rawV q).cells.toList.drop 5).take 1 = [.int .u8 (q.kind.toNat : Int)] from rfl, t5]
    rw [show ((rawV q).cells.toList.drop 6).take 1 = [.int .i64 q.mode] from rfl, t6]
    rw [show ((rawV q).cells.toList.drop 7).take 1 = [.int .i64 q.uid] from rfl, t7]
    rw [show ((rawV q).cells.toList.drop 8).take 1 = [.int .i64 q.gid] from rfl, t8]
    rw [show ((rawV q).cells.toList.drop 9).take 1 = [.int .i64 q.size] from rfl, t9]
    rw [show ((rawV q).cells.toList.drop 10).take 1 = [.int .i64 q.time] from rfl, t10]
    rw [show ((rawV q).cells.toList.drop 11).take 1 = [.int .i64 q.major] from rfl, t11]
    rw [show ((rawV q).cells.toList.drop 12).take 1 = [.int .i64 q.minor] from rfl, t12]
    rfl
theorem sized_raw {ts : List TypeId} {ds : List (DataW H)} (h : (DataW.weightsEach P ts ds).all (· ≤ reachBytes) = true) {j : Nat} {t : TypeId} {fs : Array Field} {q : RawL} (ht : ts[j]? = some t) (hd : ds[j]? = some (rawD q)) (hu : P.underlying t = some (.struct fs)) (hfl : fs.size = 13) : textsL q := by
  obtain ⟨f0, f1, f2, f3, f4, f5, f6, f7, f8, f9, f10, f11, f12, rfl⟩ := array13 hfl
  have h0 := List.all_eq_true.1 h _ (DataW.weights_mem_each ht hd q.name.length (by simp [DataW.weights, DataW.weightsEach, hu]))
  have h1 := List.all_eq_true.1 h _ (DataW.weights_mem_each ht hd q.link.length (by simp [DataW.weights, DataW.weightsEach, hu]))
  have h2 := List.all_eq_true.1 h _ (DataW.weights_mem_each ht hd q.user.length (by simp [DataW.weights, DataW.weightsEach, hu]))
  have h3 := List.all_eq_true.1 h _ (DataW.weights_mem_each ht hd q.group.length (by simp [DataW.weights, DataW.weightsEach, hu]))
  have h4 := List.all_eq_true.1 h _ (DataW.weights_mem_each ht hd q.front.length (by simp [DataW.weights, DataW.weightsEach, hu]))
  exact ⟨by simpa using h0, by simpa using h1, by simpa using h2, by simpa using h3, by simpa using h4⟩
end
end Go.Proofs.Ytnjcefmmdghbmaa
end
section
/- Headers compared. -/
namespace Go.Proofs.Ytnjcefmmdghbmaa
open Go.RowKit Go.Joins
set_option linter.unusedVariables false
set_option linter.unusedSimpArgs false

theorem kind_beq (a b : UInt8) : ((a.toNat : Int) == (b.toNat : Int)) = decide (a = b) := by
  by_cases h : a = b
  · simp [h]
  · have : ¬ (a.toNat : Int) = b.toNat := fun k => h (UInt8.toNat_inj.1 (by omega))
    simp [h, this]
theorem text_beq (x y : List UInt8) : ((mkS x).toList == (mkS y).toList) = decide (x = y) := by
  rw [ByteArray.toList_eq, ByteArray.toList_eq, mkS_list, mkS_list]
  by_cases h : x = y <;> simp [h]

end Go.Proofs.Ytnjcefmmdghbmaa
end
section
/- A header's fields as the cells of a block. -/
namespace Go.Proofs.Ytnjcefmmdghbmaa
open Go.RowKit Go.Joins
set_option linter.unusedVariables false
set_option linter.unusedSimpArgs false

/-- a header's fields as the cells of a block. -/
def RawAt (w : World) (b : Nat) (r : RawL) : Prop := w.cell? ⟨b, 0, none⟩ = some (.string (mkS r.name)) ∧ w.cell? ⟨b, 1, none⟩ = some (.string (mkS r.link)) ∧ w.cell? ⟨b, 2, none⟩ = some (.string (mkS r.user)) ∧ w.cell? ⟨b, 3, none⟩ = some (.string (mkS r.group)) ∧ w.cell? ⟨b, 4, none⟩ = some (.string (mkS r.front)) ∧ w.cell? ⟨b, 5, none⟩ = some (.int .u8 (r.kind.toNat : Int)) ∧ w.cell? ⟨b, 6, none⟩ = some (.int .i64 r.mode) ∧ w.cell? ⟨b, 7, none⟩ = some (.int .i64 r.uid) ∧ w.cell? ⟨b, 8, none⟩ = some (.int .i64 r.gid) ∧ w.cell? ⟨b, 9, none⟩ = some (.int .i64 r.size) ∧ w.cell? ⟨b, 10, none⟩ = some (.int .i64 r.time) ∧ w.cell? ⟨b, 11, none⟩ = some (.int .i64 r.major) ∧ w.cell? ⟨b, 12, none⟩ = some (.int .i64 r.minor)
theorem RawAt.lt {w : World} {b : Nat} {r : RawL} (h : RawAt w b r) : b < w.heap.size := block_lt_of_cell h.1
theorem RawAt.below {w w' : World} {b B : Nat} {r : RawL} (h : RawAt w b r) (hb : Below B w w') (hB : b < B) : RawAt w' b r := by
  unfold RawAt at h ⊢
  simp only [hb.cell (p := ⟨b, _, none⟩) hB]
  exact h
theorem RawAt.of_row {w : World} {b : Nat} {r : RawL} {t : TypeId} {fr : Nat × Nat} (h : w.heap[b]? = some (.cells #[.string (mkS r.name), .string (mkS r.link), .string (mkS r.user), .string (mkS r.group), .string (mkS r.front), .int .u8 (r.kind.toNat : Int), .int .i64 r.mode, .int .i64 r.uid, .int .i64 r.gid, .int .i64 r.size, .int .i64 r.time, .int .i64 r.major, .int .i64 r.minor] t fr)) : RawAt w b r := by
  unfold RawAt
  refine ⟨?_, ?_, ?_, ?_, ?_, ?_, ?_, ?_, ?_, ?_, ?_, ?_, ?_⟩ <;> (simp only [World.cell?, h]; rfl)
theorem RawAt.new (w : World) (r : RawL) (t : TypeId) : RawAt (w.alloc (.cells #[.string (mkS r.name), .string (mkS r.link), .string (mkS r.user), .string (mkS r.group), .string (mkS r.front), .int .u8 (r.kind.toNat : Int), .int .i64 r.mode, .int .i64 r.uid, .int .i64 r.gid, .int .i64 r.size, .int .i64 r.time, .int .i64 r.major, .int .i64 r.minor] t)) w.heap.size r := RawAt.of_row (heap_alloc_new w _)
theorem RawAt.regrown {w : World} {b : Nat} {r : RawL} (h : RawAt w b r) (d : Nat) (os : Array Obj) : RawAt (Sort.grow (redrawn w d) os) b r := h.below (below_regrown w d os) h.lt
end Go.Proofs.Ytnjcefmmdghbmaa
end
section
/- Names as lists of bytes: their pieces, parts, what is clean, where they lie, how they are ordered. No run of the model in this text. -/
namespace Go.Proofs.Ytnjcefmmdghbmaa
set_option linter.unusedVariables false

/-- The texts between the slashes. -/
def piecesL : List UInt8 → List (List UInt8)
  | [] => [[]]
  | c :: r => if c = 47 then [] :: piecesL r else match piecesL r with
    | [] => [[c]]
    | p :: ps => (c :: p) :: ps
def dd : List UInt8 := [46, 46]
def okPart (p : List UInt8) : Bool := !(p == []) && !(p == [46])
/-- The parts: the texts between the slashes, without empty ones and a point. -/
def partsL (l : List UInt8) : List (List UInt8) := (piecesL l).filter okPart
def joinS (ps : List (List UInt8)) : List UInt8 := Lib.join ps [47]

theorem pieces_ne : ∀ l : List UInt8, piecesL l ≠ []
  | [] => by simp [piecesL]
  | c :: r => by
    unfold piecesL
    split
    · simp
    · split <;> simp
theorem pieces_slash (r : List UInt8) : piecesL (47 :: r) = [] :: piecesL r := by rw [piecesL, if_pos rfl]
theorem pieces_cons (c : UInt8) (r : List UInt8) (h : c ≠ 47) : ∃ p ps, piecesL r = p :: ps ∧ piecesL (c :: r) = (c :: p) :: ps := by
  cases e : piecesL r with
  | nil => exact absurd e (pieces_ne r)
  | cons p ps => exact ⟨p, ps, rfl, by rw [piecesL, if_neg h, e]⟩
theorem pieces_append : ∀ a b : List UInt8, piecesL (a ++ 47 :: b) = piecesL a ++ piecesL b
  | [], b => by rw [List.nil_append, pieces_slash]; rfl
  | c :: a, b => by
    by_cases h : c = 47
    · subst h
      rw [List.cons_append, pieces_slash, pieces_slash, pieces_append a b]; rfl
    · obtain ⟨p, ps, e1, e2⟩ := pieces_cons c a h
      obtain ⟨q, qs, f1, f2⟩ := pieces_cons c (a ++ 47 :: b) h
      rw [pieces_append a b, e1] at f1
      rw [List.cons_append, f2, e2]
      injection f1 with g1 g2
      rw [← g1, ← g2]; rfl
theorem pieces_free : ∀ (l : List UInt8), ∀ p ∈ piecesL l, (47 : UInt8) ∉ p
  | [], p, h => by
    rw [piecesL, List.mem_singleton] at h
    subst h; simp
  | c :: r, p, h => by
    by_cases hc : c = 47
    · subst hc
      rw [pieces_slash] at h
      rcases List.mem_cons.1 h with e | h
      · subst e; simp
      · exact pieces_free r p h
    · obtain ⟨q, qs, e1, e2⟩ := pieces_cons c r hc
      have ih := pieces_free r
      rw [e1] at ih
      rw [e2] at h
      rcases List.mem_cons.1 h with e | h
      · subst e
        intro hm
        rcases List.mem_cons.1 hm with e | hm
        · exact hc e.symm
        · exact ih q (List.mem_cons_self ..) hm
      · exact ih p (List.mem_cons_of_mem _ h)
theorem pieces_one : ∀ a : List UInt8, (47 : UInt8) ∉ a → piecesL a = [a]
  | [], _ => rfl
  | c :: a, h => by
    have h1 : c ≠ 47 := fun e => h (by rw [e]; exact List.mem_cons_self ..)
    obtain ⟨p, ps, e1, e2⟩ := pieces_cons c a h1
    rw [pieces_one a (fun hm => h (List.mem_cons_of_mem _ hm))] at e1
    injection e1 with g1 g2
    rw [e2, ← g1, ← g2]
theorem pieces_head (a b : List UInt8) (h : (47 : UInt8) ∉ a) : piecesL (a ++ 47 :: b) = a :: piecesL b := by
  rw [pieces_append, pieces_one a h]; rfl

theorem joinS_nil : joinS [] = [] := rfl
theorem joinS_one (x : List UInt8) : joinS [x] = x := Lib.join_one x [47]
theorem joinS_cons (x y : List UInt8) (r : List (List UInt8)) : joinS (x :: y :: r) = x ++ 47 :: joinS (y :: r) := by
  unfold joinS
  rw [Lib.join_cons, Lib.join_cons]
  simp [Lib.joinTail]
theorem joinS_append : ∀ (a b : List (List UInt8)), a ≠ [] → b ≠ [] → joinS (a ++ b) = joinS a ++ 47 :: joinS b
  | [], _, h, _ => absurd rfl h
  | [x], [], _, h => absurd rfl h
  | [x], y :: b, _, _ => by rw [joinS_one]; exact joinS_cons x y b
  | x :: y :: a, b, _, h => by
    have ih := joinS_append (y :: a) b (by simp) h
    rw [joinS_cons, List.cons_append, List.cons_append, joinS_cons, ← List.cons_append, ih]
    simp
theorem joinS_pieces : ∀ l : List UInt8, joinS (piecesL l) = l
  | [] => by rw [piecesL]; exact joinS_one _
  | c :: r => by
    have ih := joinS_pieces r
    by_cases h : c = 47
    · subst h
      rw [pieces_slash]
      cases e : piecesL r with
      | nil => exact absurd e (pieces_ne r)
      | cons p ps => rw [joinS_cons, ← e, ih]; rfl
    · obtain ⟨p, ps, e1, e2⟩ := pieces_cons c r h
      rw [e2]
      rw [e1] at ih
      cases ps with
      | nil => rw [joinS_one] at ih ⊢; rw [ih]
      | cons q qs => rw [joinS_cons] at ih ⊢; rw [← ih]; rfl
theorem pieces_join : ∀ ps : List (List UInt8), ps ≠ [] → (∀ p ∈ ps, (47 : UInt8) ∉ p) → piecesL (joinS ps) = ps
  | [], h, _ => absurd rfl h
  | [x], _, h => by rw [joinS_one]; exact pieces_one x (h x (List.mem_cons_self ..))
  | x :: y :: r, _, h => by
    rw [joinS_cons, pieces_head x _ (h x (List.mem_cons_self ..)), pieces_join (y :: r) (by simp) fun p hp => h p (List.mem_cons_of_mem _ hp)]
theorem pieces_length_le (l : List UInt8) : (piecesL l).length ≤ l.length + 1 := by
  induction l with
  | nil => simp [piecesL]
  | cons c r ih =>
    by_cases h : c = 47
    · subst h; rw [pieces_slash]; simp; exact ih
    · obtain ⟨p, ps, e1, e2⟩ := pieces_cons c r h
      rw [e2]; rw [e1] at ih; simp at ih ⊢; omega

theorem okPart_iff (p : List UInt8) : okPart p = true ↔ p ≠ [] ∧ p ≠ [46] := by
  unfold okPart
  simp
theorem parts_append (a b : List UInt8) : partsL (a ++ 47 :: b) = partsL a ++ partsL b := by
  unfold partsL
  rw [pieces_append, List.filter_append]
theorem parts_nil : partsL [] = [] := rfl
theorem parts_good (l : List UInt8) : ∀ p ∈ partsL l, okPart p = true ∧ (47 : UInt8) ∉ p := fun p hp =>
  ⟨(List.mem_filter.1 hp).2, pieces_free l p (List.mem_filter.1 hp).1⟩
theorem parts_join (ps : List (List UInt8)) (h : ∀ p ∈ ps, okPart p = true ∧ (47 : UInt8) ∉ p) : partsL (joinS ps) = ps := by
  by_cases e : ps = []
  · subst e; rfl
  · unfold partsL
    rw [pieces_join ps e fun p hp => (h p hp).2]
    exact List.filter_eq_self.2 fun p hp => (h p hp).1
theorem parts_length_le (l : List UInt8) : (partsL l).length ≤ l.length + 1 := Nat.le_trans (List.length_filter_le _ _) (pieces_length_le l)
theorem parts_slash (l : List UInt8) : partsL (47 :: l) = partsL l := by
  have := parts_append [] l
  rwa [List.nil_append, parts_nil, List.nil_append] at this

/-! ### Clean -/
abbrev St := List (List UInt8) × Bool
/-- What a part does to what is kept. -/
def stepC (s : St) (p : List UInt8) : St := if p = dd then (if s.1 = [] then ([], false) else (s.1.dropLast, s.2)) else (s.1 ++ [p], s.2)
def foldC (ps : List (List UInt8)) (s : St) : St := ps.foldl stepC s
def cleanL (l : List UInt8) : List UInt8 × Bool := (joinS (foldC (partsL l) ([], true)).1, (foldC (partsL l) ([], true)).2)

theorem stepC_part (s : St) (p : List UInt8) (h : p ≠ dd) : stepC s p = (s.1 ++ [p], s.2) := by unfold stepC; rw [if_neg h]
theorem stepC_up (s : St) (h : s.1 ≠ []) : stepC s dd = (s.1.dropLast, s.2) := by unfold stepC; rw [if_pos rfl, if_neg h]
theorem stepC_none (b : Bool) : stepC ([], b) dd = ([], false) := by unfold stepC; rw [if_pos rfl, if_pos rfl]
theorem foldC_append (a b : List (List UInt8)) (s : St) : foldC (a ++ b) s = foldC b (foldC a s) := List.foldl_append ..
theorem foldC_cons (p : List UInt8) (b : List (List UInt8)) (s : St) : foldC (p :: b) s = foldC b (stepC s p) := rfl
theorem foldC_snoc (a : List (List UInt8)) (p : List UInt8) (s : St) : foldC (a ++ [p]) s = stepC (foldC a s) p := by rw [foldC_append]; rfl
theorem foldC_plain : ∀ (ps : List (List UInt8)) (s : St), (∀ p ∈ ps, p ≠ dd) → foldC ps s = (s.1 ++ ps, s.2)
  | [], s, _ => by simp [foldC]
  | p :: ps, s, h => by
    rw [foldC_cons, stepC_part s p (h p (List.mem_cons_self ..)), foldC_plain ps _ fun q hq => h q (List.mem_cons_of_mem _ hq)]
    simp
/-- What is kept came, and is no '..'. -/
theorem foldC_mem : ∀ (ps : List (List UInt8)) (s : St), ∀ p ∈ (foldC ps s).1, p ∈ s.1 ∨ (p ∈ ps ∧ p ≠ dd)
  | [], s, p, h => .inl h
  | q :: ps, s, p, h => by
    rw [foldC_cons] at h
    rcases foldC_mem ps _ p h with h | ⟨h1, h2⟩
    · by_cases e : q = dd
      · subst e
        by_cases hs : s.1 = []
        · obtain ⟨k, b⟩ := s
          dsimp only at hs; subst hs
          rw [stepC_none] at h; cases h
        · rw [stepC_up s hs] at h
          exact .inl (List.dropLast_subset _ h)
      · rw [stepC_part s q e] at h
        rcases List.mem_append.1 h with h | h
        · exact .inl h
        · rw [List.mem_singleton] at h
          subst h
          exact .inr ⟨List.mem_cons_self .., e⟩
    · exact .inr ⟨List.mem_cons_of_mem _ h1, h2⟩
theorem foldC_length : ∀ (ps : List (List UInt8)) (s : St), (foldC ps s).1.length ≤ s.1.length + ps.length
  | [], s => by simp [foldC]
  | q :: ps, s => by
    rw [foldC_cons]
    have ih := foldC_length ps (stepC s q)
    have : (stepC s q).1.length ≤ s.1.length + 1 := by
      unfold stepC
      split
      · split
        · simp
        · simp; omega
      · simp
    simp only [List.length_cons]; omega
/-- The flag goes beside. -/
theorem foldC_flag : ∀ (ps : List (List UInt8)) (k : List (List UInt8)) (b : Bool), foldC ps (k, b) = ((foldC ps (k, true)).1, b && (foldC ps (k, true)).2)
  | [], k, b => by simp [foldC]
  | q :: ps, k, b => by
    rw [foldC_cons, foldC_cons]
    by_cases e : q = dd
    · subst e
      by_cases hk : k = []
      · subst hk
        rw [stepC_none, stepC_none, foldC_flag ps [] false]; simp
      · rw [stepC_up (k, b) hk, stepC_up (k, true) hk]
        exact foldC_flag ps _ b
    · rw [stepC_part _ q e, stepC_part _ q e]
      exact foldC_flag ps _ b
theorem kept_good (l : List UInt8) : ∀ p ∈ (foldC (partsL l) ([], true)).1, (okPart p = true ∧ (47 : UInt8) ∉ p) ∧ p ≠ dd := fun p hp => by
  rcases foldC_mem _ _ p hp with h | ⟨h1, h2⟩
  · cases h
  · exact ⟨parts_good l p h1, h2⟩
theorem clean_parts (l : List UInt8) : partsL (cleanL l).1 = (foldC (partsL l) ([], true)).1 := parts_join _ fun p hp => (kept_good l p hp).1
theorem clean_idem (l : List UInt8) : cleanL (cleanL l).1 = ((cleanL l).1, true) := by
  rw [cleanL, clean_parts, foldC_plain _ _ fun p hp => (kept_good l p hp).2]
  rfl
/-- What is the same to what is kept of the way there is the same to what is kept of the way on. -/
theorem clean_on (a b : List UInt8) : cleanL (a ++ 47 :: b) = ((cleanL ((cleanL a).1 ++ 47 :: b)).1, (cleanL a).2 && (cleanL ((cleanL a).1 ++ 47 :: b)).2) := by
  have h1 : foldC (partsL (a ++ 47 :: b)) ([], true) = foldC (partsL b) ((foldC (partsL a) ([], true)).1, (foldC (partsL a) ([], true)).2) := by rw [parts_append, foldC_append]
  have h2 : foldC (partsL ((cleanL a).1 ++ 47 :: b)) ([], true) = foldC (partsL b) ((foldC (partsL a) ([], true)).1, true) := by
    rw [parts_append, clean_parts, foldC_append, foldC_plain _ _ fun p hp => (kept_good a p hp).2]; rfl
  have h3 := foldC_flag (partsL b) (foldC (partsL a) ([], true)).1 (foldC (partsL a) ([], true)).2
  have e1 : cleanL (a ++ 47 :: b) = (joinS (foldC (partsL b) ((foldC (partsL a) ([], true)).1, true)).1, (foldC (partsL a) ([], true)).2 && (foldC (partsL b) ((foldC (partsL a) ([], true)).1, true)).2) := by
    rw [cleanL, h1, h3]
  have e2 : cleanL ((cleanL a).1 ++ 47 :: b) = (joinS (foldC (partsL b) ((foldC (partsL a) ([], true)).1, true)).1, (foldC (partsL b) ((foldC (partsL a) ([], true)).1, true)).2) := by
    rw [cleanL, h2]
  rw [e1, e2]
  rfl

/-! ### Right -/
def goodPiece (p : List UInt8) : Bool := !(p == []) && !(p == [46]) && !(p == [46, 46])
theorem goodPiece_iff (p : List UInt8) : goodPiece p = true ↔ okPart p = true ∧ p ≠ dd := by
  unfold goodPiece okPart dd
  simp
def rightB (l : List UInt8) : Bool := decide (l ≠ [] ∧ l.length ≤ 120 ∧ (0 : UInt8) ∉ l ∧ (piecesL l).all goodPiece = true ∧ (piecesL l).length ≤ 12)
theorem clean_self (l : List UInt8) (hl : l ≠ []) : cleanL l = (l, true) ↔ (piecesL l).all goodPiece = true := by
  constructor
  · intro h
    have e : joinS (foldC (partsL l) ([], true)).1 = l := congrArg Prod.fst h
    have hk : (foldC (partsL l) ([], true)).1 ≠ [] := fun e2 => hl (by rw [← e, e2]; rfl)
    have hp := pieces_join _ hk fun p hp => (kept_good l p hp).1.2
    rw [e] at hp
    rw [hp, List.all_eq_true]
    intro p hp2
    obtain ⟨⟨h1, _⟩, h2⟩ := kept_good l p hp2
    exact (goodPiece_iff p).2 ⟨h1, h2⟩
  · intro h
    rw [List.all_eq_true] at h
    have hp : partsL l = piecesL l := List.filter_eq_self.2 fun p hp => ((goodPiece_iff p).1 (h p hp)).1
    unfold cleanL
    rw [hp, foldC_plain _ _ fun p hp => ((goodPiece_iff p).1 (h p hp)).2]
    simp only [List.nil_append, joinS_pieces]
theorem right_iff (l : List UInt8) : rightB l = true ↔ l ≠ [] ∧ l.length ≤ 120 ∧ (0 : UInt8) ∉ l ∧ cleanL l = (l, true) ∧ (partsL l).length ≤ 12 := by
  unfold rightB
  rw [decide_eq_true_eq]
  constructor
  · rintro ⟨h1, h2, h3, h4, h5⟩
    refine ⟨h1, h2, h3, (clean_self l h1).2 h4, Nat.le_trans (List.length_filter_le _ _) h5⟩
  · rintro ⟨h1, h2, h3, h4, h5⟩
    have h6 := (clean_self l h1).1 h4
    refine ⟨h1, h2, h3, h6, ?_⟩
    rw [List.all_eq_true] at h6
    have hp : partsL l = piecesL l := List.filter_eq_self.2 fun p hp => ((goodPiece_iff p).1 (h6 p hp)).1
    rwa [hp] at h5
theorem right_facts (l : List UInt8) (h : rightB l = true) : l ≠ [] ∧ l.length ≤ 120 ∧ (0 : UInt8) ∉ l ∧ partsL l = piecesL l ∧ (∀ p ∈ partsL l, p ≠ dd) ∧ joinS (partsL l) = l ∧ partsL l ≠ [] ∧ (partsL l).length ≤ 12 := by
  unfold rightB at h
  rw [decide_eq_true_eq] at h
  obtain ⟨h1, h2, h3, h4, h5⟩ := h
  rw [List.all_eq_true] at h4
  have hp : partsL l = piecesL l := List.filter_eq_self.2 fun p hp => ((goodPiece_iff p).1 (h4 p hp)).1
  refine ⟨h1, h2, h3, hp, ?_, ?_, ?_, ?_⟩
  · rw [hp]; exact fun p hp => ((goodPiece_iff p).1 (h4 p hp)).2
  · rw [hp]; exact joinS_pieces l
  · rw [hp]; exact pieces_ne l
  · rw [hp]; exact h5
/-- A name of good parts. -/
theorem right_of_join (ps : List (List UInt8)) (h0 : ps ≠ []) (h : ∀ p ∈ ps, okPart p = true ∧ (47 : UInt8) ∉ p) (hd : ∀ p ∈ ps, p ≠ dd) (hz : (0 : UInt8) ∉ joinS ps) (hl : (joinS ps).length ≤ 120) (hn : ps.length ≤ 12) : rightB (joinS ps) = true := by
  unfold rightB
  rw [decide_eq_true_eq, pieces_join ps h0 fun p hp => (h p hp).2]
  refine ⟨fun e => ?_, hl, hz, List.all_eq_true.2 fun p hp => (goodPiece_iff p).2 ⟨(h p hp).1, hd p hp⟩, hn⟩
  have := pieces_join ps h0 fun p hp => (h p hp).2
  rw [e] at this
  have h1 := (h [] (by rw [← this]; simp [piecesL])).1
  simp [okPart] at h1

/-! ### Up -/
def upL (l : List UInt8) : List UInt8 × List UInt8 := (joinS (piecesL l).dropLast, (piecesL l).getLast (pieces_ne l))
theorem upL_slash (a b : List UInt8) (h : (47 : UInt8) ∉ b) : upL (a ++ 47 :: b) = (a, b) := by
  have e : piecesL (a ++ 47 :: b) = piecesL a ++ [b] := by rw [pieces_append, pieces_one b h]
  unfold upL
  simp only [e, List.dropLast_concat, joinS_pieces]
  rw [List.getLast_concat]
theorem upL_none (l : List UInt8) (h : (47 : UInt8) ∉ l) : upL l = ([], l) := by
  have e := pieces_one l h
  unfold upL
  simp only [e, List.dropLast_singleton, List.getLast_singleton, joinS_nil]

/-! ### In -/
def inB (n d : List UInt8) : Bool := decide (d = [] ∨ n = d ∨ d ++ [47] <+: n)
theorem in_ref (n d : List UInt8) : inB n d = decide (d = [] ∨ d ++ [47] <+: n ++ [47]) := by
  unfold inB
  congr 1
  refine propext ⟨?_, ?_⟩
  · rintro (h | h | h)
    · exact .inl h
    · exact .inr (by rw [h]; exact List.prefix_refl _)
    · exact .inr (h.trans (List.prefix_append _ _))
  · rintro (h | ⟨t, h⟩)
    · exact .inl h
    · right
      rcases List.eq_nil_or_concat t with e | ⟨t', c, e⟩
      · subst e
        rw [List.append_nil] at h
        exact .inl (List.append_inj_left' h rfl).symm
      · subst e
        rw [List.concat_eq_append, ← List.append_assoc] at h
        exact .inr ⟨t', List.append_inj_left' h rfl⟩
theorem in_trans (a b c : List UInt8) (h1 : inB a b = true) (h2 : inB b c = true) : inB a c = true := by
  unfold inB at *
  rw [decide_eq_true_eq] at *
  rcases h2 with h2 | h2 | h2
  · exact .inl h2
  · subst h2; exact h1
  · rcases h1 with h1 | h1 | h1
    · subst h1
      have := h2.length_le
      simp at this
    · subst h1; exact .inr (.inr h2)
    · exact .inr (.inr ((h2.trans (List.prefix_append b [47])).trans h1))
theorem in_antisymm (a b : List UInt8) (ha : a ≠ []) (hb : b ≠ []) (h1 : inB a b = true) (h2 : inB b a = true) : a = b := by
  unfold inB at *
  rw [decide_eq_true_eq] at *
  rcases h1 with h1 | h1 | h1
  · exact absurd h1 hb
  · exact h1
  · rcases h2 with h2 | h2 | h2
    · exact absurd h2 ha
    · exact h2.symm
    · have l1 := h1.length_le
      have l2 := h2.length_le
      simp at l1 l2
      omega
theorem in_parts (n d : List UInt8) (hn : rightB n = true) (hd : rightB d = true) : inB n d = true ↔ partsL d <+: partsL n := by
  obtain ⟨n1, _, _, n4, _, n6, n7, _⟩ := right_facts n hn
  obtain ⟨d1, _, _, d4, _, d6, d7, _⟩ := right_facts d hd
  unfold inB
  rw [decide_eq_true_eq]
  constructor
  · rintro (h | h | ⟨t, h⟩)
    · exact absurd h d1
    · subst h; exact List.prefix_refl _
    · rw [List.append_assoc] at h
      rw [← h]
      show partsL d <+: partsL (d ++ 47 :: t)
      rw [parts_append]
      exact List.prefix_append _ _
  · rintro ⟨t, h⟩
    right
    by_cases e : t = []
    · subst e
      rw [List.append_nil] at h
      left
      rw [← n6, ← d6, h]
    · right
      refine ⟨joinS t, ?_⟩
      rw [← n6, ← h, joinS_append _ _ d7 e, d6]
      simp

/-! ### Compare -/
theorem tlt_irrefl (a : List UInt8) : ¬ a < a := List.lt_irrefl a
theorem tlt_asymm {a b : List UInt8} (h : a < b) : ¬ b < a := List.lt_asymm h
theorem tlt_trans {a b c : List UInt8} (h : a < b) (h' : b < c) : a < c := List.lt_trans h h'
theorem tlt_tri {a b : List UInt8} (h1 : ¬ a < b) (h2 : ¬ b < a) : a = b := List.le_antisymm (List.not_lt.1 h2) (List.not_lt.1 h1)
def cmpL : List (List UInt8) → List (List UInt8) → Int
  | [], [] => 0
  | [], _ :: _ => -1
  | _ :: _, [] => 1
  | x :: a, y :: b => if x < y then -1 else if y < x then 1 else cmpL a b
theorem cmpL_eq (x : List UInt8) (a b : List (List UInt8)) : cmpL (x :: a) (x :: b) = cmpL a b := by
  rw [cmpL, if_neg (tlt_irrefl x), if_neg (tlt_irrefl x)]
theorem cmpL_three : ∀ a b, cmpL a b = -1 ∨ cmpL a b = 0 ∨ cmpL a b = 1
  | [], [] => .inr (.inl rfl)
  | [], _ :: _ => .inl rfl
  | _ :: _, [] => .inr (.inr rfl)
  | x :: a, y :: b => by
    rw [cmpL]
    split
    · exact .inl rfl
    · split
      · exact .inr (.inr rfl)
      · exact cmpL_three a b
theorem cmpL_neg : ∀ a b, cmpL b a = - cmpL a b
  | [], [] => rfl
  | [], _ :: _ => rfl
  | _ :: _, [] => rfl
  | x :: a, y :: b => by
    rw [cmpL, cmpL]
    by_cases h1 : x < y
    · rw [if_neg (tlt_asymm h1), if_pos h1, if_pos h1]; rfl
    · rw [if_neg h1]
      by_cases h2 : y < x
      · rw [if_pos h2, if_neg h1, if_pos h2]
      · rw [if_neg h2, if_neg h1, if_neg h2]; exact cmpL_neg a b
theorem cmpL_zero : ∀ a b, cmpL a b = 0 ↔ a = b
  | [], [] => by simp [cmpL]
  | [], _ :: _ => by simp [cmpL]
  | _ :: _, [] => by simp [cmpL]
  | x :: a, y :: b => by
    rw [cmpL]
    by_cases h1 : x < y
    · rw [if_pos h1]
      constructor
      · intro h; omega
      · intro h; injection h with h _; subst h; exact absurd h1 (tlt_irrefl x)
    · rw [if_neg h1]
      by_cases h2 : y < x
      · rw [if_pos h2]
        constructor
        · intro h; omega
        · intro h; injection h with h _; subst h; exact absurd h2 (tlt_irrefl x)
      · rw [if_neg h2, cmpL_zero a b, tlt_tri h1 h2]; simp
theorem cmpL_trans : ∀ a b c, cmpL a b < 0 → cmpL b c < 0 → cmpL a c < 0
  | [], [], _, h, _ => by simp [cmpL] at h
  | [], _ :: _, [], _, h => by simp [cmpL] at h
  | [], _ :: _, _ :: _, _, _ => by simp [cmpL]
  | _ :: _, [], _, h, _ => by simp [cmpL] at h
  | _ :: _, _ :: _, [], _, h => by simp [cmpL] at h
  | x :: a, y :: b, z :: c, h1, h2 => by
    by_cases g1 : x < y
    · by_cases g2 : y < z
      · rw [cmpL, if_pos (tlt_trans g1 g2)]; omega
      · by_cases g3 : z < y
        · rw [cmpL, if_neg g2, if_pos g3] at h2; omega
        · obtain rfl := tlt_tri g2 g3
          rw [cmpL, if_pos g1]; omega
    · by_cases g3 : y < x
      · rw [cmpL, if_neg g1, if_pos g3] at h1; omega
      · obtain rfl := tlt_tri g1 g3
        rw [cmpL_eq] at h1
        by_cases g2 : x < z
        · rw [cmpL, if_pos g2]; omega
        · by_cases g4 : z < x
          · rw [cmpL, if_neg g2, if_pos g4] at h2; omega
          · obtain rfl := tlt_tri g2 g4
            rw [cmpL_eq] at h2 ⊢
            exact cmpL_trans a b c h1 h2
theorem cmpL_head : ∀ a t, t ≠ [] → cmpL a (a ++ t) = -1
  | [], [], h => absurd rfl h
  | [], _ :: _, _ => rfl
  | x :: a, t, h => by rw [List.cons_append, cmpL_eq]; exact cmpL_head a t h
/-- What stands between a list and one that begins with it begins with it, too. -/
theorem cmpL_between : ∀ a b c, a <+: c → cmpL a b < 0 → cmpL b c < 0 → a <+: b
  | [], b, _, _, _, _ => List.nil_prefix
  | x :: a, [], _, _, h, _ => by simp [cmpL] at h
  | x :: a, y :: b, [], hp, _, _ => by have := hp.length_le; simp at this
  | x :: a, y :: b, z :: c, hp, h1, h2 => by
    obtain ⟨rfl, hp2⟩ := List.cons_prefix_cons.1 hp
    by_cases g1 : x < y
    · rw [cmpL, if_neg (tlt_asymm g1), if_pos g1] at h2; omega
    · by_cases g2 : y < x
      · rw [cmpL, if_neg g1, if_pos g2] at h1; omega
      · obtain rfl := tlt_tri g1 g2
        rw [cmpL_eq] at h1 h2
        exact List.cons_prefix_cons.2 ⟨rfl, cmpL_between a b c hp2 h1 h2⟩

/-! ### To, Away -/
def toL (n k : List UInt8) : List UInt8 × Bool := if k.head? = some 47 then cleanL k else cleanL ((upL n).1 ++ 47 :: k)
/-- How many of the first m parts are the same. -/
def commL : Nat → List (List UInt8) → List (List UInt8) → Nat
  | m + 1, x :: a, y :: b => if x = y then commL m a b + 1 else 0
  | _, _, _ => 0
def upsL (k : Nat) : List UInt8 := (List.replicate k ([46, 46, 47] : List UInt8)).flatten
def awayP (x y : List (List UInt8)) : List UInt8 := upsL (x.length - 1 - commL (min x.length y.length - 1) x y) ++ joinS (y.drop (commL (min x.length y.length - 1) x y))
def awayL (a b : List UInt8) : List UInt8 := awayP (partsL a) (partsL b)

theorem commL_le : ∀ m x y, commL m x y ≤ m
  | 0, _, _ => by simp [commL]
  | m + 1, [], _ => by simp [commL]
  | m + 1, _ :: _, [] => by simp [commL]
  | m + 1, x :: a, y :: b => by
    rw [commL]
    split
    · have := commL_le m a b; omega
    · omega
theorem commL_take : ∀ (m : Nat) (x y : List (List UInt8)), x.take (commL m x y) = y.take (commL m x y)
  | 0, _, _ => by simp [commL]
  | m + 1, [], _ => by simp [commL]
  | m + 1, _ :: _, [] => by simp [commL]
  | m + 1, x :: a, y :: b => by
    rw [commL]
    split
    · rename_i e
      rw [List.take_succ_cons, List.take_succ_cons, e, commL_take m a b]
    · rfl
theorem commL_more : ∀ (m k : Nat) (x y : List (List UInt8)), k ≤ commL m x y → k < m → k < x.length → k < y.length → (k < commL m x y ↔ x[k]? = y[k]?)
  | 0, k, _, _, _, h, _, _ => by omega
  | m + 1, k, [], _, _, _, h, _ => by simp at h
  | m + 1, k, _ :: _, [], _, _, _, h => by simp at h
  | m + 1, 0, x :: a, y :: b, h, _, _, _ => by
    rw [commL]
    by_cases e : x = y
    · rw [if_pos e]; simp [e]
    · rw [if_neg e]; simp [e]
  | m + 1, k + 1, x :: a, y :: b, h, h1, h2, h3 => by
    rw [commL] at h ⊢
    by_cases e : x = y
    · rw [if_pos e] at h ⊢
      have := commL_more m k a b (by omega) (by omega) (by simp at h2; omega) (by simp at h3; omega)
      simp only [List.getElem?_cons_succ]
      rw [← this]
      omega
    · rw [if_neg e] at h; omega
theorem upsL_succ (k : Nat) : upsL (k + 1) = [46, 46, 47] ++ upsL k := by unfold upsL; rw [List.replicate_succ, List.flatten_cons]
theorem upsL_snoc (k : Nat) : upsL (k + 1) = upsL k ++ [46, 46, 47] := by unfold upsL; rw [List.replicate_succ', List.flatten_append]; simp
theorem upsL_length (k : Nat) : (upsL k).length = 3 * k := by
  induction k with
  | zero => rfl
  | succ k ih => rw [upsL_succ, List.length_append, ih]; simp; omega
theorem parts_ups (t : List UInt8) : ∀ k, partsL (upsL k ++ t) = List.replicate k dd ++ partsL t
  | 0 => by simp [upsL]
  | k + 1 => by
    have e : upsL (k + 1) ++ t = [46, 46] ++ 47 :: (upsL k ++ t) := by rw [upsL_succ]; simp
    rw [e, parts_append, parts_ups t k, List.replicate_succ]
    rfl
theorem foldC_ups : ∀ (k : Nat) (s : List (List UInt8)) (b : Bool), k ≤ s.length → foldC (List.replicate k dd) (s, b) = (s.take (s.length - k), b)
  | 0, s, b, _ => by simp [foldC]
  | k + 1, s, b, h => by
    rw [List.replicate_succ, foldC_cons, stepC_up (s, b) (fun e => by rw [show s = [] from e] at h; simp at h), foldC_ups k _ _ (by simp; omega)]
    simp only [List.length_dropLast]
    rw [List.dropLast_eq_take, List.take_take]
    congr 2
    omega
theorem foldC_plain' (ps s : List (List UInt8)) (b : Bool) (h : ∀ p ∈ ps, p ≠ dd) : foldC ps (s, b) = (s ++ ps, b) := foldC_plain ps (s, b) h
theorem up_parts (a : List UInt8) (ha : rightB a = true) : partsL (upL a).1 = (partsL a).dropLast := by
  obtain ⟨_, _, _, a4, _⟩ := right_facts a ha
  unfold upL
  dsimp only
  rw [← a4]
  exact parts_join _ fun p hp => parts_good a p (List.dropLast_subset _ hp)
theorem joinS_head (x : List UInt8) (r : List (List UInt8)) (hx : okPart x = true ∧ (47 : UInt8) ∉ x) : (joinS (x :: r)).head? ≠ some 47 := by
  have h1 := (okPart_iff x).1 hx.1
  cases x with
  | nil => exact absurd rfl h1.1
  | cons c x =>
    have hc : c ≠ 47 := fun e => hx.2 (by rw [e]; exact List.mem_cons_self ..)
    cases r with
    | nil => rw [joinS_one]; simpa using hc
    | cons y r => rw [joinS_cons]; simpa using hc
/-- There and there. -/
theorem to_away (a b : List UInt8) (ha : rightB a = true) (hb : rightB b = true) : toL a (awayL a b) = (b, true) := by
  obtain ⟨_, _, _, a4, a5, a6, a7, _⟩ := right_facts a ha
  obtain ⟨_, _, _, b4, b5, b6, b7, _⟩ := right_facts b hb
  have hla : 1 ≤ (partsL a).length := List.length_pos_iff.2 a7
  have hlb : 1 ≤ (partsL b).length := List.length_pos_iff.2 b7
  have hup := up_parts a ha
  have hgb := parts_good b
  unfold awayL
  generalize partsL a = x at *
  generalize hy : partsL b = y at *
  have hk := commL_le (min x.length y.length - 1) x y
  have ht := commL_take (min x.length y.length - 1) x y
  unfold awayP
  generalize commL (min x.length y.length - 1) x y = k at *
  have hkx : k ≤ x.length - 1 := by omega
  have hky : k < y.length := by omega
  have hd : y.drop k ≠ [] := fun e => by have := congrArg List.length e; simp at this; omega
  have hh : (upsL (x.length - 1 - k) ++ joinS (y.drop k)).head? ≠ some 47 := by
    cases hu : x.length - 1 - k with
    | zero =>
      cases hyd : y.drop k with
      | nil => exact absurd hyd hd
      | cons z r =>
        show (joinS (z :: r)).head? ≠ some 47
        exact joinS_head z r (hgb z (List.mem_of_mem_drop (by rw [hyd]; exact List.mem_cons_self ..)))
    | succ u => rw [upsL_succ]; simp
  unfold toL
  rw [if_neg hh]
  have hp : partsL ((upL a).1 ++ 47 :: (upsL (x.length - 1 - k) ++ joinS (y.drop k))) = x.dropLast ++ (List.replicate (x.length - 1 - k) dd ++ y.drop k) := by
    rw [parts_append, hup, parts_ups, parts_join _ fun p hp => hgb p (List.mem_of_mem_drop hp)]
  unfold cleanL
  rw [hp, foldC_append, foldC_append, foldC_plain' x.dropLast [] true fun p hp => a5 p (List.dropLast_subset _ hp), List.nil_append,
    foldC_ups _ _ _ (by simp), foldC_plain' _ _ _ fun p hp => b5 p (List.mem_of_mem_drop hp)]
  have e : x.dropLast.take (x.dropLast.length - (x.length - 1 - k)) = y.take k := by
    rw [← ht, List.length_dropLast, List.dropLast_eq_take, List.take_take]
    congr 1
    omega
  dsimp only
  rw [e, List.take_append_drop, b6]
theorem to_abs (a b : List UInt8) (hb : rightB b = true) : toL a (47 :: b) = (b, true) := by
  obtain ⟨h1, h2, h3, h4, h5⟩ := (right_iff b).1 hb
  unfold toL
  rw [if_pos (by simp)]
  unfold cleanL at h4 ⊢
  rw [parts_slash]
  exact h4
/-- What the reference does: heads that are the same go. -/
def stripL : List (List UInt8) → List (List UInt8) → List (List UInt8) × List (List UInt8)
  | x :: x' :: a, y :: y' :: b => if x = y then stripL (x' :: a) (y' :: b) else (x :: x' :: a, y :: y' :: b)
  | a, b => (a, b)
theorem strip_away : ∀ (x y : List (List UInt8)), stripL x y = (x.drop (commL (min x.length y.length - 1) x y), y.drop (commL (min x.length y.length - 1) x y))
  | [], y => by simp [stripL, commL]
  | [x], y => by
    have : min [x].length y.length - 1 = 0 := by simp only [List.length_cons, List.length_nil]; omega
    rw [this]; simp [stripL, commL]
  | x :: x' :: a, [] => by simp [stripL, commL]
  | x :: x' :: a, [y] => by
    have : min (x :: x' :: a).length [y].length - 1 = 0 := by simp only [List.length_cons, List.length_nil]; omega
    rw [this]; simp [stripL, commL]
  | x :: x' :: a, y :: y' :: b => by
    have ih := strip_away (x' :: a) (y' :: b)
    rw [stripL]
    have e : min (x :: x' :: a).length (y :: y' :: b).length - 1 = (min (x' :: a).length (y' :: b).length - 1) + 1 := by simp only [List.length_cons]; omega
    rw [e, commL]
    by_cases h : x = y
    · rw [if_pos h, if_pos h, ih]; simp
    · rw [if_neg h, if_neg h]; simp
theorem strip_away2 (x y : List (List UInt8)) : awayP x y = upsL ((stripL x y).1.length - 1) ++ joinS (stripL x y).2 := by
  rw [strip_away]
  unfold awayP
  dsimp only
  rw [List.length_drop]
  congr 2
  omega

/-! ### Split -/
def halfAt (l : List UInt8) (i : Nat) : Prop := 1 ≤ i ∧ i ≤ 155 ∧ l[i]? = some 47 ∧ 1 ≤ l.length - (i + 1) ∧ l.length - (i + 1) ≤ 100
/-- What Split answers. -/
def HalfIs (l a b : List UInt8) (ok : Bool) : Prop :=
  (l.length ≤ 100 ∧ a = [] ∧ b = l ∧ ok = true) ∨
  (100 < l.length ∧ ((∃ i, halfAt l i ∧ (∀ j, j < i → ¬ halfAt l j) ∧ a = l.take i ∧ b = l.drop (i + 1) ∧ ok = true) ∨ ((∀ i, ¬ halfAt l i) ∧ a = [] ∧ b = [] ∧ ok = false)))
theorem HalfIs.unique {l a b a' b' : List UInt8} {k k' : Bool} (h : HalfIs l a b k) (h' : HalfIs l a' b' k') : a = a' ∧ b = b' ∧ k = k' := by
  rcases h with ⟨h0, rfl, rfl, rfl⟩ | ⟨h0, h⟩
  · rcases h' with ⟨_, rfl, rfl, rfl⟩ | ⟨h1, _⟩
    · exact ⟨rfl, rfl, rfl⟩
    · omega
  · rcases h' with ⟨h1, _⟩ | ⟨_, h'⟩
    · omega
    · rcases h with ⟨i, hi, hl, rfl, rfl, rfl⟩ | ⟨hn, rfl, rfl, rfl⟩
      · rcases h' with ⟨j, hj, hl', rfl, rfl, rfl⟩ | ⟨hn', _⟩
        · obtain rfl : i = j := by
            by_cases h1 : i < j
            · exact absurd hi (hl' i h1)
            · by_cases h2 : j < i
              · exact absurd hj (hl j h2)
              · omega
          exact ⟨rfl, rfl, rfl⟩
        · exact absurd hi (hn' i)
      · rcases h' with ⟨j, hj, _⟩ | ⟨_, rfl, rfl, rfl⟩
        · exact absurd hj (hn j)
        · exact ⟨rfl, rfl, rfl⟩
theorem take_slash (l : List UInt8) (i : Nat) (h : l[i]? = some 47) : l.take i ++ 47 :: l.drop (i + 1) = l := by
  obtain ⟨h1, h2⟩ := List.getElem?_eq_some_iff.1 h
  have e : l.drop i = 47 :: l.drop (i + 1) := by rw [List.drop_eq_getElem_cons h1, h2]
  have := List.take_append_drop i l
  rwa [e] at this

/-! ### What lies in what -/
theorem up_facts (a : List UInt8) (ha : rightB a = true) :
    (upL a).1 ++ 47 :: (upL a).2 = a ∧ (upL a).1 ≠ [] ∧ rightB (upL a).1 = true ∨ (upL a).1 = [] ∧ (upL a).2 = a ∧ (partsL a).length = 1 := by
  obtain ⟨a1, a2, a3, a4, a5, a6, a7, a8⟩ := right_facts a ha
  have hg := parts_good a
  by_cases h : (partsL a).dropLast = []
  · right
    have hl : (partsL a).length = 1 := by
      have := congrArg List.length h
      simp at this
      have := List.length_pos_iff.2 a7
      omega
    obtain ⟨p, hp⟩ := List.length_eq_one_iff.1 hl
    unfold upL
    simp only [← a4]
    rw [h]
    refine ⟨rfl, ?_, hl⟩
    have e : joinS (partsL a) = a := a6
    simp only [hp] at e ⊢
    rw [joinS_one] at e
    exact e
  · left
    have e1 : joinS (partsL a).dropLast ++ 47 :: (partsL a).getLast a7 = a := by
      have h1 := joinS_append (partsL a).dropLast [(partsL a).getLast a7] h (by simp)
      rw [List.dropLast_concat_getLast, a6, joinS_one] at h1
      exact h1.symm
    have hu : upL a = (joinS (partsL a).dropLast, (partsL a).getLast a7) := by
      unfold upL
      simp only [← a4]
    rw [hu]
    dsimp only
    have hr : rightB (joinS (partsL a).dropLast) = true := by
      refine right_of_join _ h (fun p hp => hg p (List.dropLast_subset _ hp)) (fun p hp => a5 p (List.dropLast_subset _ hp)) (fun hz => a3 ?_) ?_ (by simp; omega)
      · rw [← e1]; exact List.mem_append_left _ hz
      · have := congrArg List.length e1
        simp at this
        omega
    exact ⟨e1, (right_facts _ hr).1, hr⟩
end Go.Proofs.Ytnjcefmmdghbmaa
end
section
/- path.Split: a name in two. -/
namespace Go.Proofs.Ytnjcefmmdghbmaa
open Go.RowKit Go.Joins
set_option linter.unusedVariables false

def HalfPost (l : List UInt8) (w : World) (e : Ending) (w' : World) : Prop :=
  ∃ a b k, HalfIs l a b k ∧ e = .returned (.tuple #[.string (mkS a), .string (mkS b), .bool k]) ∧ (w' = w ∨ w' = w.drew)
theorem half_ret {l : List UInt8} {w w' : World} {x y : ByteArray} {k : Bool} (a b : List UInt8) (h : HalfIs l a b k) (hx : x = mkS a) (hy : y = mkS b) (hw : (w' = w ∨ w' = w.drew)) :
    HalfPost l w (.returned (.tuple #[.string x, .string y, .bool k])) w' := ⟨a, b, k, h, by rw [hx, hy], hw⟩
theorem ext_onward (l : List UInt8) (j : Nat) : (mkS l).extract j l.length = mkS (l.drop j) := by
  rw [← mkS_self ((mkS l).extract j l.length), Lib.extract_data, mkS_list]
  rw [List.take_of_length_le (by simp)]

end Go.Proofs.Ytnjcefmmdghbmaa
end
section
/- The reference's Split; the law PathHalves' walk. -/
namespace Go.Proofs.Ytnjcefmmdghbmaa
open Go.RowKit Go.Joins
set_option linter.unusedVariables false

theorem within_any (n a b : Int) (w : World) : Calls Try.prog 7 #[.int .i64 n, .int .i64 a, .int .i64 b] w fun e w' => e = .returned (.bool (decide (a ≤ n ∧ n ≤ b))) ∧ w = w' := by
  by_cases h1 : a ≤ n <;> by_cases h2 : n ≤ b
  all_goals
    go_enter Try.func7, Try.ntmps7
    go_wp2
    go_ret
    exact ⟨by simp [h1, h2], rfl⟩

end Go.Proofs.Ytnjcefmmdghbmaa
end
section
/- Headers, as lists of bytes: written, and read again; no run in it. -/
namespace Go.Proofs.Ytnjcefmmdghbmaa
set_option linter.unusedVariables false

/-! ### Fields -/
def txtOk (s : List UInt8) (n : Nat) : Bool := decide (s.length ≤ n) && !(s.any (· == 0))
def txtG (s : List UInt8) (n : Nat) : List UInt8 := if txtOk s n then s ++ List.replicate (n - s.length) 0 else []
def octOk (n : Int) (W : Nat) : Bool := decide (0 ≤ n) && decide (n < 8 ^ (W - 1))
def binOk (n : Int) (W : Nat) (b : Bool) : Bool := b && (decide (8 ≤ W) && (decide (W ≠ 8) || (decide (-36028797018963968 ≤ n) && decide (n ≤ 36028797018963967))))
def numOk (n : Int) (W : Nat) (b : Bool) : Bool := octOk n W || binOk n W b
def numG (n : Int) (W : Nat) (b : Bool) : List UInt8 := if octOk n W then (octNums n W).map u8 else if binOk n W b then (binNums n W).map u8 else []
/-- A number that V7 does not write. -/
def devG (d : Nat) (n : Int) : List UInt8 := if d = 1 then List.replicate 8 0 else numG n 8 (d == 3)
def magicL (d : Nat) : List UInt8 := if d = 2 ∨ d = 4 then [117, 115, 116, 97, 114, 0, 48, 48] else if d = 3 then [117, 115, 116, 97, 114, 32, 32, 0] else List.replicate 8 0
theorem txtOk_iff {s : List UInt8} {n : Nat} : txtOk s n = true ↔ s.length ≤ n ∧ ∀ c ∈ s, c ≠ 0 := by
  unfold txtOk
  rw [Bool.and_eq_true, decide_eq_true_iff, Bool.not_eq_true', List.any_eq_false]
  simp
theorem txtG_length {s : List UInt8} {n : Nat} (h : txtOk s n = true) : (txtG s n).length = n := by
  unfold txtG
  rw [if_pos h, List.length_append, List.length_replicate]
  have := (txtOk_iff.1 h).1
  omega
theorem numG_length {n : Int} {W : Nat} {b : Bool} (hW : 1 ≤ W) (h : numOk n W b = true) : (numG n W b).length = W := by
  unfold numG
  unfold numOk at h
  split
  · rw [List.length_map, octNums_length n W hW]
  · next h1 =>
    rw [Bool.eq_false_iff.2 h1, Bool.false_or] at h
    rw [if_pos h, List.length_map, binNums_length n W hW]
theorem devG_length {d : Nat} {n : Int} (h : d = 1 ∨ numOk n 8 (d == 3) = true) : (devG d n).length = 8 := by
  unfold devG
  split
  · simp
  · next h1 =>
    rcases h with h | h
    · exact absurd h h1
    · exact numG_length (by omega) h
theorem magicL_length (d : Nat) : (magicL d).length = 8 := by
  unfold magicL
  split
  · rfl
  · split
    · rfl
    · simp
theorem readF_numG {n : Int} {W : Nat} {b : Bool} (hW1 : 2 ≤ W) (hW2 : W ≤ 20) (hn : -9223372036854775808 ≤ n ∧ n ≤ 9223372036854775807) (h : numOk n W b = true) : readF (numG n W b) = (n, 0) := by
  unfold numG
  unfold numOk at h
  split
  · next h1 =>
    unfold octOk at h1
    rw [Bool.and_eq_true, decide_eq_true_iff, decide_eq_true_iff] at h1
    exact back_oct n W hW1 hW2 h1.1 h1.2
  · next h1 =>
    rw [Bool.eq_false_iff.2 h1, Bool.false_or] at h
    rw [if_pos h]
    unfold binOk at h
    rw [Bool.and_eq_true, Bool.and_eq_true, decide_eq_true_iff, Bool.or_eq_true, decide_eq_true_iff, Bool.and_eq_true, decide_eq_true_iff, decide_eq_true_iff] at h
    exact back_bin n W h.2.1 hn.1 hn.2 fun h8 => by
      rcases h.2.2 with h9 | h9
      · exact absurd h8 h9
      · exact h9
/-- A text, to its first zero byte. -/
def cutZ (l : List UInt8) : List UInt8 := l.takeWhile (· != 0)
theorem cutZ_append {s : List UInt8} (h : ∀ c ∈ s, c ≠ 0) (k : Nat) : cutZ (s ++ List.replicate k 0) = s := by
  unfold cutZ
  induction s with
  | nil =>
    cases k with
    | zero => rfl
    | succ k => rw [List.replicate_succ, List.nil_append, List.takeWhile_cons_of_neg (by simp)]
  | cons c s ih =>
    rw [List.cons_append, List.takeWhile_cons_of_pos (by simpa using h c (List.mem_cons_self ..)), ih fun x hx => h x (List.mem_cons_of_mem _ hx)]
theorem cutZ_txtG {s : List UInt8} {n : Nat} (h : txtOk s n = true) : cutZ (txtG s n) = s := by
  unfold txtG
  rw [if_pos h]
  exact cutZ_append (txtOk_iff.1 h).2 _

/-! ### Parts -/
def sub (l : List UInt8) (a n : Nat) : List UInt8 := (l.drop a).take n
theorem sub_here {f R : List UInt8} {n : Nat} (h : f.length = n) : sub (f ++ R) 0 n = f := by
  unfold sub
  rw [List.drop_zero, List.take_left' h]
theorem sub_skip {f R : List UInt8} {a m n : Nat} (h : f.length = m) (hm : m ≤ a) : sub (f ++ R) a n = sub R (a - m) n := by
  unfold sub
  rw [List.drop_append, List.drop_of_length_le (by omega), List.nil_append, h]
theorem sub_congr {l m : List UInt8} {a n : Nat} (h : ∀ j, a ≤ j → j < a + n → l[j]? = m[j]?) : sub l a n = sub m a n := by
  unfold sub
  apply List.ext_getElem?
  intro j
  by_cases hj : j < n
  · rw [List.getElem?_take, if_pos hj, List.getElem?_take, if_pos hj, List.getElem?_drop, List.getElem?_drop]
    exact h _ (by omega) (by omega)
  · rw [List.getElem?_take, if_neg hj, List.getElem?_take, if_neg hj]
theorem sub_seal {B : List UInt8} (h : B.length = 512) {a n : Nat} (ha : a + n ≤ 148 ∨ 156 ≤ a) : sub (sealL B) a n = sub B a n :=
  sub_congr fun j h1 h2 => by
    rcases ha with ha | ha
    · exact sealL_low B h j (by omega)
    · exact sealL_high B h j (by omega)

/-! ### Written -/
def bodyL (d : Nat) (r : RawL) : List UInt8 := txtG r.name 100 ++ (numG r.mode 8 (d == 3) ++ (numG r.uid 8 (d == 3) ++ (numG r.gid 8 (d == 3) ++ (numG r.size 12 (d == 3) ++ (numG r.time 12 (d == 3) ++ (List.replicate 8 (32 : UInt8) ++ ([r.kind] ++ (txtG r.link 100 ++ (magicL d ++ (txtG r.user 32 ++ (txtG r.group 32 ++ (devG d r.major ++ (devG d r.minor ++ (txtG r.front 155 ++ (List.replicate 12 (0 : UInt8))))))))))))))))
def numsOk (d : Nat) (r : RawL) : Bool := numOk r.mode 8 (d == 3) && (numOk r.uid 8 (d == 3) && (numOk r.gid 8 (d == 3) && (numOk r.size 12 (d == 3) && (numOk r.time 12 (d == 3) && (decide (d = 1) || (numOk r.major 8 (d == 3) && numOk r.minor 8 (d == 3)))))))
def txtsOk (r : RawL) : Bool := txtOk r.name 100 && (txtOk r.link 100 && (txtOk r.user 32 && (txtOk r.group 32 && txtOk r.front 155)))
/-- The dialect bears all that is set. -/
def bearsL (d : Nat) (r : RawL) : Prop := (d = 1 → r.user = [] ∧ r.group = [] ∧ r.front = [] ∧ r.major = 0 ∧ r.minor = 0) ∧ (d = 3 → r.front = [])
def goodL (d : Nat) (r : RawL) : Prop := (1 ≤ d ∧ d ≤ 4) ∧ r.kind ≠ 0 ∧ bearsL d r ∧ numsOk d r = true ∧ txtsOk r = true
def writeL (d : Nat) (r : RawL) : List UInt8 := sealL (bodyL d r)
structure Wide (d : Nat) (r : RawL) : Prop where
  h0 : (txtG r.name 100).length = 100
  h1 : (numG r.mode 8 (d == 3)).length = 8
  h2 : (numG r.uid 8 (d == 3)).length = 8
  h3 : (numG r.gid 8 (d == 3)).length = 8
  h4 : (numG r.size 12 (d == 3)).length = 12
  h5 : (numG r.time 12 (d == 3)).length = 12
  h6 : (List.replicate 8 (32 : UInt8)).length = 8
  h7 : ([r.kind]).length = 1
  h8 : (txtG r.link 100).length = 100
  h9 : (magicL d).length = 8
  h10 : (txtG r.user 32).length = 32
  h11 : (txtG r.group 32).length = 32
  h12 : (devG d r.major).length = 8
  h13 : (devG d r.minor).length = 8
  h14 : (txtG r.front 155).length = 155
  h15 : (List.replicate 12 (0 : UInt8)).length = 12
theorem goodL.wide {d : Nat} {r : RawL} (hn : numsOk d r = true) (ht : txtsOk r = true) : Wide d r := by
  unfold numsOk at hn
  unfold txtsOk at ht
  simp only [Bool.and_eq_true, Bool.or_eq_true, decide_eq_true_iff] at hn ht
  obtain ⟨n1, n2, n3, n4, n5, n6⟩ := hn
  obtain ⟨t1, t2, t3, t4, t5⟩ := ht
  exact ⟨txtG_length t1, numG_length (by omega) n1, numG_length (by omega) n2, numG_length (by omega) n3, numG_length (by omega) n4, numG_length (by omega) n5, by simp, rfl, txtG_length t2, magicL_length d, txtG_length t3, txtG_length t4, devG_length (n6.imp id fun h => h.1), devG_length (n6.imp id fun h => h.2), txtG_length t5, by simp⟩
theorem bodyL_length {d : Nat} {r : RawL} (w : Wide d r) : (bodyL d r).length = 512 := by
  unfold bodyL
  simp only [List.length_append, w.h0, w.h1, w.h2, w.h3, w.h4, w.h5, w.h6, w.h7, w.h8, w.h9, w.h10, w.h11, w.h12, w.h13, w.h14, w.h15]
theorem field0 {d : Nat} {r : RawL} (w : Wide d r) : sub (bodyL d r) 0 100 = txtG r.name 100 := by
  unfold bodyL
  rw [sub_here w.h0]
theorem field1 {d : Nat} {r : RawL} (w : Wide d r) : sub (bodyL d r) 100 8 = numG r.mode 8 (d == 3) := by
  unfold bodyL
  rw [sub_skip w.h0 (by omega), sub_here w.h1]
theorem field2 {d : Nat} {r : RawL} (w : Wide d r) : sub (bodyL d r) 108 8 = numG r.uid 8 (d == 3) := by
  unfold bodyL
  rw [sub_skip w.h0 (by omega), sub_skip w.h1 (by omega), sub_here w.h2]
theorem field3 {d : Nat} {r : RawL} (w : Wide d r) : sub (bodyL d r) 116 8 = numG r.gid 8 (d == 3) := by
  unfold bodyL
  rw [sub_skip w.h0 (by omega), sub_skip w.h1 (by omega), sub_skip w.h2 (by omega), sub_here w.h3]
theorem field4 {d : Nat} {r : RawL} (w : Wide d r) : sub (bodyL d r) 124 12 = numG r.size 12 (d == 3) := by
  unfold bodyL
  rw [sub_skip w.h0 (by omega), sub_skip w.h1 (by omega), sub_skip w.h2 (by omega), sub_skip w.h3 (by omega), sub_here w.h4]
theorem field5 {d : Nat} {r : RawL} (w : Wide d r) : sub (bodyL d r) 136 12 = numG r.time 12 (d == 3) := by
  unfold bodyL
  rw [sub_skip w.h0 (by omega), sub_skip w.h1 (by omega), sub_skip w.h2 (by omega), sub_skip w.h3 (by omega), sub_skip w.h4 (by omega), sub_here w.h5]
theorem field6 {d : Nat} {r : RawL} (w : Wide d r) : sub (bodyL d r) 148 8 = List.replicate 8 (32 : UInt8) := by
  unfold bodyL
  rw [sub_skip w.h0 (by omega), sub_skip w.h1 (by omega), sub_skip w.h2 (by omega), sub_skip w.h3 (by omega), sub_skip w.h4 (by omega), sub_skip w.h5 (by omega), sub_here w.h6]
theorem field7 {d : Nat} {r : RawL} (w : Wide d r) : sub (bodyL d r) 156 1 = [r.kind] := by
  unfold bodyL
  rw [sub_skip w.h0 (by omega), sub_skip w.h1 (by omega), sub_skip w.h2 (by omega), sub_skip w.h3 (by omega), sub_skip w.h4 (by omega), sub_skip w.h5 (by omega), sub_skip w.h6 (by omega), sub_here w.h7]
theorem field8 {d : Nat} {r : RawL} (w : Wide d r) : sub (bodyL d r) 157 100 = txtG r.link 100 := by
  unfold bodyL
  rw [sub_skip w.h0 (by omega), sub_skip w.h1 (by omega), sub_skip w.h2 (by omega), sub_skip w.h3 (by omega), sub_skip w.h4 (by omega), sub_skip w.h5 (by omega), sub_skip w.h6 (by omega), sub_skip w.h7 (by omega), sub_here w.h8]
theorem field9 {d : Nat} {r : RawL} (w : Wide d r) : sub (bodyL d r) 257 8 = magicL d := by
  unfold bodyL
  rw [sub_skip w.h0 (by omega), sub_skip w.h1 (by omega), sub_skip w.h2 (by omega), sub_skip w.h3 (by omega), sub_skip w.h4 (by omega), sub_skip w.h5 (by omega), sub_skip w.h6 (by omega), sub_skip w.h7 (by omega), sub_skip w.h8 (by omega), sub_here w.h9]
theorem field10 {d : Nat} {r : RawL} (w : Wide d r) : sub (bodyL d r) 265 32 = txtG r.user 32 := by
  unfold bodyL
  rw [sub_skip w.h0 (by omega), sub_skip w.h1 (by omega), sub_skip w.h2 (by omega), sub_skip w.h3 (by omega), sub_skip w.h4 (by omega), sub_skip w.h5 (by omega), sub_skip w.h6 (by omega), sub_skip w.h7 (by omega), sub_skip w.h8 (by omega), sub_skip w.h9 (by omega), sub_here w.h10]
theorem field11 {d : Nat} {r : RawL} (w : Wide d r) : sub (bodyL d r) 297 32 = txtG r.group 32 := by
  unfold bodyL
  rw [sub_skip w.h0 (by omega), sub_skip w.h1 (by omega), sub_skip w.h2 (by omega), sub_skip w.h3 (by omega), sub_skip w.h4 (by omega), sub_skip w.h5 (by omega), sub_skip w.h6 (by omega), sub_skip w.h7 (by omega), sub_skip w.h8 (by omega), sub_skip w.h9 (by omega), sub_skip w.h10 (by omega), sub_here w.h11]
theorem field12 {d : Nat} {r : RawL} (w : Wide d r) : sub (bodyL d r) 329 8 = devG d r.major := by
  unfold bodyL
  rw [sub_skip w.h0 (by omega), sub_skip w.h1 (by omega), sub_skip w.h2 (by omega), sub_skip w.h3 (by omega), sub_skip w.h4 (by omega), sub_skip w.h5 (by omega), sub_skip w.h6 (by omega), sub_skip w.h7 (by omega), sub_skip w.h8 (by omega), sub_skip w.h9 (by omega), sub_skip w.h10 (by omega), sub_skip w.h11 (by omega), sub_here w.h12]
theorem field13 {d : Nat} {r : RawL} (w : Wide d r) : sub (bodyL d r) 337 8 = devG d r.minor := by
  unfold bodyL
  rw [sub_skip w.h0 (by omega), sub_skip w.h1 (by omega), sub_skip w.h2 (by omega), sub_skip w.h3 (by omega), sub_skip w.h4 (by omega), sub_skip w.h5 (by omega), sub_skip w.h6 (by omega), sub_skip w.h7 (by omega), sub_skip w.h8 (by omega), sub_skip w.h9 (by omega), sub_skip w.h10 (by omega), sub_skip w.h11 (by omega), sub_skip w.h12 (by omega), sub_here w.h13]
theorem field14 {d : Nat} {r : RawL} (w : Wide d r) : sub (bodyL d r) 345 155 = txtG r.front 155 := by
  unfold bodyL
  rw [sub_skip w.h0 (by omega), sub_skip w.h1 (by omega), sub_skip w.h2 (by omega), sub_skip w.h3 (by omega), sub_skip w.h4 (by omega), sub_skip w.h5 (by omega), sub_skip w.h6 (by omega), sub_skip w.h7 (by omega), sub_skip w.h8 (by omega), sub_skip w.h9 (by omega), sub_skip w.h10 (by omega), sub_skip w.h11 (by omega), sub_skip w.h12 (by omega), sub_skip w.h13 (by omega), sub_here w.h14]

/-! ### Read -/
def numAt (l : List UInt8) (a n : Nat) : Int × Int := readF (sub l a n)
def dialF (l : List UInt8) : Nat := if sub l 257 8 = magicL 2 then 2 else if sub l 257 8 = magicL 3 then 3 else 1
/-- The numbers of a block can be read. -/
def numsRead (l : List UInt8) : Prop := (numAt l 100 8).2 = 0 ∧ (numAt l 108 8).2 = 0 ∧ (numAt l 116 8).2 = 0 ∧ (numAt l 124 12).2 = 0 ∧ (numAt l 136 12).2 = 0 ∧ (dialF l = 1 ∨ ((numAt l 329 8).2 = 0 ∧ (numAt l 337 8).2 = 0))
def kindF (c : UInt8) : UInt8 := if c = 0 then 48 else c
def rawAt (l : List UInt8) : RawL where
  name := cutZ (sub l 0 100)
  link := cutZ (sub l 157 100)
  user := if dialF l = 1 then [] else cutZ (sub l 265 32)
  group := if dialF l = 1 then [] else cutZ (sub l 297 32)
  front := if dialF l = 2 then cutZ (sub l 345 155) else []
  kind := kindF ((sub l 156 1).headD 0)
  mode := (numAt l 100 8).1
  uid := (numAt l 108 8).1
  gid := (numAt l 116 8).1
  size := (numAt l 124 12).1
  time := (numAt l 136 12).1
  major := if dialF l = 1 then 0 else (numAt l 329 8).1
  minor := if dialF l = 1 then 0 else (numAt l 337 8).1
/-- What a dialect is read as. -/
def asRead (d : Nat) : Nat := if d = 4 then 2 else d
theorem dialF_of {l : List UInt8} {d : Nat} (h1 : 1 ≤ d ∧ d ≤ 4) (h : sub l 257 8 = magicL d) : dialF l = asRead d := by
  unfold dialF
  rw [h]
  obtain rfl | rfl | rfl | rfl : d = 1 ∨ d = 2 ∨ d = 3 ∨ d = 4 := by omega
  all_goals decide
theorem write_right {d : Nat} {r : RawL} (h : goodL d r) : rightL (writeL d r) := rightL_seal _ (bodyL_length (goodL.wide h.2.2.2.1 h.2.2.2.2))
theorem write_length {d : Nat} {r : RawL} (h : goodL d r) : (writeL d r).length = 512 := sealL_length _ (bodyL_length (goodL.wide h.2.2.2.1 h.2.2.2.2))
/-- What is written is read. -/
theorem write_read {d : Nat} {r : RawL} (h : goodL d r) (hi : intsL r) : numsRead (writeL d r) ∧ dialF (writeL d r) = asRead d ∧ rawAt (writeL d r) = r := by
  obtain ⟨hd, hk, hb, hn, ht⟩ := h
  have w := goodL.wide hn ht
  have hl := bodyL_length w
  have s0 := (sub_seal hl (a := 0) (n := 100) (by omega)).trans (field0 w)
  have s1 := (sub_seal hl (a := 100) (n := 8) (by omega)).trans (field1 w)
  have s2 := (sub_seal hl (a := 108) (n := 8) (by omega)).trans (field2 w)
  have s3 := (sub_seal hl (a := 116) (n := 8) (by omega)).trans (field3 w)
  have s4 := (sub_seal hl (a := 124) (n := 12) (by omega)).trans (field4 w)
  have s5 := (sub_seal hl (a := 136) (n := 12) (by omega)).trans (field5 w)
  have s7 := (sub_seal hl (a := 156) (n := 1) (by omega)).trans (field7 w)
  have s8 := (sub_seal hl (a := 157) (n := 100) (by omega)).trans (field8 w)
  have s9 := (sub_seal hl (a := 257) (n := 8) (by omega)).trans (field9 w)
  have s10 := (sub_seal hl (a := 265) (n := 32) (by omega)).trans (field10 w)
  have s11 := (sub_seal hl (a := 297) (n := 32) (by omega)).trans (field11 w)
  have s12 := (sub_seal hl (a := 329) (n := 8) (by omega)).trans (field12 w)
  have s13 := (sub_seal hl (a := 337) (n := 8) (by omega)).trans (field13 w)
  have s14 := (sub_seal hl (a := 345) (n := 155) (by omega)).trans (field14 w)
  change sub (writeL d r) _ _ = _ at s0 s1 s2 s3 s4 s5 s7 s8 s9 s10 s11 s12 s13 s14
  have hD := dialF_of hd s9
  unfold numsOk at hn
  unfold txtsOk at ht
  simp only [Bool.and_eq_true, Bool.or_eq_true, decide_eq_true_iff] at hn ht
  obtain ⟨n1, n2, n3, n4, n5, n6⟩ := hn
  obtain ⟨t1, t2, t3, t4, t5⟩ := ht
  obtain ⟨i1, i2, i3, i4, i5, i6, i7⟩ := hi
  have r1 : numAt (writeL d r) 100 8 = (r.mode, 0) := by unfold numAt; rw [s1]; exact readF_numG (by omega) (by omega) i1 n1
  have r2 : numAt (writeL d r) 108 8 = (r.uid, 0) := by unfold numAt; rw [s2]; exact readF_numG (by omega) (by omega) i2 n2
  have r3 : numAt (writeL d r) 116 8 = (r.gid, 0) := by unfold numAt; rw [s3]; exact readF_numG (by omega) (by omega) i3 n3
  have r4 : numAt (writeL d r) 124 12 = (r.size, 0) := by unfold numAt; rw [s4]; exact readF_numG (by omega) (by omega) i4 n4
  have r5 : numAt (writeL d r) 136 12 = (r.time, 0) := by unfold numAt; rw [s5]; exact readF_numG (by omega) (by omega) i5 n5
  have r6 : d = 1 ∨ (numAt (writeL d r) 329 8 = (r.major, 0) ∧ numAt (writeL d r) 337 8 = (r.minor, 0)) := by
    by_cases h1 : d = 1
    · exact Or.inl h1
    · right
      rcases n6 with n6 | n6
      · exact absurd n6 h1
      · unfold numAt
        rw [s12, s13]
        unfold devG
        rw [if_neg h1, if_neg h1]
        exact ⟨readF_numG (by omega) (by omega) i6 n6.1, readF_numG (by omega) (by omega) i7 n6.2⟩
  have k1 : kindF ((sub (writeL d r) 156 1).headD 0) = r.kind := by
    rw [s7]
    unfold kindF
    rw [List.headD_cons, if_neg hk]
  refine ⟨?_, hD, ?_⟩
  · unfold numsRead
    rw [r1, r2, r3, r4, r5, hD]
    refine ⟨rfl, rfl, rfl, rfl, rfl, ?_⟩
    rcases r6 with rfl | ⟨h1, h2⟩
    · exact Or.inl rfl
    · exact Or.inr ⟨by rw [h1], by rw [h2]⟩
  · unfold rawAt
    rw [hD, r1, r2, r3, r4, r5, k1, s0, s8, cutZ_txtG t1, cutZ_txtG t2, s10, s11, s14, cutZ_txtG t3, cutZ_txtG t4, cutZ_txtG t5]
    obtain rfl | rfl | rfl | rfl : d = 1 ∨ d = 2 ∨ d = 3 ∨ d = 4 := by omega
    · obtain ⟨e1, e2, e3, e4, e5⟩ := hb.1 rfl
      obtain ⟨nm, lk, us, gr, fr, kd, m1, m2, m3, m4, m5, m6, m7⟩ := r
      simp only at e1 e2 e3 e4 e5
      subst e1 e2 e3 e4 e5
      rfl
    · obtain ⟨h1, h2⟩ := r6.resolve_left (by omega)
      rw [h1, h2]
      obtain ⟨nm, lk, us, gr, fr, kd, m1, m2, m3, m4, m5, m6, m7⟩ := r
      rfl
    · obtain ⟨h1, h2⟩ := r6.resolve_left (by omega)
      have e3 := hb.2 rfl
      rw [h1, h2]
      obtain ⟨nm, lk, us, gr, fr, kd, m1, m2, m3, m4, m5, m6, m7⟩ := r
      simp only at e3
      subst e3
      rfl
    · obtain ⟨h1, h2⟩ := r6.resolve_left (by omega)
      rw [h1, h2]
      obtain ⟨nm, lk, us, gr, fr, kd, m1, m2, m3, m4, m5, m6, m7⟩ := r
      rfl
/-- Unlike headers, unlike blocks. -/
theorem write_inj {d : Nat} {r q : RawL} (hr : goodL d r) (ir : intsL r) (hq : goodL d q) (iq : intsL q) : writeL d r = writeL d q ↔ r = q := by
  constructor
  · intro h
    rw [← (write_read hr ir).2.2, ← (write_read hq iq).2.2, h]
  · rintro rfl; rfl
/-- A byte that is another one, outside the sum. -/
theorem write_bent {d : Nat} {r : RawL} (h : goodL d r) (i : Nat) (c : UInt8) (hi : i < 512) (hn : ¬ (148 ≤ i ∧ i < 156)) : rightL ((writeL d r).set i c) ↔ (writeL d r).set i c = writeL d r :=
  rightL_bent _ (bodyL_length (goodL.wide h.2.2.2.1 h.2.2.2.2)) i c hi hn
end Go.Proofs.Ytnjcefmmdghbmaa
end
section
/- strings.Contains of a zero byte. -/
namespace Go.Proofs.Ytnjcefmmdghbmaa
open Go.RowKit Go.Joins
set_option linter.unusedVariables false

theorem index_any (S : List UInt8) : decide (0 ≤ Lib.indexByte S 0) = S.any (· == 0) := by
  induction S with
  | nil => rfl
  | cons b s ih =>
    rw [List.any_cons, ← ih, Lib.indexByte]
    by_cases h : b = 0
    · subst h; simp
    · have h1 : (b == 0) = false := by simpa using h
      rw [h1]
      by_cases h3 : Lib.indexByte s 0 = -1
      · rw [h3]; simp
      · have h4 : (Lib.indexByte s 0 == -1) = false := by simpa using h3
        rw [h4]
        simp only [Bool.false_eq_true, if_false, Bool.false_or]
        by_cases h5 : 0 ≤ Lib.indexByte s 0
        · rw [decide_eq_true h5, decide_eq_true (by omega)]
        · rw [decide_eq_false h5, decide_eq_false (by omega)]
theorem contains_zero (V : List UInt8) (w : World) :
    Calls Try.prog 15 #[.string (mkS V), .string ⟨#[0]⟩] w fun e w' => e = .returned (.bool (V.any (· == 0))) ∧ w' = w := by
  refine (Try.strings_Contains_one (mkS V) 0 w).mono fun e w' ⟨he, hw⟩ => ⟨?_, hw⟩
  rw [he, mkS_list, index_any]
end Go.Proofs.Ytnjcefmmdghbmaa
end
