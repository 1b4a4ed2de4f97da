/- The listed tables: from the row's condition to the walks' facts. -/
import Derived.Test.YtheiamidochooaaDoorMk
import Derived.Lib.LaidTab
import Derived.Lib.LaidU8
import Derived.Lib.ItoaMem
namespace Go.Proofs.YtheiamidochooaaDoor
open Go.RowKit Go.Joins

theorem tabIs_of_reads {P : Program} {W : World} {name : String} {k : IntKind} {zs : List Int} {g : Nat} {t e : TypeId} {n : Nat}
    (hg : P.globalNamed name = some g) (hty : (P.globals[g]?).map (·.type) = some t) (ht : P.underlying t = some (.array n e)) (he : P.underlying e = some (.int k)) (hce : P.cellsOf e = 1) (hct : P.cellsOf t = n)
    (h : Lib.VarReads P W name (Lib.tabData k zs)) : Lib.TabIs P W name k zs := by
  obtain ⟨g', t', cs, fuel, p, hg', ht', hvar, hd⟩ := h
  obtain rfl := Option.some.inj (hg.symm.trans hg')
  obtain rfl := Option.some.inj (hty.symm.trans ht')
  unfold Lib.TabIs
  rw [hvar, ← Lib.cells_of_tab ht he hce hct hd]

/-- strconv's table of the powers of ten, as laid. -/
def PowLaid (w : World) : Prop := Lib.TabIs Tryd.prog w "internal/strconv.uint64pow10" .u64 Lib.pow10Tab
theorem PowLaid.below {w w' : World} (h : PowLaid w) (hb : Below w.heap.size w w') : PowLaid w' :=
  tab_stays (g := 2) (by kernel_rfl) h hb (Nat.le_refl _)
theorem powLaid_of {W : World} (h : Lib.VarReads Tryd.prog W "internal/strconv.uint64pow10" (Lib.tabData .u64 Lib.pow10Tab)) : PowLaid W :=
  tabIs_of_reads (g := 2) (by kernel_rfl) (by kernel_rfl) Tryd.underlying173 Tryd.underlying135 (by kernel_rfl) (by kernel_rfl) h
end Go.Proofs.YtheiamidochooaaDoor
