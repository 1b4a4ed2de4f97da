/- strconv's two errors, from the row's condition to the walks' facts. -/
import Derived.Test.YtalafhfpmkacgaaDoorOco
import Derived.Lib.LaidU8
namespace Go.Proofs.YtalafhfpmkacgaaDoor
open Go.RowKit Go.Joins
set_option linter.unusedVariables false

theorem iface_of_trod {P : Program} {w : World} {base : Nat} {sp : Nat → Bool} {held : Bool} {fuel : Nat} {t : TypeId} {cs : List Value} {nm : String} {d : DataW Unit} {p : List MemPlace} {ms}
    (ht : P.underlying t = some (.interface ms)) (h : DataW.trod (fun _ => ()) P w base sp held fuel t cs = some (.iface nm d, p)) : ∃ te pe, cs = [.iface te pe] := by
  cases fuel with
  | zero => simp [DataW.trod] at h
  | succ n =>
    unfold DataW.trod at h
    rw [ht] at h
    split at h <;> first | (simp at h; done) | exact ⟨_, _, rfl⟩ | skip
    all_goals (rename_i hh; cases hh)
theorem iface_of_reads {W : World} {name : String} {g : Nat} {t : TypeId} {nm : String} {d : DataW Unit} {ms} (hg : Tryd.prog.globalNamed name = some g) (hty : (Tryd.prog.globals[g]?).map (·.type) = some t) (ht : Tryd.prog.underlying t = some (.interface ms))
    (h : Lib.VarReads Tryd.prog W name (.iface nm d)) : ∃ te pe, W.cell? ⟨g, 0, none⟩ = some (.iface te pe) := by
  obtain ⟨g', t', cs, fuel, p, hg', ht', hvar, hd⟩ := h
  obtain rfl := Option.some.inj (hg.symm.trans hg')
  obtain rfl := Option.some.inj (hty.symm.trans ht')
  obtain ⟨te, pe, hcs⟩ := iface_of_trod ht hd
  have h0 := World.var?_cell hg hvar 0
  refine ⟨te, pe, ?_⟩
  have : cs[0]? = some (.iface te pe) := by
    rw [← Array.getElem?_toList, hcs]; rfl
  rw [this] at h0
  simpa using h0
theorem atoiLaid_of {W : World} {n1 n2 : String} {d1 d2 : DataW Unit} (h1 : Lib.VarReads Tryd.prog W "strconv.ErrSyntax" (.iface n1 d1)) (h2 : Lib.VarReads Tryd.prog W "strconv.ErrRange" (.iface n2 d2)) : AtoiLaid W :=
  ⟨iface_of_reads (g := 5) (t := 26) (by kernel_rfl) (by kernel_rfl) Tryd.underlying26 h1, iface_of_reads (g := 6) (t := 26) (by kernel_rfl) (by kernel_rfl) Tryd.underlying26 h2⟩

end Go.Proofs.YtalafhfpmkacgaaDoor
