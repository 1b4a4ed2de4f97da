import Derived.Test.YtdjcjaidklgamaaGreatDoorQKa
import Derived.Test.YtdjcjaidklgamaaGreatDoorQPc
import Derived.Lib.LaidU8
set_option linter.unusedSimpArgs false
set_option linter.unusedVariables false
section
namespace Go.Proofs.YtdjcjaidklgamaaGreatDoor.Px
open Go.RowKit Go.Joins
set_option linter.unusedVariables false
theorem iface_of_trod {P:Program} {w:World} {base:Nat} {sp:Nat→Bool} {held:Bool} {fuel:Nat} {t:TypeId} {cs:List Value} {nm:String} {d:DataW Unit} {p:List MemPlace} {ms}
  (ht:P.underlying t=some (.interface ms)) (h:DataW.trod (fun _=>()) P w base sp held fuel t cs=some (.iface nm d,p)):∃ te pe,cs=[.iface te pe]:=by
 cases fuel with
 | zero=>simp [DataW.trod] at h
 | succ n =>
  unfold DataW.trod at h
  rw [ht] at h
  split at h <;> first|(simp at h;done)|exact ⟨_,_,rfl⟩|skip
  all_goals (rename_i hh;cases hh)
theorem iface_of_reads {W:World} {name:String} {g:Nat} {t:TypeId} {nm:String} {d:DataW Unit} {ms} (hg:Tryz.prog.globalNamed name=some g) (hty:(Tryz.prog.globals[g]?).map (·.type)=some t) (ht:Tryz.prog.underlying t=some (.interface ms))
  (h:Lib.VarReads Tryz.prog W name (.iface nm d)):∃ te pe,W.cell? ⟨g,0,none⟩=some (.iface te pe):=by
 obtain ⟨g',t',cs,fuel,p,hg',ht',hvar,hd⟩:=h
 obtain rfl:=Option.some.inj (hg.symm.trans hg')
 obtain rfl:=Option.some.inj (hty.symm.trans ht')
 obtain ⟨te,pe,hcs⟩:=iface_of_trod ht hd
 have h0:=World.var?_cell hg hvar 0
 refine ⟨te,pe,?_⟩
 have:cs[0]?=some (.iface te pe):=by
  rw [← Array.getElem?_toList,hcs];rfl
 rw [this] at h0
 simpa using h0
theorem atoiLaid_of {W : World} {n1 n2 : String} {d1 d2 : DataW Unit} (h1 : Lib.VarReads Tryz.prog W "strconv.ErrSyntax" (.iface n1 d1)) (h2 : Lib.VarReads Tryz.prog W "strconv.ErrRange" (.iface n2 d2)) : AtoiLaid W :=
 ⟨iface_of_reads (g:=7) (t:=31) (by kernel_rfl) (by kernel_rfl) Tryz.underlying31 h1,iface_of_reads (g:=8) (t:=31) (by kernel_rfl) (by kernel_rfl) Tryz.underlying31 h2⟩
end Go.Proofs.YtdjcjaidklgamaaGreatDoor.Px
end
section
namespace Go.Proofs.YtdjcjaidklgamaaGreatDoor
theorem atoiLaid_of {W : World} {n1 n2 : String} {d1 d2 : DataW Unit} (h1 : Lib.VarReads Tryz.prog W "strconv.ErrSyntax" (.iface n1 d1)) (h2 : Lib.VarReads Tryz.prog W "strconv.ErrRange" (.iface n2 d2)) : Px.AtoiLaid W := Px.atoiLaid_of h1 h2
end Go.Proofs.YtdjcjaidklgamaaGreatDoor
end
