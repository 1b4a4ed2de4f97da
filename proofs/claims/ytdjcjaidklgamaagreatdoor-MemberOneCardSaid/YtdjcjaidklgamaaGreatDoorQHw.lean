import Derived.Test.YtdjcjaidklgamaaGreatDoorQHr
set_option linter.unusedSimpArgs false
set_option linter.unusedVariables false
section
namespace Go.Proofs.YtdjcjaidklgamaaGreatDoor
open Go.RowKit Go.Joins
set_option linter.unusedVariables false
set_option linter.unusedSimpArgs false
structure But (n b:Nat) (w w':World):Prop where
 os:w'.os=w.os
 tape:w'.tape=w.tape
 output:w'.output=w.output
 size:w.heap.size≤w'.heap.size
 block:∀ k,k<n→k≠b→w'.heap[k]?=w.heap[k]?
theorem rep_zero (n:Nat) (w:World) (h:n≤1000) :
  Calls Tryz.prog 59 #[.string ⟨#[0]⟩,.int .i64 (n:Int)] w fun e w'=>e=.returned (.string (mkS (List.replicate n 0)))∧Below w.heap.size w w':=by
 have h:=Tryz.strings_Repeat ⟨#[0]⟩ n w (by omega) (by show 1 * n≤_;omega)
 have e:(⟨(Lib.repeatL [0] n).toArray⟩:ByteArray)=mkS (List.replicate n 0):=by
  have h0:∀ m,Lib.repeatL [0] m=List.replicate m (0:UInt8):=by
   intro m
   induction m with
   | zero=>rfl
   | succ m ih=>rw [Lib.repeatL,ih];rfl
  unfold mkS
  rw [h0]
 rwa [e] at h
end Go.Proofs.YtdjcjaidklgamaaGreatDoor
end
section
namespace Go.Proofs.YtdjcjaidklgamaaGreatDoor
open Go.RowKit Go.Joins
set_option linter.unusedVariables false
set_option linter.unusedSimpArgs false
theorem call_at {P:Program} {o:Oper} {a:Act} {w:World} {K:Act→World→Prop} {Q:Exit→Act→World→Prop} {R:Value→World→Prop} (d:Nat) (hd:o.dst=some d) (f:FuncId) (args:Array Value) (hrun:(execOp a.eval o).run P w=.ok (.enter f args) w)
  (hc:Calls P f args w fun e w'=>∃ v,e=.returned v∧R v w') (h:∀ v w',R v w'→K ⟨a.tmps.setIfInBounds d v,a.defers⟩ w'):o.wp P a w K Q:=by
 unfold Oper.wp
 rw [hrun,Oper.upon_enter]
 refine hc.mono fun e w' hh=>?_
 obtain ⟨v,rfl,hR⟩:=hh
 show K (a.put o.dst v) w'
 rw [put_to hd]
 exact h v w' hR
structure HwIs (d:Int) (r:RawL) (w:World) (z:Bool) (V:World):Prop where
 below:Below w.heap.size w V
 dl:V.cell? ⟨w.heap.size,0,none⟩=some (.int .i64 d)
 row:RawAt V (w.heap.size+1) r
 box:V.heap[w.heap.size+1+1]?=some (.cells #[.bool z] 4 (0,0))
structure TextsLe (r:RawL):Prop where
 name:r.name.length≤1000000
 link:r.link.length≤1000000
 user:r.user.length≤1000000
 group:r.group.length≤1000000
 front:r.front.length≤1000000
structure IntsIn (r:RawL):Prop where
 mode:i64 r.mode
 uid:i64 r.uid
 gid:i64 r.gid
 size:i64 r.size
 time:i64 r.time
 major:i64 r.major
 minor:i64 r.minor
end Go.Proofs.YtdjcjaidklgamaaGreatDoor
end
section
namespace Go.Proofs.YtdjcjaidklgamaaGreatDoor
open Go.RowKit Go.Joins
set_option linter.unusedVariables false
set_option linter.unusedSimpArgs false
end Go.Proofs.YtdjcjaidklgamaaGreatDoor
end
section
namespace Go.Proofs.YtdjcjaidklgamaaGreatDoor
open Go.RowKit Go.Joins
set_option linter.unusedVariables false
set_option linter.unusedSimpArgs false
end Go.Proofs.YtdjcjaidklgamaaGreatDoor
end
