import Derived.Test.YtdjcjaidklgamaaGreatDoorQHm
import Derived.Deep.WholeRow
import Derived.Deep.MidRow
import Derived.Deep.RegionHeld
import Derived.Below
import Derived.Laws.CopyOwn
import Derived.Lib.BufferWrite
import Derived.Lib.SlBuf
import Derived.Sort.LoopGhostIn
import Derived.StillTailTactics
set_option linter.unusedSimpArgs false
set_option linter.unusedVariables false
section
namespace Go.Proofs.YtdjcjaidklgamaaGreatDoor
open Go.RowKit Go.Joins
set_option linter.unusedVariables false
theorem below_setRow {B:Nat} {a w:World} (h:Below B a w) {g:Nat} (hg:B≤g) (cs:Array Value):Below B a (w.setRow g cs) :=
 h.trans ⟨rfl,rfl,rfl,by simp,fun k hk=>setRow_other w g k cs (by omega)⟩
section
variable {P:Program} {ops:Array Oper} {rest:List Oper} {o:Oper} {a:Act} {w:World} {Q:Exit→Act→World→Prop}
theorem wpList_alloc_row (hg:o.guard=none) (t:TypeId) (hop:o.op=.alloc t) (z:Array Value) (hz:(zeroValue t).run P w=.ok (.agg z) w)
  (h:wpList P ops Q rest (a.put o.dst (.pointer (some ⟨w.heap.size,0,none⟩))) (w.alloc (.cells z t))):wpList P ops Q (o :: rest) a w:=by
 refine wpList_plain hg fun K hK=>?_
 unfold Oper.wp execOp
 simp only [hop,Instr.alloc,Sem.run_bind,hz,Result.andThen_ok,newVar,newRow,Value.cells]
 exact hK _ _ h
end
theorem exec_load_row {P:Program} {o:Oper} {ρ:Operand→Value} {w:World} (t:TypeId) (x:Operand) (hop:o.op=.load t x) (b:Nat) (hx:ρ x=.pointer (some ⟨b,0,none⟩)) {c:Array Value} {t':TypeId} {fr:Nat × Nat} {d:TypeDesc}
  (hb:w.heap[b]?=some (.cells c t' fr)) (hu:P.underlying t=some d) (hd:(match d with|.struct _|.array _ _=>true|_=>false)=true) (hi:(P.info? t).map (·.size)=some c.size):(execOp ρ o).run P w=.ok (.value (.agg c)) w:=by
 unfold execOp
 simp only [hop,hx,Instr.loadAt,Instr.sureAddr,Sem.run_bind,Sem.run_pure,Result.andThen_ok,run_loadVar_row w b t' t c fr d hb hu hd hi]
section
variable {P:Program} {ops:Array Oper} {Q:Exit→Act→World→Prop} {md:Region.Mode} {S:World→Prop}
theorem put_to {a:Act} {o:Option Tmp} {d:Nat} (h:o=some d) (v:Value):a.put o v=⟨a.tmps.setIfInBounds d v,a.defers⟩:=by subst h;rfl
theorem put_no {a:Act} {o:Option Tmp} (h:o=none) (v:Value):a.put o v=a:=by subst h;rfl
theorem take_to {i:Nat} (d:Nat) (v:Value) {oi:Oper} {fuel:Nat} {listed:Array Bool} {a:Act} {w:World} (hi:ops[i]?=some oi) (hd:oi.dst=some d)
  (hs:Region.noSelect ops=true) (hf:Region.free md ops listed i=true) (hr:(Region.ready md ops listed).contains i=true)
  (hQ:∀ c a w,Q (.panic c) (a.put oi.dst v) w→Q (.panic c) a w) (hy:YieldsIf P ops S oi v a) (hS:S w)
  (h:wpAnyH P md ops Q S fuel (listed.setIfInBounds i true) ⟨a.tmps.setIfInBounds d v,a.defers⟩ w):wpAnyH P md ops Q S (fuel+1) listed a w :=
 wpAnyH_take hi hs hf hr hQ hy hS (by rw [put_to hd];exact h)
theorem store_row_no {o:Oper} {a:Act} {w:World} {K:Act→World→Prop} (hdst:o.dst=none) (ty:TypeId) (x y:Operand) (ho:o.op=.store ty x y)
  (g:Nat) (cells:Array Value) (hx:a.eval x=.pointer (some ⟨g,0,none⟩)) (hy:a.eval y=.agg cells)
  (t:TypeId) (old:Array Value) (hg:w.heap[g]?=some (.cells old t (0,0))) (hi:(P.info? ty).map (·.size)=some cells.size)
  (hold:old.size=cells.size) (h1:cells.all (·.oneCell')=true) (h:K a (w.setRow g cells)):o.wp P a w K Q :=
 wp_store_row ty x y ho g cells hx hy t old hg hi hold h1 (by rw [put_no hdst];exact h)
end
theorem results_row3 {P:Program} {fn:Func} {p t u:Tmp} {ty:TypeId} (h:fn.results=#[.cell p ty,.tmp t,.tmp u]) (tmps:Array Value) (w:World) (g:Nat) (t':TypeId) (cs:Array Value) (fr:Nat × Nat) (d:TypeDesc)
  (hp:tmps.getD p undef=.pointer (some ⟨g,0,none⟩)) (hg:w.heap[g]?=some (.cells cs t' fr))
  (hu:P.underlying ty=some d) (hd:(match d with|.struct _|.array _ _=>true|_=>false)=true) (hi:(P.info? ty).map (·.size)=some cs.size) :
  (results fn tmps).run P w=.ok (.tuple #[.agg cs,tmps.getD t undef,tmps.getD u undef]) w:=by
 have hp':tmps[p]?.getD undef=.pointer (some ⟨g,0,none⟩):=by simpa using hp
 simp [results,h,hp',asAddr,run_loadVar_row w g t' ty cs fr d hg hu hd hi]
end Go.Proofs.YtdjcjaidklgamaaGreatDoor
end
section
namespace Go.Proofs.YtdjcjaidklgamaaGreatDoor
open Go.RowKit Go.Joins
set_option linter.unusedVariables false
set_option linter.unusedSimpArgs false
def withinL (d:Int) (r:RawL):RawL :=
 if d=1 then { r with user:=[],group:=[],front:=[],major:=0,minor:=0 } else if d=3 then { r with front:=[] } else r
set_option maxHeartbeats 2000000 in
theorem withinRaw_any (d:Int) (r:RawL) (w:World) :
  Calls Tryz.prog 130 #[rawV r,.int .i64 d] w fun e w'=>e=.returned (rawV (withinL d r))∧Below w.heap.size w w':=by
 by_cases h1:d=1
 ·subst h1
  go_enter Tryz.func130,Tryz.ntmps130
  go_wp2
  refine bodyPost_ret (v:=rawV (withinL 1 r)) (by simp [results,Tryz.results130,go_sem];exact ⟨rfl,rfl,rfl,rfl,rfl,rfl,rfl,rfl,rfl,rfl,rfl,rfl,rfl⟩) rfl ?_
  exact ⟨rfl,below_alloc2 _ _ _⟩
 ·have b1:(d==1)=false:=beq_eq_false_iff_ne.2 h1
  by_cases h3:d=3
  ·subst h3
   go_enter Tryz.func130,Tryz.ntmps130
   go_wp2
   refine bodyPost_ret (v:=rawV (withinL 3 r)) (by simp [results,Tryz.results130,go_sem];exact ⟨rfl,rfl,rfl,rfl,rfl,rfl,rfl,rfl,rfl,rfl,rfl,rfl,rfl⟩) rfl ?_
   exact ⟨rfl,below_alloc2 _ _ _⟩
  ·have b3:(d==3)=false:=beq_eq_false_iff_ne.2 h3
   have e:withinL d r=r:=by unfold withinL;rw [if_neg h1,if_neg h3]
   rw [e]
   clear e
   go_enter Tryz.func130,Tryz.ntmps130
   go_wp2
   refine bodyPost_ret (v:=rawV r) (by simp [results,Tryz.results130,go_sem]) rfl ?_
   exact ⟨rfl,below_alloc2 _ _ _⟩
abbrev txtRow (b:Nat):Array Value:=#[.pointer (some ⟨b,0,none⟩),.int .i64 0,.int .i64 100,.pointer (some ⟨b,1,none⟩),.int .i64 157,.int .i64 100,.pointer (some ⟨b,2,none⟩),.int .i64 265,.int .i64 32,.pointer (some ⟨b,3,none⟩),.int .i64 297,.int .i64 32,.pointer (some ⟨b,4,none⟩),.int .i64 345,.int .i64 155]
abbrev numRow (b:Nat):Array Value:=#[.pointer (some ⟨b,6,none⟩),.int .i64 100,.int .i64 8,.pointer (some ⟨b,7,none⟩),.int .i64 108,.int .i64 8,.pointer (some ⟨b,8,none⟩),.int .i64 116,.int .i64 8,.pointer (some ⟨b,9,none⟩),.int .i64 124,.int .i64 12,.pointer (some ⟨b,10,none⟩),.int .i64 136,.int .i64 12,.pointer (some ⟨b,11,none⟩),.int .i64 329,.int .i64 8,.pointer (some ⟨b,12,none⟩),.int .i64 337,.int .i64 8]
set_option maxHeartbeats 4000000 in
theorem texts_any (b:Nat) (w:World) :
  Calls Tryz.prog 126 #[.pointer (some ⟨b,0,none⟩)] w fun e w'=>e=.returned (.agg (txtRow b))∧Below w.heap.size w w':=by
 go_enter Tryz.func126,Tryz.ntmps126
 go_wp2_with fail
 go_region
 go_wp2
 refine bodyPost_ret (v:=.agg (txtRow b)) (by simp [results,Tryz.results126,go_sem]) rfl ?_
 exact ⟨rfl,(below_alloc1 _ _).drew⟩
theorem alloc_row_to {P:Program} {o:Oper} {a:Act} {w:World} {K:Act→World→Prop} {Q:Exit→Act→World→Prop} (d:Nat) (hd:o.dst=some d) (t:TypeId) (hop:o.op=.alloc t) (z:Array Value) (hz:(zeroValue t).run P w=.ok (.agg z) w)
  (h:K ⟨a.tmps.setIfInBounds d (.pointer (some ⟨w.heap.size,0,none⟩)),a.defers⟩ (w.alloc (.cells z t))):o.wp P a w K Q:=by
 unfold Oper.wp execOp
 simp only [hop,Instr.alloc,Sem.run_bind,hz,Result.andThen_ok,newVar,newRow,Value.cells]
 rw [← put_to hd] at h
 exact h
theorem zeroNums (w:World):(zeroValue 223).run Tryz.prog w=.ok (.agg #[.pointer none,.int .i64 0,.int .i64 0,.pointer none,.int .i64 0,.int .i64 0,.pointer none,.int .i64 0,.int .i64 0,.pointer none,.int .i64 0,.int .i64 0,.pointer none,.int .i64 0,.int .i64 0,.pointer none,.int .i64 0,.int .i64 0,.pointer none,.int .i64 0,.int .i64 0]) w:=by kernel_rfl
theorem infoNums:(Tryz.prog.info? 223).map (·.size)=some 21:=by kernel_rfl
theorem infoNums' (b:Nat):(Tryz.prog.info? 223).map (·.size)=some (numRow b).size:=infoNums
set_option maxRecDepth 100000 in
set_option maxHeartbeats 4000000 in
theorem numbers_any (b:Nat) (d:Int) (n:Nat) (hd:(d=1∧n=5)∨(d≠1∧n=7)) (w:World) :
  Calls Tryz.prog 128 #[.pointer (some ⟨b,0,none⟩),.int .i64 d] w fun e w' =>
   e=.returned (.slice (some ⟨w.heap.size,0,none⟩) n 7)∧w'.heap[w.heap.size]?=some (.cells (numRow b) 223 (0,0))∧Below w.heap.size w w':=by
 have Z:=Lib.hid zeroNums
 have I:=Lib.hid (infoNums' b)
 go_enter Tryz.func128,Tryz.ntmps128
 go_wp2_with fail
 refine wp_region_held_drew (S:=fun w'=>Below w.heap.size w w') (by kernel_rfl) (Below.refl _ _).drew (fun hHeld=>?_)
 generalize hW1:w.drew=W1 at hHeld ⊢
 have HW1:=Lib.hid hW1
 clear hW1
 refine take_to (i:=0) 6 (.pointer (some ⟨b,0,none⟩)) rfl rfl (by kernel_rfl) (by kernel_rfl) (by kernel_rfl) (fun _ _ _ h=>h) (Or.inl ⟨by rfl,fun _ _=>rfl⟩) (by assumption) ?_
 simp only [List.setIfInBounds_toArray,List.set_cons_succ,List.set_cons_zero]
 refine take_to (i:=1) 7 (.pointer (some ⟨b,0,none⟩)) rfl rfl (by kernel_rfl) (by kernel_rfl) (by kernel_rfl) (fun _ _ _ h=>h) (Or.inl ⟨by rfl,?_⟩) (by assumption) ?_
 ·(intro w hSw;clear hSw;go_simp;try with_reducible rfl)
 simp only [List.setIfInBounds_toArray,List.set_cons_succ,List.set_cons_zero]
 refine take_to (i:=2) 8 (.pointer (some ⟨b,6,none⟩)) rfl rfl (by kernel_rfl) (by kernel_rfl) (by kernel_rfl) (fun _ _ _ h=>h) (Or.inl ⟨by rfl,?_⟩) (by assumption) ?_
 ·(intro w hSw;clear hSw;go_simp;try with_reducible rfl)
 simp only [List.setIfInBounds_toArray,List.set_cons_succ,List.set_cons_zero]
 refine take_to (i:=3) 9 (.agg #[.pointer (some ⟨b,6,none⟩),.int .i64 100,.int .i64 8]) rfl rfl (by kernel_rfl) (by kernel_rfl) (by kernel_rfl) (fun _ _ _ h=>h) (Or.inl ⟨by rfl,?_⟩) (by assumption) ?_
 ·(intro w hSw;clear hSw;go_simp;try with_reducible rfl)
 simp only [List.setIfInBounds_toArray,List.set_cons_succ,List.set_cons_zero]
 refine take_to (i:=4) 10 (.pointer (some ⟨b,0,none⟩)) rfl rfl (by kernel_rfl) (by kernel_rfl) (by kernel_rfl) (fun _ _ _ h=>h) (Or.inl ⟨by rfl,fun _ _=>rfl⟩) (by assumption) ?_
 simp only [List.setIfInBounds_toArray,List.set_cons_succ,List.set_cons_zero]
 refine take_to (i:=5) 11 (.pointer (some ⟨b,0,none⟩)) rfl rfl (by kernel_rfl) (by kernel_rfl) (by kernel_rfl) (fun _ _ _ h=>h) (Or.inl ⟨by rfl,?_⟩) (by assumption) ?_
 ·(intro w hSw;clear hSw;go_simp;try with_reducible rfl)
 simp only [List.setIfInBounds_toArray,List.set_cons_succ,List.set_cons_zero]
 refine take_to (i:=6) 12 (.pointer (some ⟨b,7,none⟩)) rfl rfl (by kernel_rfl) (by kernel_rfl) (by kernel_rfl) (fun _ _ _ h=>h) (Or.inl ⟨by rfl,?_⟩) (by assumption) ?_
 ·(intro w hSw;clear hSw;go_simp;try with_reducible rfl)
 simp only [List.setIfInBounds_toArray,List.set_cons_succ,List.set_cons_zero]
 refine take_to (i:=7) 13 (.agg #[.pointer (some ⟨b,7,none⟩),.int .i64 108,.int .i64 8]) rfl rfl (by kernel_rfl) (by kernel_rfl) (by kernel_rfl) (fun _ _ _ h=>h) (Or.inl ⟨by rfl,?_⟩) (by assumption) ?_
 ·(intro w hSw;clear hSw;go_simp;try with_reducible rfl)
 simp only [List.setIfInBounds_toArray,List.set_cons_succ,List.set_cons_zero]
 refine take_to (i:=8) 14 (.pointer (some ⟨b,0,none⟩)) rfl rfl (by kernel_rfl) (by kernel_rfl) (by kernel_rfl) (fun _ _ _ h=>h) (Or.inl ⟨by rfl,fun _ _=>rfl⟩) (by assumption) ?_
 simp only [List.setIfInBounds_toArray,List.set_cons_succ,List.set_cons_zero]
 refine take_to (i:=9) 15 (.pointer (some ⟨b,0,none⟩)) rfl rfl (by kernel_rfl) (by kernel_rfl) (by kernel_rfl) (fun _ _ _ h=>h) (Or.inl ⟨by rfl,?_⟩) (by assumption) ?_
 ·(intro w hSw;clear hSw;go_simp;try with_reducible rfl)
 simp only [List.setIfInBounds_toArray,List.set_cons_succ,List.set_cons_zero]
 refine take_to (i:=10) 16 (.pointer (some ⟨b,8,none⟩)) rfl rfl (by kernel_rfl) (by kernel_rfl) (by kernel_rfl) (fun _ _ _ h=>h) (Or.inl ⟨by rfl,?_⟩) (by assumption) ?_
 ·(intro w hSw;clear hSw;go_simp;try with_reducible rfl)
 simp only [List.setIfInBounds_toArray,List.set_cons_succ,List.set_cons_zero]
 refine take_to (i:=11) 17 (.agg #[.pointer (some ⟨b,8,none⟩),.int .i64 116,.int .i64 8]) rfl rfl (by kernel_rfl) (by kernel_rfl) (by kernel_rfl) (fun _ _ _ h=>h) (Or.inl ⟨by rfl,?_⟩) (by assumption) ?_
 ·(intro w hSw;clear hSw;go_simp;try with_reducible rfl)
 simp only [List.setIfInBounds_toArray,List.set_cons_succ,List.set_cons_zero]
 refine take_to (i:=12) 18 (.pointer (some ⟨b,0,none⟩)) rfl rfl (by kernel_rfl) (by kernel_rfl) (by kernel_rfl) (fun _ _ _ h=>h) (Or.inl ⟨by rfl,fun _ _=>rfl⟩) (by assumption) ?_
 simp only [List.setIfInBounds_toArray,List.set_cons_succ,List.set_cons_zero]
 refine take_to (i:=13) 19 (.pointer (some ⟨b,0,none⟩)) rfl rfl (by kernel_rfl) (by kernel_rfl) (by kernel_rfl) (fun _ _ _ h=>h) (Or.inl ⟨by rfl,?_⟩) (by assumption) ?_
 ·(intro w hSw;clear hSw;go_simp;try with_reducible rfl)
 simp only [List.setIfInBounds_toArray,List.set_cons_succ,List.set_cons_zero]
 refine take_to (i:=14) 20 (.pointer (some ⟨b,9,none⟩)) rfl rfl (by kernel_rfl) (by kernel_rfl) (by kernel_rfl) (fun _ _ _ h=>h) (Or.inl ⟨by rfl,?_⟩) (by assumption) ?_
 ·(intro w hSw;clear hSw;go_simp;try with_reducible rfl)
 simp only [List.setIfInBounds_toArray,List.set_cons_succ,List.set_cons_zero]
 refine take_to (i:=15) 21 (.agg #[.pointer (some ⟨b,9,none⟩),.int .i64 124,.int .i64 12]) rfl rfl (by kernel_rfl) (by kernel_rfl) (by kernel_rfl) (fun _ _ _ h=>h) (Or.inl ⟨by rfl,?_⟩) (by assumption) ?_
 ·(intro w hSw;clear hSw;go_simp;try with_reducible rfl)
 simp only [List.setIfInBounds_toArray,List.set_cons_succ,List.set_cons_zero]
 refine take_to (i:=16) 22 (.pointer (some ⟨b,0,none⟩)) rfl rfl (by kernel_rfl) (by kernel_rfl) (by kernel_rfl) (fun _ _ _ h=>h) (Or.inl ⟨by rfl,fun _ _=>rfl⟩) (by assumption) ?_
 simp only [List.setIfInBounds_toArray,List.set_cons_succ,List.set_cons_zero]
 refine take_to (i:=17) 23 (.pointer (some ⟨b,0,none⟩)) rfl rfl (by kernel_rfl) (by kernel_rfl) (by kernel_rfl) (fun _ _ _ h=>h) (Or.inl ⟨by rfl,?_⟩) (by assumption) ?_
 ·(intro w hSw;clear hSw;go_simp;try with_reducible rfl)
 simp only [List.setIfInBounds_toArray,List.set_cons_succ,List.set_cons_zero]
 refine take_to (i:=18) 24 (.pointer (some ⟨b,10,none⟩)) rfl rfl (by kernel_rfl) (by kernel_rfl) (by kernel_rfl) (fun _ _ _ h=>h) (Or.inl ⟨by rfl,?_⟩) (by assumption) ?_
 ·(intro w hSw;clear hSw;go_simp;try with_reducible rfl)
 simp only [List.setIfInBounds_toArray,List.set_cons_succ,List.set_cons_zero]
 refine take_to (i:=19) 25 (.agg #[.pointer (some ⟨b,10,none⟩),.int .i64 136,.int .i64 12]) rfl rfl (by kernel_rfl) (by kernel_rfl) (by kernel_rfl) (fun _ _ _ h=>h) (Or.inl ⟨by rfl,?_⟩) (by assumption) ?_
 ·(intro w hSw;clear hSw;go_simp;try with_reducible rfl)
 simp only [List.setIfInBounds_toArray,List.set_cons_succ,List.set_cons_zero]
 refine take_to (i:=20) 26 (.pointer (some ⟨b,0,none⟩)) rfl rfl (by kernel_rfl) (by kernel_rfl) (by kernel_rfl) (fun _ _ _ h=>h) (Or.inl ⟨by rfl,fun _ _=>rfl⟩) (by assumption) ?_
 simp only [List.setIfInBounds_toArray,List.set_cons_succ,List.set_cons_zero]
 refine take_to (i:=21) 27 (.pointer (some ⟨b,0,none⟩)) rfl rfl (by kernel_rfl) (by kernel_rfl) (by kernel_rfl) (fun _ _ _ h=>h) (Or.inl ⟨by rfl,?_⟩) (by assumption) ?_
 ·(intro w hSw;clear hSw;go_simp;try with_reducible rfl)
 simp only [List.setIfInBounds_toArray,List.set_cons_succ,List.set_cons_zero]
 refine take_to (i:=22) 28 (.pointer (some ⟨b,11,none⟩)) rfl rfl (by kernel_rfl) (by kernel_rfl) (by kernel_rfl) (fun _ _ _ h=>h) (Or.inl ⟨by rfl,?_⟩) (by assumption) ?_
 ·(intro w hSw;clear hSw;go_simp;try with_reducible rfl)
 simp only [List.setIfInBounds_toArray,List.set_cons_succ,List.set_cons_zero]
 refine take_to (i:=23) 29 (.agg #[.pointer (some ⟨b,11,none⟩),.int .i64 329,.int .i64 8]) rfl rfl (by kernel_rfl) (by kernel_rfl) (by kernel_rfl) (fun _ _ _ h=>h) (Or.inl ⟨by rfl,?_⟩) (by assumption) ?_
 ·(intro w hSw;clear hSw;go_simp;try with_reducible rfl)
 simp only [List.setIfInBounds_toArray,List.set_cons_succ,List.set_cons_zero]
 refine take_to (i:=24) 30 (.pointer (some ⟨b,0,none⟩)) rfl rfl (by kernel_rfl) (by kernel_rfl) (by kernel_rfl) (fun _ _ _ h=>h) (Or.inl ⟨by rfl,fun _ _=>rfl⟩) (by assumption) ?_
 simp only [List.setIfInBounds_toArray,List.set_cons_succ,List.set_cons_zero]
 refine take_to (i:=25) 31 (.pointer (some ⟨b,0,none⟩)) rfl rfl (by kernel_rfl) (by kernel_rfl) (by kernel_rfl) (fun _ _ _ h=>h) (Or.inl ⟨by rfl,?_⟩) (by assumption) ?_
 ·(intro w hSw;clear hSw;go_simp;try with_reducible rfl)
 simp only [List.setIfInBounds_toArray,List.set_cons_succ,List.set_cons_zero]
 refine take_to (i:=26) 32 (.pointer (some ⟨b,12,none⟩)) rfl rfl (by kernel_rfl) (by kernel_rfl) (by kernel_rfl) (fun _ _ _ h=>h) (Or.inl ⟨by rfl,?_⟩) (by assumption) ?_
 ·(intro w hSw;clear hSw;go_simp;try with_reducible rfl)
 simp only [List.setIfInBounds_toArray,List.set_cons_succ,List.set_cons_zero]
 refine take_to (i:=27) 33 (.agg #[.pointer (some ⟨b,12,none⟩),.int .i64 337,.int .i64 8]) rfl rfl (by kernel_rfl) (by kernel_rfl) (by kernel_rfl) (fun _ _ _ h=>h) (Or.inl ⟨by rfl,?_⟩) (by assumption) ?_
 ·(intro w hSw;clear hSw;go_simp;try with_reducible rfl)
 simp only [List.setIfInBounds_toArray,List.set_cons_succ,List.set_cons_zero]
 refine take_to (i:=28) 34 (.agg (numRow b)) rfl rfl (by kernel_rfl) (by kernel_rfl) (by kernel_rfl) (fun _ _ _ h=>h) (Or.inl ⟨by rfl,?_⟩) (by assumption) ?_
 ·(intro w hSw;clear hSw;go_simp;try with_reducible rfl)
 simp only [List.setIfInBounds_toArray,List.set_cons_succ,List.set_cons_zero]
 refine wpAnyH_ready (rs:=[29]) (by kernel_rfl) (by simp) ?_
 refine AllReadyH.cons rfl (fun K hK=>?_) AllReadyH.nil
 rw [if_pos (by rfl)]
 refine alloc_row_to 5 rfl _ rfl _ (Z.out _) ?_
 refine hK.out _ _ (hHeld.alloc hHeld.size _) (fun hHeld=>?_)
 clear hK
 simp only [List.setIfInBounds_toArray,List.set_cons_succ,List.set_cons_zero]
 refine wpAnyH_ready (rs:=[30]) (by kernel_rfl) (by simp) ?_
 refine AllReadyH.cons rfl (fun K hK=>?_) AllReadyH.nil
 rw [if_pos (by rfl)]
 refine store_row_no rfl _ _ _ rfl W1.heap.size (numRow b) rfl rfl _ _ (heap_alloc_new W1 _) I.out rfl (by kernel_rfl) ?_
 have hsz:W1.heap.size=w.heap.size:=by rw [← HW1.out];rfl
 have hrow:=setRow_heap _ _ _ (numRow b) _ _ (heap_alloc_new W1 (.cells #[.pointer none,.int .i64 0,.int .i64 0,.pointer none,.int .i64 0,.int .i64 0,.pointer none,.int .i64 0,.int .i64 0,.pointer none,.int .i64 0,.int .i64 0,.pointer none,.int .i64 0,.int .i64 0,.pointer none,.int .i64 0,.int .i64 0,.pointer none,.int .i64 0,.int .i64 0] 223))
 refine hK.out _ _ (below_setRow hHeld (by rw [hsz];exact Nat.le_refl _) _) (fun hHeld=>?_)
 clear hK
 rw [hsz] at hrow hHeld ⊢
 generalize (W1.alloc _).setRow _ _=W2 at hrow hHeld ⊢
 refine wpAnyH_done (by kernel_rfl) ?_ _
 have HR:=Lib.hid hrow
 have HB:=Lib.hid hHeld
 clear hrow hHeld I Z HW1 hsz
 rcases hd with ⟨rfl,rfl⟩|⟨hd,rfl⟩
 ·go_wp2
  go_ret
  exact ⟨rfl,HR.out,HB.out⟩
 ·have b1:(d==1)=false:=beq_eq_false_iff_ne.2 hd
  go_wp2
  go_ret
  exact ⟨rfl,HR.out,HB.out⟩
end Go.Proofs.YtdjcjaidklgamaaGreatDoor
end
section
namespace Go.Proofs.YtdjcjaidklgamaaGreatDoor
set_option linter.unusedVariables false
def txtOk (s:List UInt8) (n:Nat):Bool:=decide (s.length≤n)&&!(s.any (·==0))
def txtG (s:List UInt8) (n:Nat):List UInt8:=if txtOk s n then s++List.replicate (n - s.length) 0 else []
def octOk (n:Int) (W:Nat):Bool:=decide (0≤n)&&decide (n<8 ^ (W - 1))
def binOk (n:Int) (W:Nat) (b:Bool):Bool:=b&&(decide (8≤W)&&(decide (W≠8) || (decide (-36028797018963968≤n)&&decide (n≤36028797018963967))))
def numOk (n:Int) (W:Nat) (b:Bool):Bool:=octOk n W || binOk n W b
def numG (n:Int) (W:Nat) (b:Bool):List UInt8:=if octOk n W then (octNums n W).map u8 else if binOk n W b then (binNums n W).map u8 else []
def devG (d:Nat) (n:Int):List UInt8:=if d=1 then List.replicate 8 0 else numG n 8 (d==3)
def magicL (d:Nat):List UInt8:=if d=2∨d=4 then [117,115,116,97,114,0,48,48] else if d=3 then [117,115,116,97,114,32,32,0] else List.replicate 8 0
theorem txtOk_iff {s:List UInt8} {n:Nat}:txtOk s n=true↔s.length≤n∧∀ c∈s,c≠0:=by
 unfold txtOk
 rw [Bool.and_eq_true,decide_eq_true_iff,Bool.not_eq_true',List.any_eq_false]
 simp
theorem txtG_length {s:List UInt8} {n:Nat} (h:txtOk s n=true):(txtG s n).length=n:=by
 unfold txtG
 rw [if_pos h,List.length_append,List.length_replicate]
 have:=(txtOk_iff.1 h).1
 omega
theorem numG_length {n:Int} {W:Nat} {b:Bool} (hW:1≤W) (h:numOk n W b=true):(numG n W b).length=W:=by
 unfold numG
 unfold numOk at h
 split
 ·rw [List.length_map,octNums_length n W hW]
 ·next h1 =>
  rw [Bool.eq_false_iff.2 h1,Bool.false_or] at h
  rw [if_pos h,List.length_map,binNums_length n W hW]
theorem devG_length {d:Nat} {n:Int} (h:d=1∨numOk n 8 (d==3)=true):(devG d n).length=8:=by
 unfold devG
 split
 ·simp
 ·next h1 =>
  rcases h with h|h
  ·exact absurd h h1
  ·exact numG_length (by omega) h
theorem magicL_length (d:Nat):(magicL d).length=8:=by
 unfold magicL
 split
 ·rfl
 ·split
  ·rfl
  ·simp
theorem readF_numG {n:Int} {W:Nat} {b:Bool} (hW1:2≤W) (hW2:W≤20) (hn:-9223372036854775808≤n∧n≤9223372036854775807) (h:numOk n W b=true):readF (numG n W b)=(n,0):=by
 unfold numG
 unfold numOk at h
 split
 ·next h1 =>
  unfold octOk at h1
  rw [Bool.and_eq_true,decide_eq_true_iff,decide_eq_true_iff] at h1
  exact back_oct n W hW1 hW2 h1.1 h1.2
 ·next h1 =>
  rw [Bool.eq_false_iff.2 h1,Bool.false_or] at h
  rw [if_pos h]
  unfold binOk at h
  rw [Bool.and_eq_true,Bool.and_eq_true,decide_eq_true_iff,Bool.or_eq_true,decide_eq_true_iff,Bool.and_eq_true,decide_eq_true_iff,decide_eq_true_iff] at h
  exact back_bin n W h.2.1 hn.1 hn.2 fun h8=>by
   rcases h.2.2 with h9|h9
   ·exact absurd h8 h9
   ·exact h9
def cutZ (l:List UInt8):List UInt8:=l.takeWhile (· != 0)
theorem cutZ_append {s:List UInt8} (h:∀ c∈s,c≠0) (k:Nat):cutZ (s++List.replicate k 0)=s:=by
 unfold cutZ
 induction s with
 | nil =>
  cases k with
  | zero=>rfl
  | succ k=>rw [List.replicate_succ,List.nil_append,List.takeWhile_cons_of_neg (by simp)]
 | cons c s ih =>
  rw [List.cons_append,List.takeWhile_cons_of_pos (by simpa using h c (List.mem_cons_self ..)),ih fun x hx=>h x (List.mem_cons_of_mem _ hx)]
theorem cutZ_txtG {s:List UInt8} {n:Nat} (h:txtOk s n=true):cutZ (txtG s n)=s:=by
 unfold txtG
 rw [if_pos h]
 exact cutZ_append (txtOk_iff.1 h).2 _
def sub (l:List UInt8) (a n:Nat):List UInt8:=(l.drop a).take n
theorem sub_here {f R:List UInt8} {n:Nat} (h:f.length=n):sub (f++R) 0 n=f:=by
 unfold sub
 rw [List.drop_zero,List.take_left' h]
theorem sub_skip {f R:List UInt8} {a m n:Nat} (h:f.length=m) (hm:m≤a):sub (f++R) a n=sub R (a - m) n:=by
 unfold sub
 rw [List.drop_append,List.drop_of_length_le (by omega),List.nil_append,h]
theorem sub_congr {l m:List UInt8} {a n:Nat} (h:∀ j,a≤j→j<a+n→l[j]?=m[j]?):sub l a n=sub m a n:=by
 unfold sub
 apply List.ext_getElem?
 intro j
 by_cases hj:j<n
 ·rw [List.getElem?_take,if_pos hj,List.getElem?_take,if_pos hj,List.getElem?_drop,List.getElem?_drop]
  exact h _ (by omega) (by omega)
 ·rw [List.getElem?_take,if_neg hj,List.getElem?_take,if_neg hj]
theorem sub_seal {B:List UInt8} (h:B.length=512) {a n:Nat} (ha:a+n≤148∨156≤a):sub (sealL B) a n=sub B a n :=
 sub_congr fun j h1 h2=>by
  rcases ha with ha|ha
  ·exact sealL_low B h j (by omega)
  ·exact sealL_high B h j (by omega)
def bodyL (d:Nat) (r:RawL):List UInt8:=txtG r.name 100++(numG r.mode 8 (d==3)++(numG r.uid 8 (d==3)++(numG r.gid 8 (d==3)++(numG r.size 12 (d==3)++(numG r.time 12 (d==3)++(List.replicate 8 (32:UInt8)++([r.kind]++(txtG r.link 100++(magicL d++(txtG r.user 32++(txtG r.group 32++(devG d r.major++(devG d r.minor++(txtG r.front 155++(List.replicate 12 (0:UInt8))))))))))))))))
def numsOk (d:Nat) (r:RawL):Bool:=numOk r.mode 8 (d==3)&&(numOk r.uid 8 (d==3)&&(numOk r.gid 8 (d==3)&&(numOk r.size 12 (d==3)&&(numOk r.time 12 (d==3)&&(decide (d=1) || (numOk r.major 8 (d==3)&&numOk r.minor 8 (d==3)))))))
def txtsOk (r:RawL):Bool:=txtOk r.name 100&&(txtOk r.link 100&&(txtOk r.user 32&&(txtOk r.group 32&&txtOk r.front 155)))
def bearsL (d:Nat) (r:RawL):Prop:=(d=1→r.user=[]∧r.group=[]∧r.front=[]∧r.major=0∧r.minor=0)∧(d=3→r.front=[])
def goodL (d:Nat) (r:RawL):Prop:=(1≤d∧d≤4)∧r.kind≠0∧bearsL d r∧numsOk d r=true∧txtsOk r=true
def writeL (d:Nat) (r:RawL):List UInt8:=sealL (bodyL d r)
structure Wide (d:Nat) (r:RawL):Prop where
 h0:(txtG r.name 100).length=100
 h1:(numG r.mode 8 (d==3)).length=8
 h2:(numG r.uid 8 (d==3)).length=8
 h3:(numG r.gid 8 (d==3)).length=8
 h4:(numG r.size 12 (d==3)).length=12
 h5:(numG r.time 12 (d==3)).length=12
 h6:(List.replicate 8 (32:UInt8)).length=8
 h7:([r.kind]).length=1
 h8:(txtG r.link 100).length=100
 h9:(magicL d).length=8
 h10:(txtG r.user 32).length=32
 h11:(txtG r.group 32).length=32
 h12:(devG d r.major).length=8
 h13:(devG d r.minor).length=8
 h14:(txtG r.front 155).length=155
 h15:(List.replicate 12 (0:UInt8)).length=12
theorem goodL.wide {d:Nat} {r:RawL} (hn:numsOk d r=true) (ht:txtsOk r=true):Wide d r:=by
 unfold numsOk at hn
 unfold txtsOk at ht
 simp only [Bool.and_eq_true,Bool.or_eq_true,decide_eq_true_iff] at hn ht
 obtain ⟨n1,n2,n3,n4,n5,n6⟩:=hn
 obtain ⟨t1,t2,t3,t4,t5⟩:=ht
 exact ⟨txtG_length t1,numG_length (by omega) n1,numG_length (by omega) n2,numG_length (by omega) n3,numG_length (by omega) n4,numG_length (by omega) n5,by simp,rfl,txtG_length t2,magicL_length d,txtG_length t3,txtG_length t4,devG_length (n6.imp id fun h=>h.1),devG_length (n6.imp id fun h=>h.2),txtG_length t5,by simp⟩
theorem bodyL_length {d:Nat} {r:RawL} (w:Wide d r):(bodyL d r).length=512:=by
 unfold bodyL
 simp only [List.length_append,w.h0,w.h1,w.h2,w.h3,w.h4,w.h5,w.h6,w.h7,w.h8,w.h9,w.h10,w.h11,w.h12,w.h13,w.h14,w.h15]
theorem field0 {d:Nat} {r:RawL} (w:Wide d r):sub (bodyL d r) 0 100=txtG r.name 100:=by
 unfold bodyL
 rw [sub_here w.h0]
theorem field1 {d:Nat} {r:RawL} (w:Wide d r):sub (bodyL d r) 100 8=numG r.mode 8 (d==3):=by
 unfold bodyL
 rw [sub_skip w.h0 (by omega),sub_here w.h1]
theorem field2 {d:Nat} {r:RawL} (w:Wide d r):sub (bodyL d r) 108 8=numG r.uid 8 (d==3):=by
 unfold bodyL
 rw [sub_skip w.h0 (by omega),sub_skip w.h1 (by omega),sub_here w.h2]
theorem field3 {d:Nat} {r:RawL} (w:Wide d r):sub (bodyL d r) 116 8=numG r.gid 8 (d==3):=by
 unfold bodyL
 rw [sub_skip w.h0 (by omega),sub_skip w.h1 (by omega),sub_skip w.h2 (by omega),sub_here w.h3]
theorem field4 {d:Nat} {r:RawL} (w:Wide d r):sub (bodyL d r) 124 12=numG r.size 12 (d==3):=by
 unfold bodyL
 rw [sub_skip w.h0 (by omega),sub_skip w.h1 (by omega),sub_skip w.h2 (by omega),sub_skip w.h3 (by omega),sub_here w.h4]
theorem field5 {d:Nat} {r:RawL} (w:Wide d r):sub (bodyL d r) 136 12=numG r.time 12 (d==3):=by
 unfold bodyL
 rw [sub_skip w.h0 (by omega),sub_skip w.h1 (by omega),sub_skip w.h2 (by omega),sub_skip w.h3 (by omega),sub_skip w.h4 (by omega),sub_here w.h5]
theorem field7 {d:Nat} {r:RawL} (w:Wide d r):sub (bodyL d r) 156 1=[r.kind]:=by
 unfold bodyL
 rw [sub_skip w.h0 (by omega),sub_skip w.h1 (by omega),sub_skip w.h2 (by omega),sub_skip w.h3 (by omega),sub_skip w.h4 (by omega),sub_skip w.h5 (by omega),sub_skip w.h6 (by omega),sub_here w.h7]
theorem field8 {d:Nat} {r:RawL} (w:Wide d r):sub (bodyL d r) 157 100=txtG r.link 100:=by
 unfold bodyL
 rw [sub_skip w.h0 (by omega),sub_skip w.h1 (by omega),sub_skip w.h2 (by omega),sub_skip w.h3 (by omega),sub_skip w.h4 (by omega),sub_skip w.h5 (by omega),sub_skip w.h6 (by omega),sub_skip w.h7 (by omega),sub_here w.h8]
theorem field9 {d:Nat} {r:RawL} (w:Wide d r):sub (bodyL d r) 257 8=magicL d:=by
 unfold bodyL
 rw [sub_skip w.h0 (by omega),sub_skip w.h1 (by omega),sub_skip w.h2 (by omega),sub_skip w.h3 (by omega),sub_skip w.h4 (by omega),sub_skip w.h5 (by omega),sub_skip w.h6 (by omega),sub_skip w.h7 (by omega),sub_skip w.h8 (by omega),sub_here w.h9]
theorem field10 {d:Nat} {r:RawL} (w:Wide d r):sub (bodyL d r) 265 32=txtG r.user 32:=by
 unfold bodyL
 rw [sub_skip w.h0 (by omega),sub_skip w.h1 (by omega),sub_skip w.h2 (by omega),sub_skip w.h3 (by omega),sub_skip w.h4 (by omega),sub_skip w.h5 (by omega),sub_skip w.h6 (by omega),sub_skip w.h7 (by omega),sub_skip w.h8 (by omega),sub_skip w.h9 (by omega),sub_here w.h10]
theorem field11 {d:Nat} {r:RawL} (w:Wide d r):sub (bodyL d r) 297 32=txtG r.group 32:=by
 unfold bodyL
 rw [sub_skip w.h0 (by omega),sub_skip w.h1 (by omega),sub_skip w.h2 (by omega),sub_skip w.h3 (by omega),sub_skip w.h4 (by omega),sub_skip w.h5 (by omega),sub_skip w.h6 (by omega),sub_skip w.h7 (by omega),sub_skip w.h8 (by omega),sub_skip w.h9 (by omega),sub_skip w.h10 (by omega),sub_here w.h11]
theorem field12 {d:Nat} {r:RawL} (w:Wide d r):sub (bodyL d r) 329 8=devG d r.major:=by
 unfold bodyL
 rw [sub_skip w.h0 (by omega),sub_skip w.h1 (by omega),sub_skip w.h2 (by omega),sub_skip w.h3 (by omega),sub_skip w.h4 (by omega),sub_skip w.h5 (by omega),sub_skip w.h6 (by omega),sub_skip w.h7 (by omega),sub_skip w.h8 (by omega),sub_skip w.h9 (by omega),sub_skip w.h10 (by omega),sub_skip w.h11 (by omega),sub_here w.h12]
theorem field13 {d:Nat} {r:RawL} (w:Wide d r):sub (bodyL d r) 337 8=devG d r.minor:=by
 unfold bodyL
 rw [sub_skip w.h0 (by omega),sub_skip w.h1 (by omega),sub_skip w.h2 (by omega),sub_skip w.h3 (by omega),sub_skip w.h4 (by omega),sub_skip w.h5 (by omega),sub_skip w.h6 (by omega),sub_skip w.h7 (by omega),sub_skip w.h8 (by omega),sub_skip w.h9 (by omega),sub_skip w.h10 (by omega),sub_skip w.h11 (by omega),sub_skip w.h12 (by omega),sub_here w.h13]
theorem field14 {d:Nat} {r:RawL} (w:Wide d r):sub (bodyL d r) 345 155=txtG r.front 155:=by
 unfold bodyL
 rw [sub_skip w.h0 (by omega),sub_skip w.h1 (by omega),sub_skip w.h2 (by omega),sub_skip w.h3 (by omega),sub_skip w.h4 (by omega),sub_skip w.h5 (by omega),sub_skip w.h6 (by omega),sub_skip w.h7 (by omega),sub_skip w.h8 (by omega),sub_skip w.h9 (by omega),sub_skip w.h10 (by omega),sub_skip w.h11 (by omega),sub_skip w.h12 (by omega),sub_skip w.h13 (by omega),sub_here w.h14]
def numAt (l:List UInt8) (a n:Nat):Int × Int:=readF (sub l a n)
def dialF (l:List UInt8):Nat:=if sub l 257 8=magicL 2 then 2 else if sub l 257 8=magicL 3 then 3 else 1
def numsRead (l:List UInt8):Prop:=(numAt l 100 8).2=0∧(numAt l 108 8).2=0∧(numAt l 116 8).2=0∧(numAt l 124 12).2=0∧(numAt l 136 12).2=0∧(dialF l=1∨((numAt l 329 8).2=0∧(numAt l 337 8).2=0))
def kindF (c:UInt8):UInt8:=if c=0 then 48 else c
def rawAt (l:List UInt8):RawL where
 name:=cutZ (sub l 0 100)
 link:=cutZ (sub l 157 100)
 user:=if dialF l=1 then [] else cutZ (sub l 265 32)
 group:=if dialF l=1 then [] else cutZ (sub l 297 32)
 front:=if dialF l=2 then cutZ (sub l 345 155) else []
 kind:=kindF ((sub l 156 1).headD 0)
 mode:=(numAt l 100 8).1
 uid:=(numAt l 108 8).1
 gid:=(numAt l 116 8).1
 size:=(numAt l 124 12).1
 time:=(numAt l 136 12).1
 major:=if dialF l=1 then 0 else (numAt l 329 8).1
 minor:=if dialF l=1 then 0 else (numAt l 337 8).1
def asRead (d:Nat):Nat:=if d=4 then 2 else d
theorem dialF_of {l:List UInt8} {d:Nat} (h1:1≤d∧d≤4) (h:sub l 257 8=magicL d):dialF l=asRead d:=by
 unfold dialF
 rw [h]
 obtain rfl|rfl|rfl|rfl:d=1∨d=2∨d=3∨d=4:=by omega
 all_goals decide
theorem write_right {d:Nat} {r:RawL} (h:goodL d r):rightL (writeL d r):=rightL_seal _ (bodyL_length (goodL.wide h.2.2.2.1 h.2.2.2.2))
theorem write_length {d:Nat} {r:RawL} (h:goodL d r):(writeL d r).length=512:=sealL_length _ (bodyL_length (goodL.wide h.2.2.2.1 h.2.2.2.2))
theorem write_read {d:Nat} {r:RawL} (h:goodL d r) (hi:intsL r):numsRead (writeL d r)∧dialF (writeL d r)=asRead d∧rawAt (writeL d r)=r:=by
 obtain ⟨hd,hk,hb,hn,ht⟩:=h
 have w:=goodL.wide hn ht
 have hl:=bodyL_length w
 have s0:=(sub_seal hl (a:=0) (n:=100) (by omega)).trans (field0 w)
 have s1:=(sub_seal hl (a:=100) (n:=8) (by omega)).trans (field1 w)
 have s2:=(sub_seal hl (a:=108) (n:=8) (by omega)).trans (field2 w)
 have s3:=(sub_seal hl (a:=116) (n:=8) (by omega)).trans (field3 w)
 have s4:=(sub_seal hl (a:=124) (n:=12) (by omega)).trans (field4 w)
 have s5:=(sub_seal hl (a:=136) (n:=12) (by omega)).trans (field5 w)
 have s7:=(sub_seal hl (a:=156) (n:=1) (by omega)).trans (field7 w)
 have s8:=(sub_seal hl (a:=157) (n:=100) (by omega)).trans (field8 w)
 have s9:=(sub_seal hl (a:=257) (n:=8) (by omega)).trans (field9 w)
 have s10:=(sub_seal hl (a:=265) (n:=32) (by omega)).trans (field10 w)
 have s11:=(sub_seal hl (a:=297) (n:=32) (by omega)).trans (field11 w)
 have s12:=(sub_seal hl (a:=329) (n:=8) (by omega)).trans (field12 w)
 have s13:=(sub_seal hl (a:=337) (n:=8) (by omega)).trans (field13 w)
 have s14:=(sub_seal hl (a:=345) (n:=155) (by omega)).trans (field14 w)
 change sub (writeL d r) _ _=_ at s0 s1 s2 s3 s4 s5 s7 s8 s9 s10 s11 s12 s13 s14
 have hD:=dialF_of hd s9
 unfold numsOk at hn
 unfold txtsOk at ht
 simp only [Bool.and_eq_true,Bool.or_eq_true,decide_eq_true_iff] at hn ht
 obtain ⟨n1,n2,n3,n4,n5,n6⟩:=hn
 obtain ⟨t1,t2,t3,t4,t5⟩:=ht
 obtain ⟨i1,i2,i3,i4,i5,i6,i7⟩:=hi
 have r1:numAt (writeL d r) 100 8=(r.mode,0):=by unfold numAt;rw [s1];exact readF_numG (by omega) (by omega) i1 n1
 have r2:numAt (writeL d r) 108 8=(r.uid,0):=by unfold numAt;rw [s2];exact readF_numG (by omega) (by omega) i2 n2
 have r3:numAt (writeL d r) 116 8=(r.gid,0):=by unfold numAt;rw [s3];exact readF_numG (by omega) (by omega) i3 n3
 have r4:numAt (writeL d r) 124 12=(r.size,0):=by unfold numAt;rw [s4];exact readF_numG (by omega) (by omega) i4 n4
 have r5:numAt (writeL d r) 136 12=(r.time,0):=by unfold numAt;rw [s5];exact readF_numG (by omega) (by omega) i5 n5
 have r6:d=1∨(numAt (writeL d r) 329 8=(r.major,0)∧numAt (writeL d r) 337 8=(r.minor,0)):=by
  by_cases h1:d=1
  ·exact Or.inl h1
  ·right
   rcases n6 with n6|n6
   ·exact absurd n6 h1
   ·unfold numAt
    rw [s12,s13]
    unfold devG
    rw [if_neg h1,if_neg h1]
    exact ⟨readF_numG (by omega) (by omega) i6 n6.1,readF_numG (by omega) (by omega) i7 n6.2⟩
 have k1:kindF ((sub (writeL d r) 156 1).headD 0)=r.kind:=by
  rw [s7]
  unfold kindF
  rw [List.headD_cons,if_neg hk]
 refine ⟨?_,hD,?_⟩
 ·unfold numsRead
  rw [r1,r2,r3,r4,r5,hD]
  refine ⟨rfl,rfl,rfl,rfl,rfl,?_⟩
  rcases r6 with rfl|⟨h1,h2⟩
  ·exact Or.inl rfl
  ·exact Or.inr ⟨by rw [h1],by rw [h2]⟩
 ·unfold rawAt
  rw [hD,r1,r2,r3,r4,r5,k1,s0,s8,cutZ_txtG t1,cutZ_txtG t2,s10,s11,s14,cutZ_txtG t3,cutZ_txtG t4,cutZ_txtG t5]
  obtain rfl|rfl|rfl|rfl:d=1∨d=2∨d=3∨d=4:=by omega
  ·obtain ⟨e1,e2,e3,e4,e5⟩:=hb.1 rfl
   obtain ⟨nm,lk,us,gr,fr,kd,m1,m2,m3,m4,m5,m6,m7⟩:=r
   simp only at e1 e2 e3 e4 e5
   subst e1 e2 e3 e4 e5
   rfl
  ·obtain ⟨h1,h2⟩:=r6.resolve_left (by omega)
   rw [h1,h2]
   obtain ⟨nm,lk,us,gr,fr,kd,m1,m2,m3,m4,m5,m6,m7⟩:=r
   rfl
  ·obtain ⟨h1,h2⟩:=r6.resolve_left (by omega)
   have e3:=hb.2 rfl
   rw [h1,h2]
   obtain ⟨nm,lk,us,gr,fr,kd,m1,m2,m3,m4,m5,m6,m7⟩:=r
   simp only at e3
   subst e3
   rfl
  ·obtain ⟨h1,h2⟩:=r6.resolve_left (by omega)
   rw [h1,h2]
   obtain ⟨nm,lk,us,gr,fr,kd,m1,m2,m3,m4,m5,m6,m7⟩:=r
   rfl
end Go.Proofs.YtdjcjaidklgamaaGreatDoor
end
section
namespace Go.Proofs.YtdjcjaidklgamaaGreatDoor
set_option linter.unusedVariables false
def putAt (L:List UInt8) (a:Nat) (s:List UInt8):List UInt8:=L.take a++(s++L.drop (a+s.length))
theorem putAt_length {L:List UInt8} {a:Nat} {s:List UInt8} (h:a+s.length≤L.length):(putAt L a s).length=L.length:=by
 unfold putAt
 rw [List.length_append,List.length_append,List.length_take,List.length_drop]
 omega
theorem putAt_skip {f R s:List UInt8} {a m:Nat} (h:f.length=m) (hm:m≤a):putAt (f++R) a s=f++putAt R (a - m) s:=by
 unfold putAt
 rw [List.take_append,List.take_of_length_le (by omega),List.drop_append,List.drop_of_length_le (by omega),List.nil_append,h,show a+s.length - m=a - m+s.length by omega,List.append_assoc]
theorem putAt_here {R s:List UInt8} {n:Nat} (h:s.length≤n):putAt (List.replicate n 0++R) 0 s=(s++List.replicate (n - s.length) 0)++R:=by
 unfold putAt
 rw [List.take_zero,List.nil_append,Nat.zero_add,List.drop_append,List.drop_replicate,List.length_replicate,show s.length - n=0 by omega,List.drop_zero,List.append_assoc]
theorem putAt_nil (L:List UInt8) (a:Nat):putAt L a []=L:=by
 unfold putAt
 rw [List.nil_append,List.length_nil,Nat.add_zero,List.take_append_drop]
theorem set_putAt {L:List UInt8} {a:Nat} (c:UInt8) (h:a<L.length):L.set a c=putAt L a [c]:=by
 unfold putAt
 rw [List.set_eq_take_append_cons_drop,if_pos h]
 rfl
theorem txtG_put {s:List UInt8} {n:Nat} (h:txtOk s n=true):s++List.replicate (n - s.length) 0=txtG s n:=by
 unfold txtG
 rw [if_pos h]
def tAt (k:Nat):Nat:=[0,157,265,297,345].getD k 0
def tSz (k:Nat):Nat:=[100,100,32,32,155].getD k 0
def tVal (r:RawL) (k:Nat):List UInt8:=[r.name,r.link,r.user,r.group,r.front].getD k []
def nAt (k:Nat):Nat:=[100,108,116,124,136,329,337].getD k 0
def nSz (k:Nat):Nat:=[8,8,8,12,12,8,8].getD k 0
def nVal (r:RawL) (k:Nat):Int:=[r.mode,r.uid,r.gid,r.size,r.time,r.major,r.minor].getD k 0
def nMany (d:Nat):Nat:=if d=1 then 5 else 7
def hdrT (r:RawL):Nat→List UInt8
 | 0=>List.replicate 512 0
 | k+1=>putAt (hdrT r k) (tAt k) (tVal r k)
def hdrN (d:Nat) (r:RawL):Nat→List UInt8
 | 0=>hdrT r 5
 | k+1=>putAt (hdrN d r k) (nAt k) (numG (nVal r k) (nSz k) (d==3))
def magicP (d:Nat):List UInt8:=if d=1 then [] else magicL d
def hdrK (d:Nat) (r:RawL):List UInt8:=(hdrN d r (nMany d)).set 156 r.kind
def hdrM (d:Nat) (r:RawL):List UInt8:=putAt (hdrK d r) 257 (magicP d)
def rowF (x0 x1 x2 x3 x4 x5 x6 x7 x8 x9 x10 x11 x12 x13 x14 x15:List UInt8):List UInt8:=x0++(x1++(x2++(x3++(x4++(x5++(x6++(x7++(x8++(x9++(x10++(x11++(x12++(x13++(x14++(x15)))))))))))))))
theorem zeros_row:List.replicate 512 (0:UInt8)=rowF (List.replicate 100 0) (List.replicate 8 0) (List.replicate 8 0) (List.replicate 8 0) (List.replicate 12 0) (List.replicate 12 0) (List.replicate 8 0) (List.replicate 1 0) (List.replicate 100 0) (List.replicate 8 0) (List.replicate 32 0) (List.replicate 32 0) (List.replicate 8 0) (List.replicate 8 0) (List.replicate 155 0) (List.replicate 12 0):=by
 unfold rowF
 simp only [List.replicate_append_replicate]
theorem put_row0 {x1 x2 x3 x4 x5 x6 x7 x8 x9 x10 x11 x12 x13 x14 x15 s:List UInt8}  (h:s.length≤100):putAt (rowF (List.replicate 100 0) x1 x2 x3 x4 x5 x6 x7 x8 x9 x10 x11 x12 x13 x14 x15) 0 s=rowF (s++List.replicate (100 - s.length) 0) x1 x2 x3 x4 x5 x6 x7 x8 x9 x10 x11 x12 x13 x14 x15:=by
 unfold rowF
 exact (by rw [putAt_here h])
theorem put_row1 {x0 x2 x3 x4 x5 x6 x7 x8 x9 x10 x11 x12 x13 x14 x15 s:List UInt8} (h0:x0.length=100) (h:s.length≤8):putAt (rowF x0 (List.replicate 8 0) x2 x3 x4 x5 x6 x7 x8 x9 x10 x11 x12 x13 x14 x15) 100 s=rowF x0 (s++List.replicate (8 - s.length) 0) x2 x3 x4 x5 x6 x7 x8 x9 x10 x11 x12 x13 x14 x15:=by
 unfold rowF
 rw [putAt_skip h0 (by omega)]
 exact (by rw [putAt_here h])
theorem put_row2 {x0 x1 x3 x4 x5 x6 x7 x8 x9 x10 x11 x12 x13 x14 x15 s:List UInt8} (h0:x0.length=100) (h1:x1.length=8) (h:s.length≤8):putAt (rowF x0 x1 (List.replicate 8 0) x3 x4 x5 x6 x7 x8 x9 x10 x11 x12 x13 x14 x15) 108 s=rowF x0 x1 (s++List.replicate (8 - s.length) 0) x3 x4 x5 x6 x7 x8 x9 x10 x11 x12 x13 x14 x15:=by
 unfold rowF
 rw [putAt_skip h0 (by omega),putAt_skip h1 (by omega)]
 exact (by rw [putAt_here h])
theorem put_row3 {x0 x1 x2 x4 x5 x6 x7 x8 x9 x10 x11 x12 x13 x14 x15 s:List UInt8} (h0:x0.length=100) (h1:x1.length=8) (h2:x2.length=8) (h:s.length≤8):putAt (rowF x0 x1 x2 (List.replicate 8 0) x4 x5 x6 x7 x8 x9 x10 x11 x12 x13 x14 x15) 116 s=rowF x0 x1 x2 (s++List.replicate (8 - s.length) 0) x4 x5 x6 x7 x8 x9 x10 x11 x12 x13 x14 x15:=by
 unfold rowF
 rw [putAt_skip h0 (by omega),putAt_skip h1 (by omega),putAt_skip h2 (by omega)]
 exact (by rw [putAt_here h])
theorem put_row4 {x0 x1 x2 x3 x5 x6 x7 x8 x9 x10 x11 x12 x13 x14 x15 s:List UInt8} (h0:x0.length=100) (h1:x1.length=8) (h2:x2.length=8) (h3:x3.length=8) (h:s.length≤12):putAt (rowF x0 x1 x2 x3 (List.replicate 12 0) x5 x6 x7 x8 x9 x10 x11 x12 x13 x14 x15) 124 s=rowF x0 x1 x2 x3 (s++List.replicate (12 - s.length) 0) x5 x6 x7 x8 x9 x10 x11 x12 x13 x14 x15:=by
 unfold rowF
 rw [putAt_skip h0 (by omega),putAt_skip h1 (by omega),putAt_skip h2 (by omega),putAt_skip h3 (by omega)]
 exact (by rw [putAt_here h])
theorem put_row5 {x0 x1 x2 x3 x4 x6 x7 x8 x9 x10 x11 x12 x13 x14 x15 s:List UInt8} (h0:x0.length=100) (h1:x1.length=8) (h2:x2.length=8) (h3:x3.length=8) (h4:x4.length=12) (h:s.length≤12):putAt (rowF x0 x1 x2 x3 x4 (List.replicate 12 0) x6 x7 x8 x9 x10 x11 x12 x13 x14 x15) 136 s=rowF x0 x1 x2 x3 x4 (s++List.replicate (12 - s.length) 0) x6 x7 x8 x9 x10 x11 x12 x13 x14 x15:=by
 unfold rowF
 rw [putAt_skip h0 (by omega),putAt_skip h1 (by omega),putAt_skip h2 (by omega),putAt_skip h3 (by omega),putAt_skip h4 (by omega)]
 exact (by rw [putAt_here h])
theorem put_row7 {x0 x1 x2 x3 x4 x5 x6 x8 x9 x10 x11 x12 x13 x14 x15 s:List UInt8} (h0:x0.length=100) (h1:x1.length=8) (h2:x2.length=8) (h3:x3.length=8) (h4:x4.length=12) (h5:x5.length=12) (h6:x6.length=8) (h:s.length≤1):putAt (rowF x0 x1 x2 x3 x4 x5 x6 (List.replicate 1 0) x8 x9 x10 x11 x12 x13 x14 x15) 156 s=rowF x0 x1 x2 x3 x4 x5 x6 (s++List.replicate (1 - s.length) 0) x8 x9 x10 x11 x12 x13 x14 x15:=by
 unfold rowF
 rw [putAt_skip h0 (by omega),putAt_skip h1 (by omega),putAt_skip h2 (by omega),putAt_skip h3 (by omega),putAt_skip h4 (by omega),putAt_skip h5 (by omega),putAt_skip h6 (by omega)]
 exact (by rw [putAt_here h])
theorem put_row8 {x0 x1 x2 x3 x4 x5 x6 x7 x9 x10 x11 x12 x13 x14 x15 s:List UInt8} (h0:x0.length=100) (h1:x1.length=8) (h2:x2.length=8) (h3:x3.length=8) (h4:x4.length=12) (h5:x5.length=12) (h6:x6.length=8) (h7:x7.length=1) (h:s.length≤100):putAt (rowF x0 x1 x2 x3 x4 x5 x6 x7 (List.replicate 100 0) x9 x10 x11 x12 x13 x14 x15) 157 s=rowF x0 x1 x2 x3 x4 x5 x6 x7 (s++List.replicate (100 - s.length) 0) x9 x10 x11 x12 x13 x14 x15:=by
 unfold rowF
 rw [putAt_skip h0 (by omega),putAt_skip h1 (by omega),putAt_skip h2 (by omega),putAt_skip h3 (by omega),putAt_skip h4 (by omega),putAt_skip h5 (by omega),putAt_skip h6 (by omega),putAt_skip h7 (by omega)]
 exact (by rw [putAt_here h])
theorem put_row9 {x0 x1 x2 x3 x4 x5 x6 x7 x8 x10 x11 x12 x13 x14 x15 s:List UInt8} (h0:x0.length=100) (h1:x1.length=8) (h2:x2.length=8) (h3:x3.length=8) (h4:x4.length=12) (h5:x5.length=12) (h6:x6.length=8) (h7:x7.length=1) (h8:x8.length=100) (h:s.length≤8):putAt (rowF x0 x1 x2 x3 x4 x5 x6 x7 x8 (List.replicate 8 0) x10 x11 x12 x13 x14 x15) 257 s=rowF x0 x1 x2 x3 x4 x5 x6 x7 x8 (s++List.replicate (8 - s.length) 0) x10 x11 x12 x13 x14 x15:=by
 unfold rowF
 rw [putAt_skip h0 (by omega),putAt_skip h1 (by omega),putAt_skip h2 (by omega),putAt_skip h3 (by omega),putAt_skip h4 (by omega),putAt_skip h5 (by omega),putAt_skip h6 (by omega),putAt_skip h7 (by omega),putAt_skip h8 (by omega)]
 exact (by rw [putAt_here h])
theorem put_row10 {x0 x1 x2 x3 x4 x5 x6 x7 x8 x9 x11 x12 x13 x14 x15 s:List UInt8} (h0:x0.length=100) (h1:x1.length=8) (h2:x2.length=8) (h3:x3.length=8) (h4:x4.length=12) (h5:x5.length=12) (h6:x6.length=8) (h7:x7.length=1) (h8:x8.length=100) (h9:x9.length=8) (h:s.length≤32):putAt (rowF x0 x1 x2 x3 x4 x5 x6 x7 x8 x9 (List.replicate 32 0) x11 x12 x13 x14 x15) 265 s=rowF x0 x1 x2 x3 x4 x5 x6 x7 x8 x9 (s++List.replicate (32 - s.length) 0) x11 x12 x13 x14 x15:=by
 unfold rowF
 rw [putAt_skip h0 (by omega),putAt_skip h1 (by omega),putAt_skip h2 (by omega),putAt_skip h3 (by omega),putAt_skip h4 (by omega),putAt_skip h5 (by omega),putAt_skip h6 (by omega),putAt_skip h7 (by omega),putAt_skip h8 (by omega),putAt_skip h9 (by omega)]
 exact (by rw [putAt_here h])
theorem put_row11 {x0 x1 x2 x3 x4 x5 x6 x7 x8 x9 x10 x12 x13 x14 x15 s:List UInt8} (h0:x0.length=100) (h1:x1.length=8) (h2:x2.length=8) (h3:x3.length=8) (h4:x4.length=12) (h5:x5.length=12) (h6:x6.length=8) (h7:x7.length=1) (h8:x8.length=100) (h9:x9.length=8) (h10:x10.length=32) (h:s.length≤32):putAt (rowF x0 x1 x2 x3 x4 x5 x6 x7 x8 x9 x10 (List.replicate 32 0) x12 x13 x14 x15) 297 s=rowF x0 x1 x2 x3 x4 x5 x6 x7 x8 x9 x10 (s++List.replicate (32 - s.length) 0) x12 x13 x14 x15:=by
 unfold rowF
 rw [putAt_skip h0 (by omega),putAt_skip h1 (by omega),putAt_skip h2 (by omega),putAt_skip h3 (by omega),putAt_skip h4 (by omega),putAt_skip h5 (by omega),putAt_skip h6 (by omega),putAt_skip h7 (by omega),putAt_skip h8 (by omega),putAt_skip h9 (by omega),putAt_skip h10 (by omega)]
 exact (by rw [putAt_here h])
theorem put_row12 {x0 x1 x2 x3 x4 x5 x6 x7 x8 x9 x10 x11 x13 x14 x15 s:List UInt8} (h0:x0.length=100) (h1:x1.length=8) (h2:x2.length=8) (h3:x3.length=8) (h4:x4.length=12) (h5:x5.length=12) (h6:x6.length=8) (h7:x7.length=1) (h8:x8.length=100) (h9:x9.length=8) (h10:x10.length=32) (h11:x11.length=32) (h:s.length≤8):putAt (rowF x0 x1 x2 x3 x4 x5 x6 x7 x8 x9 x10 x11 (List.replicate 8 0) x13 x14 x15) 329 s=rowF x0 x1 x2 x3 x4 x5 x6 x7 x8 x9 x10 x11 (s++List.replicate (8 - s.length) 0) x13 x14 x15:=by
 unfold rowF
 rw [putAt_skip h0 (by omega),putAt_skip h1 (by omega),putAt_skip h2 (by omega),putAt_skip h3 (by omega),putAt_skip h4 (by omega),putAt_skip h5 (by omega),putAt_skip h6 (by omega),putAt_skip h7 (by omega),putAt_skip h8 (by omega),putAt_skip h9 (by omega),putAt_skip h10 (by omega),putAt_skip h11 (by omega)]
 exact (by rw [putAt_here h])
theorem put_row13 {x0 x1 x2 x3 x4 x5 x6 x7 x8 x9 x10 x11 x12 x14 x15 s:List UInt8} (h0:x0.length=100) (h1:x1.length=8) (h2:x2.length=8) (h3:x3.length=8) (h4:x4.length=12) (h5:x5.length=12) (h6:x6.length=8) (h7:x7.length=1) (h8:x8.length=100) (h9:x9.length=8) (h10:x10.length=32) (h11:x11.length=32) (h12:x12.length=8) (h:s.length≤8):putAt (rowF x0 x1 x2 x3 x4 x5 x6 x7 x8 x9 x10 x11 x12 (List.replicate 8 0) x14 x15) 337 s=rowF x0 x1 x2 x3 x4 x5 x6 x7 x8 x9 x10 x11 x12 (s++List.replicate (8 - s.length) 0) x14 x15:=by
 unfold rowF
 rw [putAt_skip h0 (by omega),putAt_skip h1 (by omega),putAt_skip h2 (by omega),putAt_skip h3 (by omega),putAt_skip h4 (by omega),putAt_skip h5 (by omega),putAt_skip h6 (by omega),putAt_skip h7 (by omega),putAt_skip h8 (by omega),putAt_skip h9 (by omega),putAt_skip h10 (by omega),putAt_skip h11 (by omega),putAt_skip h12 (by omega)]
 exact (by rw [putAt_here h])
theorem put_row14 {x0 x1 x2 x3 x4 x5 x6 x7 x8 x9 x10 x11 x12 x13 x15 s:List UInt8} (h0:x0.length=100) (h1:x1.length=8) (h2:x2.length=8) (h3:x3.length=8) (h4:x4.length=12) (h5:x5.length=12) (h6:x6.length=8) (h7:x7.length=1) (h8:x8.length=100) (h9:x9.length=8) (h10:x10.length=32) (h11:x11.length=32) (h12:x12.length=8) (h13:x13.length=8) (h:s.length≤155):putAt (rowF x0 x1 x2 x3 x4 x5 x6 x7 x8 x9 x10 x11 x12 x13 (List.replicate 155 0) x15) 345 s=rowF x0 x1 x2 x3 x4 x5 x6 x7 x8 x9 x10 x11 x12 x13 (s++List.replicate (155 - s.length) 0) x15:=by
 unfold rowF
 rw [putAt_skip h0 (by omega),putAt_skip h1 (by omega),putAt_skip h2 (by omega),putAt_skip h3 (by omega),putAt_skip h4 (by omega),putAt_skip h5 (by omega),putAt_skip h6 (by omega),putAt_skip h7 (by omega),putAt_skip h8 (by omega),putAt_skip h9 (by omega),putAt_skip h10 (by omega),putAt_skip h11 (by omega),putAt_skip h12 (by omega),putAt_skip h13 (by omega)]
 exact (by rw [putAt_here h])
def bodyP (d:Nat) (r:RawL):List UInt8:=rowF (txtG r.name 100) (numG r.mode 8 (d==3)) (numG r.uid 8 (d==3)) (numG r.gid 8 (d==3)) (numG r.size 12 (d==3)) (numG r.time 12 (d==3)) (List.replicate 8 0) [r.kind] (txtG r.link 100) (magicL d) (txtG r.user 32) (txtG r.group 32) (devG d r.major) (devG d r.minor) (txtG r.front 155) (List.replicate 12 0)
theorem bodyL_row (d:Nat) (r:RawL):bodyL d r=rowF (txtG r.name 100) (numG r.mode 8 (d==3)) (numG r.uid 8 (d==3)) (numG r.gid 8 (d==3)) (numG r.size 12 (d==3)) (numG r.time 12 (d==3)) (List.replicate 8 32) [r.kind] (txtG r.link 100) (magicL d) (txtG r.user 32) (txtG r.group 32) (devG d r.major) (devG d r.minor) (txtG r.front 155) (List.replicate 12 0):=rfl
theorem fit0 {s:List UInt8} {n:Nat} (h:s.length=n):s++List.replicate (n - s.length) 0=s:=by rw [h,Nat.sub_self,List.replicate_zero,List.append_nil]
theorem hdrM_body {d:Nat} {r:RawL} (h1:1≤d∧d≤4) (hb:bearsL d r) (hn:numsOk d r=true) (ht:txtsOk r=true):hdrM d r=bodyP d r:=by
 have w:=goodL.wide hn ht
 unfold txtsOk at ht
 simp only [Bool.and_eq_true] at ht
 obtain ⟨t1,t2,t3,t4,t5⟩:=ht
 have u1:=(txtOk_iff.1 t1).1
 have u2:=(txtOk_iff.1 t2).1
 have u3:=(txtOk_iff.1 t3).1
 have u4:=(txtOk_iff.1 t4).1
 have u5:=(txtOk_iff.1 t5).1
 have z0:∀ n,(List.replicate n (0:UInt8)).length=n:=fun n=>List.length_replicate
 have w8:=w.h8
 have w10:=w.h10
 have w11:=w.h11
 have w14:=w.h14
 have eT:hdrT r 5=rowF (txtG r.name 100) (List.replicate 8 0) (List.replicate 8 0) (List.replicate 8 0) (List.replicate 12 0) (List.replicate 12 0) (List.replicate 8 0) (List.replicate 1 0) (txtG r.link 100) (List.replicate 8 0) (txtG r.user 32) (txtG r.group 32) (List.replicate 8 0) (List.replicate 8 0) (txtG r.front 155) (List.replicate 12 0):=by
  show putAt (putAt (putAt (putAt (putAt (List.replicate 512 0) 0 r.name) 157 r.link) 265 r.user) 297 r.group) 345 r.front=_
  rw [zeros_row,put_row0 u1,txtG_put t1,put_row8 w.h0 (z0 _) (z0 _) (z0 _) (z0 _) (z0 _) (z0 _) (z0 _) u2,txtG_put t2,put_row10 w.h0 (z0 _) (z0 _) (z0 _) (z0 _) (z0 _) (z0 _) (z0 _) w8 (z0 _) u3,txtG_put t3,put_row11 w.h0 (z0 _) (z0 _) (z0 _) (z0 _) (z0 _) (z0 _) (z0 _) w8 (z0 _) w10 u4,txtG_put t4,put_row14 w.h0 (z0 _) (z0 _) (z0 _) (z0 _) (z0 _) (z0 _) (z0 _) w8 (z0 _) w10 w11 (z0 _) (z0 _) u5,txtG_put t5]
 have e5:hdrN d r 5=rowF (txtG r.name 100) (numG r.mode 8 (d==3)) (numG r.uid 8 (d==3)) (numG r.gid 8 (d==3)) (numG r.size 12 (d==3)) (numG r.time 12 (d==3)) (List.replicate 8 0) (List.replicate 1 0) (txtG r.link 100) (List.replicate 8 0) (txtG r.user 32) (txtG r.group 32) (List.replicate 8 0) (List.replicate 8 0) (txtG r.front 155) (List.replicate 12 0):=by
  show putAt (putAt (putAt (putAt (putAt (hdrT r 5) 100 (numG r.mode 8 (d==3))) 108 (numG r.uid 8 (d==3))) 116 (numG r.gid 8 (d==3))) 124 (numG r.size 12 (d==3))) 136 (numG r.time 12 (d==3))=_
  rw [eT,put_row1 w.h0 (Nat.le_of_eq w.h1),fit0 w.h1,put_row2 w.h0 w.h1 (Nat.le_of_eq w.h2),fit0 w.h2,put_row3 w.h0 w.h1 w.h2 (Nat.le_of_eq w.h3),fit0 w.h3,put_row4 w.h0 w.h1 w.h2 w.h3 (Nat.le_of_eq w.h4),fit0 w.h4,put_row5 w.h0 w.h1 w.h2 w.h3 w.h4 (Nat.le_of_eq w.h5),fit0 w.h5]
 have eN:hdrN d r (nMany d)=rowF (txtG r.name 100) (numG r.mode 8 (d==3)) (numG r.uid 8 (d==3)) (numG r.gid 8 (d==3)) (numG r.size 12 (d==3)) (numG r.time 12 (d==3)) (List.replicate 8 0) (List.replicate 1 0) (txtG r.link 100) (List.replicate 8 0) (txtG r.user 32) (txtG r.group 32) (devG d r.major) (devG d r.minor) (txtG r.front 155) (List.replicate 12 0):=by
  have v12:=w.h12
  have v13:=w.h13
  unfold nMany
  unfold devG at v12 v13 ⊢
  by_cases hd:d=1
  ·rw [if_pos hd,if_pos hd,if_pos hd,e5]
  ·rw [if_neg hd] at v12 v13
   rw [if_neg hd,if_neg hd,if_neg hd]
   show putAt (putAt (hdrN d r 5) 329 (numG r.major 8 (d==3))) 337 (numG r.minor 8 (d==3))=_
   rw [e5,put_row12 w.h0 w.h1 w.h2 w.h3 w.h4 w.h5 (z0 _) (z0 _) w8 (z0 _) w10 w11 (Nat.le_of_eq v12),fit0 v12,put_row13 w.h0 w.h1 w.h2 w.h3 w.h4 w.h5 (z0 _) (z0 _) w8 (z0 _) w10 w11 v12 (Nat.le_of_eq v13),fit0 v13]
 have v12:=w.h12
 have v13:=w.h13
 have eK:hdrK d r=rowF (txtG r.name 100) (numG r.mode 8 (d==3)) (numG r.uid 8 (d==3)) (numG r.gid 8 (d==3)) (numG r.size 12 (d==3)) (numG r.time 12 (d==3)) (List.replicate 8 0) [r.kind] (txtG r.link 100) (List.replicate 8 0) (txtG r.user 32) (txtG r.group 32) (devG d r.major) (devG d r.minor) (txtG r.front 155) (List.replicate 12 0):=by
  unfold hdrK
  rw [eN,set_putAt _ (by unfold rowF;simp only [List.length_append,w.h0,w.h1,w.h2,w.h3,w.h4,w.h5,z0];omega),put_row7 w.h0 w.h1 w.h2 w.h3 w.h4 w.h5 (z0 _) (s:=[r.kind]) (by simp)]
  rfl
 unfold hdrM bodyP
 rw [eK]
 by_cases hd:d=1
 ·subst hd
  rw [show magicP 1=[] from rfl,putAt_nil]
  rfl
 ·rw [show magicP d=magicL d from if_neg hd,put_row9 w.h0 w.h1 w.h2 w.h3 w.h4 w.h5 (z0 _) rfl w8 (Nat.le_of_eq w.h9),fit0 w.h9]
end Go.Proofs.YtdjcjaidklgamaaGreatDoor
end
section
namespace Go.Proofs.YtdjcjaidklgamaaGreatDoor
open Go.RowKit Go.Joins Go.Lib
set_option linter.unusedVariables false
set_option linter.unusedSimpArgs false
theorem byteCells_append (a b:List UInt8):byteCells (a++b)=byteCells a++byteCells b:=by unfold byteCells;rw [List.map_append]
theorem byteCells_take (a:List UInt8) (k:Nat):(byteCells a).take k=byteCells (a.take k):=by unfold byteCells;rw [List.map_take]
theorem byteCells_drop (a:List UInt8) (k:Nat):(byteCells a).drop k=byteCells (a.drop k):=by unfold byteCells;rw [List.map_drop]
def RowIs (W:World) (B:Nat) (t:TypeId) (F:List UInt8):Prop:=W.heap[B]?=some (.cells (byteCells F).toArray t (0,0))
theorem RowIs.lt {W:World} {B:Nat} {t:TypeId} {F:List UInt8} (h:RowIs W B t F):B<W.heap.size:=(Array.getElem?_eq_some_iff.1 h).1
theorem RowIs.below {W W':World} {B:Nat} {t:TypeId} {F:List UInt8} (h:RowIs W B t F) (hb:Below W.heap.size W W'):RowIs W' B t F :=
 (hb.block B (Array.getElem?_eq_some_iff.1 h).1).trans h
theorem rowIs_set {w:World} {g:Nat} {t:TypeId} {F F':List UInt8} (h:RowIs w g t F):RowIs (w.setRow g (byteCells F').toArray) g t F':=by
 unfold RowIs at h ⊢
 exact setRow_heap w g _ _ t (0,0) h
theorem rowIs_new (w:World) (t:TypeId):RowIs (w.alloc (.cells (Array.replicate 512 (.int .u8 0)) t)) w.heap.size t (List.replicate 512 0):=by
 unfold RowIs
 rw [heap_alloc_new w _,show (Array.replicate 512 (Value.int .u8 0))=(byteCells (List.replicate 512 0)).toArray by
  apply Array.toList_inj.1
  unfold byteCells
  rw [Array.toList_replicate,List.map_replicate]
  rfl]
theorem RawAt.setRow {w:World} {b g:Nat} {r:RawL} (h:RawAt w b r) (hne:b≠g) (cs:Array Value):RawAt (w.setRow g cs) b r:=by
 unfold RawAt at h ⊢
 simp only [cell_setRow_other w g cs ⟨b,_,none⟩ hne]
 exact h
theorem run_copy_put {P:Program} (w:World) (dT sT ty elem:TypeId) (g o dLen dCap:Nat) (D F:List UInt8) (t:TypeId)
  (hu:P.underlying dT=some (.slice elem)) (hs:(P.info? elem).map (·.size)=some 1) (hg:RowIs w g t F) (hle:D.length≤dLen) (hfit:o+D.length≤F.length) :
  (Builtin.copy_ #[dT,sT] ty #[.slice (some ⟨g,o,none⟩) dLen dCap,.string (mkS D)]).run P w =
   .ok (.int .i64 (D.length:Int)) (w.setRow g (byteCells (putAt F o D)).toArray):=by
 have hsz:=mkS_size D
 have h:=run_copy_row_string (P:=P) w dT sT ty elem g o dLen dCap (mkS D) (byteCells F).toArray t hu hs hg (by omega) (by rw [List.size_toArray,byteCells_length];omega)
 rw [h,hsz,mkS_list]
 have e1:((byteCells F).toArray.toList.take o++byteCells D++(byteCells F).toArray.toList.drop (o+D.length)).toArray=(byteCells (putAt F o D)).toArray:=by
  unfold putAt
  rw [byteCells_append,byteCells_append,← byteCells_take F o,← byteCells_drop,List.append_assoc]
 rw [e1]
 rfl
theorem rowIs_cell {w:World} {g i:Nat} {t:TypeId} {F:List UInt8} (h:RowIs w g t F) (c:UInt8):w.setCell ⟨g,i,none⟩ (.int .u8 (c.toNat:Int))=w.setRow g (byteCells (F.set i c)).toArray:=by
 rw [setCell_eq_setRow w g i _ t _ _ h]
 congr 1
 unfold byteCells
 rw [List.setIfInBounds_toArray,List.map_set]
theorem rowIs_conv {w:World} {b:Nat} {t:TypeId} {F:List UInt8} (h:RowIs w b t F) (n cap:Nat) (hn:F.length=n):(convert 67 9 (.slice (some ⟨b,0,none⟩) n cap)).run Tryz.prog w=.ok (.string (mkS F)) w:=by
 have:=run_convert_bytes_arg (P:=Tryz.prog) w 67 5 Tryz.underlying67 Tryz.underlying5 b 0 n cap (F.map fun c=>(c.toNat:Int)) (by rw [List.length_map];exact hn) (fun i hi=>by
  rw [show 0+i=i by omega,cell_of_row w b i _ t (0,0) h]
  unfold byteCells
  rw [List.getElem?_toArray,List.getElem?_map,List.getD_eq_getElem?_getD,List.getElem?_map]
  rw [List.getElem?_eq_getElem (by omega)];rfl) 9 Tryz.underlying9
 rw [this]
 have e:strOfNums (F.map fun c=>(c.toNat:Int))=mkS F:=by
  rw [← mkS_self (strOfNums _),strOfNums_data,List.map_map]
  have hid:((fun n:Int=>UInt8.ofNat n.toNat) ∘ fun c:UInt8=>(c.toNat:Int))=id:=by
   funext c
   simp only [Function.comp,Int.toNat_natCast,id,UInt8.ofNat_toNat]
  rw [hid,List.map_id]
 rw [e]
theorem five {p:Nat→Prop} (h0:p 0) (h1:p 1) (h2:p 2) (h3:p 3) (h4:p 4):∀ k,k<5→p k:=by
 intro k hk
 obtain rfl|rfl|rfl|rfl|rfl:k=0∨k=1∨k=2∨k=3∨k=4:=by omega
 all_goals assumption
theorem seven {p:Nat→Prop} (h0:p 0) (h1:p 1) (h2:p 2) (h3:p 3) (h4:p 4) (h5:p 5) (h6:p 6):∀ k,k<7→p k:=by
 intro k hk
 obtain rfl|rfl|rfl|rfl|rfl|rfl|rfl:k=0∨k=1∨k=2∨k=3∨k=4∨k=5∨k=6:=by omega
 all_goals assumption
theorem txt_index (b:Nat) (W:World):∀ k:Nat,k<5→(Instr.index 176 (.agg (txtRow b)) (.int .i64 (k:Int))).run Tryz.prog W=.ok (.agg #[.pointer (some ⟨b,k,none⟩),.int .i64 (tAt k),.int .i64 (tSz k)]) W :=
 five (by kernel_rfl) (by kernel_rfl) (by kernel_rfl) (by kernel_rfl) (by kernel_rfl)
theorem tFit:∀ k,k<5→tAt k+tSz k≤512:=five (by decide) (by decide) (by decide) (by decide) (by decide)
theorem tMin:∀ k,k<5→8≤tSz k:=five (by decide) (by decide) (by decide) (by decide) (by decide)
theorem nFit:∀ k,k<7→nAt k+nSz k≤512:=seven (by decide) (by decide) (by decide) (by decide) (by decide) (by decide) (by decide)
theorem nSz_is:∀ k,k<7→nSz k=8∨nSz k=12:=seven (by decide) (by decide) (by decide) (by decide) (by decide) (by decide) (by decide)
theorem RawAt.txt {w:World} {b:Nat} {r:RawL} (h:RawAt w b r):∀ k,k<5→w.cell? ⟨b,k,none⟩=some (.string (mkS (tVal r k))):=by
 obtain ⟨c0,c1,c2,c3,c4,_⟩:=h
 exact five c0 c1 c2 c3 c4
theorem RawAt.num {w:World} {b:Nat} {r:RawL} (h:RawAt w b r):∀ k,k<7→w.cell? ⟨b,6+k,none⟩=some (.int .i64 (nVal r k)):=by
 obtain ⟨_,_,_,_,_,_,c0,c1,c2,c3,c4,c5,c6⟩:=h
 exact seven c0 c1 c2 c3 c4 c5 c6
theorem num_cells {W:World} {nb b:Nat} {t:TypeId} (h:W.heap[nb]?=some (.cells (numRow b) t (0,0))):∀ k,k<7 →
  W.cell? ⟨nb,k * 3,none⟩=some (.pointer (some ⟨b,6+k,none⟩))∧W.cell? ⟨nb,k * 3+1,none⟩=some (.int .i64 (nAt k))∧W.cell? ⟨nb,k * 3+2,none⟩=some (.int .i64 (nSz k)):=by
 have g:∀ i,W.cell? ⟨nb,i,none⟩=(numRow b)[i]?:=fun i=>by simp only [World.cell?,h];rfl
 refine seven ?_ ?_ ?_ ?_ ?_ ?_ ?_ <;> refine ⟨?_,?_,?_⟩ <;> (rw [g];rfl)
theorem nVal_i64 {r:RawL} (h:intsL r):∀ k,k<7→i64 (nVal r k):=by
 obtain ⟨h0,h1,h2,h3,h4,h5,h6⟩:=h
 exact seven h0 h1 h2 h3 h4 h5 h6
theorem txts_all {r:RawL}:txtsOk r=true↔∀ k,k<5→txtOk (tVal r k) (tSz k)=true:=by
 unfold txtsOk
 simp only [Bool.and_eq_true]
 constructor
 ·rintro ⟨h0,h1,h2,h3,h4⟩
  exact five h0 h1 h2 h3 h4
 ·intro h
  exact ⟨h 0 (by omega),h 1 (by omega),h 2 (by omega),h 3 (by omega),h 4 (by omega)⟩
theorem nums_all {d:Nat} {r:RawL}:numsOk d r=true↔∀ k,k<nMany d→numOk (nVal r k) (nSz k) (d==3)=true:=by
 unfold numsOk nMany
 simp only [Bool.and_eq_true,Bool.or_eq_true,decide_eq_true_iff]
 constructor
 ·rintro ⟨h0,h1,h2,h3,h4,h5⟩
  by_cases hd:d=1
  ·rw [if_pos hd]
   exact five h0 h1 h2 h3 h4
  ·rw [if_neg hd]
   obtain ⟨h5,h6⟩:=h5.resolve_left hd
   exact seven h0 h1 h2 h3 h4 h5 h6
 ·intro h
  have h5:5≤if d=1 then 5 else 7:=by split <;> omega
  refine ⟨h 0 (by omega),h 1 (by omega),h 2 (by omega),h 3 (by omega),h 4 (by omega),?_⟩
  by_cases hd:d=1
  ·exact Or.inl hd
  ·rw [if_neg hd] at h
   exact Or.inr ⟨h 5 (by omega),h 6 (by omega)⟩
end Go.Proofs.YtdjcjaidklgamaaGreatDoor
end
section
namespace Go.Proofs.YtdjcjaidklgamaaGreatDoor
open Go.RowKit
set_option linter.unusedVariables false
set_option linter.unusedSimpArgs false
theorem fieldS_list (s:ByteArray):(fieldS s).data.toList=fieldL s.data.toList:=by
 unfold fieldS fieldL;rw [Lib.extract_data]
theorem rightP_iff (s:ByteArray):rightP s↔rightL s.data.toList:=by
 unfold rightP rightL readS sumH
 rw [fieldS_list]
 constructor
 ·rintro ⟨h1,h2⟩;exact ⟨by simpa using h1,h2⟩
 ·rintro ⟨h1,h2⟩;exact ⟨by simpa using h1,h2⟩
theorem sealB_mk (s:ByteArray):sealB s=mkS (sealL s.data.toList):=rfl
theorem sealB_mkS (l:List UInt8):sealB (mkS l)=mkS (sealL l):=by rw [sealB_mk,mkS_list]
theorem seal_mkS (l:List UInt8) (h:l.length=512) (w:World) :
  Calls Tryz.prog 116 #[.string (mkS l)] w fun e w'=>e=.returned (.tuple #[.string (mkS (sealL l)),.nilIface])∧Below w.heap.size w w':=by
 have:=seal_ok (mkS l) w (by rw [mkS_size,h])
 rwa [sealB_mkS] at this
theorem right_mkS (l:List UInt8) (b:Bool) (hb:b=true↔rightL l) (hl:l.length=512) (w:World) :
  Calls Tryz.prog 124 #[.string (mkS l)] w fun e w'=>e=.returned (.bool b)∧Below w.heap.size w w':=by
 have hi:rightP (mkS l)↔rightL l:=by rw [rightP_iff,mkS_list]
 cases b with
 | true=>exact right_yes _ w (hi.2 (hb.1 rfl))
 | false=>exact right_no _ w (by rw [mkS_size];omega) (fun h=>by have:=hb.2 (hi.1 h);cases this)
end Go.Proofs.YtdjcjaidklgamaaGreatDoor
end
section
namespace Go.Proofs.YtdjcjaidklgamaaGreatDoor
open Go.RowKit Go.Joins
set_option linter.unusedVariables false
theorem str_mk (xs:List Int):strOfNums xs=mkS (xs.map u8):=by rw [← mkS_self (strOfNums xs),strOf_list]
theorem wr_ok {n:Int} {W:Nat} {b:Bool} (hW:W=8∨W=12) (h:numOk n W b=true):Wr n W b 0 (mkS (numG n W b)):=by
 unfold numG
 by_cases ho:octOk n W=true
 ·rw [if_pos ho,← str_mk]
  unfold octOk at ho
  rw [Bool.and_eq_true,decide_eq_true_iff,decide_eq_true_iff] at ho
  exact .oct n W b (by omega) (by omega) ho.1 ((mostF_lt n W (by omega) (by omega) ho.1).2 ho.2)
 ·unfold numOk at h
  rw [Bool.eq_false_iff.2 ho,Bool.false_or] at h
  rw [if_neg ho,if_pos h,← str_mk]
  unfold binOk at h
  rw [Bool.and_eq_true,Bool.and_eq_true,decide_eq_true_iff,Bool.or_eq_true,decide_eq_true_iff,Bool.and_eq_true,decide_eq_true_iff,decide_eq_true_iff] at h
  obtain ⟨rfl,h1,h2⟩:=h
  refine .bin n W h1 (by omega) ?_ fun h8=>?_
  ·by_cases hn:n<0
   ·exact Or.inl hn
   ·right
    rcases Int.lt_or_le (mostF W) n with h3|h3
    ·exact h3
    ·exact absurd (by unfold octOk;rw [Bool.and_eq_true,decide_eq_true_iff,decide_eq_true_iff];exact ⟨by omega,(mostF_lt n W (by omega) (by omega) (by omega)).1 h3⟩) ho
  ·rcases h2 with h2|h2
   ·exact absurd h8 h2
   ·exact h2
theorem wr_no {n:Int} {W:Nat} {b:Bool} (hW:W=8∨W=12) (h:¬ numOk n W b=true):Wr n W b 2 ByteArray.empty:=by
 unfold numOk at h
 rw [Bool.or_eq_true,not_or] at h
 obtain ⟨ho,hb⟩:=h
 have hr:n<0∨mostF W<n:=by
  by_cases hn:n<0
  ·exact Or.inl hn
  ·right
   rcases Int.lt_or_le (mostF W) n with h3|h3
   ·exact h3
   ·exact absurd (by unfold octOk;rw [Bool.and_eq_true,decide_eq_true_iff,decide_eq_true_iff];exact ⟨by omega,(mostF_lt n W (by omega) (by omega) (by omega)).1 h3⟩) ho
 by_cases hbb:b=false
 ·exact .no n W b (by omega) (by omega) hr (Or.inl hbb)
 ·have hbt:b=true:=by cases b <;> simp_all
  subst hbt
  unfold binOk at hb
  rw [Bool.and_eq_true,Bool.and_eq_true,decide_eq_true_iff,Bool.or_eq_true,decide_eq_true_iff,Bool.and_eq_true,decide_eq_true_iff,decide_eq_true_iff] at hb
  rcases hW with rfl|rfl
  ·exact .range n (by
    rcases Int.lt_or_le n (-36028797018963968) with h3|h3
    ·exact Or.inl h3
    ·rcases Int.lt_or_le 36028797018963967 n with h4|h4
     ·exact Or.inr h4
     ·exact absurd ⟨rfl,by omega,Or.inr ⟨h3,h4⟩⟩ hb)
  ·exact absurd ⟨rfl,by omega,Or.inl (by omega)⟩ hb
end Go.Proofs.YtdjcjaidklgamaaGreatDoor
end
section
namespace Go.Proofs.YtdjcjaidklgamaaGreatDoor
set_option linter.unusedVariables false
theorem sealL_congr {A F G D:List UInt8} (hA:A.length=148) (hF:F.length=8) (hG:G.length=8):sealL (A++(F++D))=sealL (A++(G++D)):=by
 have hs:sumC false (A++(F++D)) 512=sumC false (A++(G++D)) 512:=by
  refine sumC_congr false _ _ 512 fun k _ hn=>?_
  unfold bAt
  rw [List.getD_eq_getElem?_getD,List.getD_eq_getElem?_getD]
  by_cases hk:k<148
  ·rw [List.getElem?_append_left (by omega),List.getElem?_append_left (by omega)]
  ·have hk2:156≤k:=by omega
   rw [List.getElem?_append_right (by omega),List.getElem?_append_right (by omega),List.getElem?_append_right (by omega),List.getElem?_append_right (by omega),hF,hG]
 unfold sealL
 rw [hs,List.take_left' hA,List.take_left' hA]
 have d1:∀ X:List UInt8,X.length=8→(A++(X++D)).drop 156=D:=fun X hX=>by
  rw [← List.append_assoc,List.drop_left' (by rw [List.length_append];omega)]
 rw [d1 F hF,d1 G hG]
theorem seal_body {d:Nat} {r:RawL} (w:Wide d r):sealL (bodyP d r)=writeL d r:=by
 unfold writeL bodyP
 rw [bodyL_row]
 have e:∀ x0 x1 x2 x3 x4 x5 x6 x7 x8 x9 x10 x11 x12 x13 x14 x15:List UInt8,rowF x0 x1 x2 x3 x4 x5 x6 x7 x8 x9 x10 x11 x12 x13 x14 x15=(x0++(x1++(x2++(x3++(x4++x5)))))++(x6++(x7++(x8++(x9++(x10++(x11++(x12++(x13++(x14++x15))))))))):=by
  intros
  unfold rowF
  simp only [List.append_assoc]
 rw [e,e]
 exact sealL_congr (by simp only [List.length_append,w.h0,w.h1,w.h2,w.h3,w.h4,w.h5]) List.length_replicate List.length_replicate
end Go.Proofs.YtdjcjaidklgamaaGreatDoor
end
section
namespace Go.Proofs.YtdjcjaidklgamaaGreatDoor
open Go.RowKit Go.Joins
set_option linter.unusedVariables false
set_option linter.unusedSimpArgs false
theorem row_keep {w w':World} {B:Nat} {o:Obj} (hb:Below w.heap.size w w') (h:w.heap[B]?=some o):w'.heap[B]?=some o:=(hb.block B (Array.getElem?_eq_some_iff.1 h).1).trans h
theorem zeroBlock (w:World):(zeroValue 217).run Tryz.prog w=.ok (.agg (Array.replicate 512 (.int .u8 0))) w:=by kernel_rfl
theorem cut_hdr (W:World) (B:Nat) (a:Nat) (h:a<512):(Instr.sliceAt 217 (.pointer (some ⟨B,0,none⟩)) (some (.int .i64 (a:Int))) none none).run Tryz.prog W=.ok (.slice (some ⟨B,a,none⟩) (512 - a) (512 - a)) W:=by
 have hl:Tryz.prog.arrayLen 217=512:=by kernel_rfl
 have he:Tryz.prog.elem 217=5:=by kernel_rfl
 have hs:(sizeOf 5).run Tryz.prog W=.ok 1 W:=by kernel_rfl
 have h1:=run_sliceAt_array_l (P:=Tryz.prog) W 217 ⟨B,0,none⟩ (by kernel_rfl) .i64 (a:Int) (by omega) (by rw [hl];omega)
 rw [h1,he,hs,hl]
 simp [Result.andThen,slicedAt,Addr.add]
 rw [if_neg (by omega)]
 split <;> simp_all
inductive WriteIs:Int→RawL→List UInt8→Int→Prop
 | arg (d:Int) (r:RawL):(d<1∨4<d∨r.kind=0)→WriteIs d r [] 1
 | range (d:Int) (r:RawL):1≤d∧d≤4→r.kind≠0→¬ goodL d.toNat r→WriteIs d r [] 2
 | ok (d:Int) (r:RawL):1≤d→goodL d.toNat r→WriteIs d r (writeL d.toNat r) 0
def WritePost (d:Int) (r:RawL) (w:World) (e:Ending) (w':World):Prop:=∃ s k,WriteIs d r s k∧e=.returned (.tuple #[.string (mkS s),errV k])∧Below w.heap.size w w'
theorem fail_text {d:Int} {r:RawL} (hd:1≤d∧d≤4) (hk:r.kind≠0) (k:Nat) (h5:k<5) (h:¬ txtOk (tVal r k) (tSz k)=true):WriteIs d r [] 2 :=
 .range d r hd hk fun g=>h (txts_all.1 g.2.2.2.2 k h5)
theorem fail_num {d:Int} {r:RawL} (hd:1≤d∧d≤4) (hk:r.kind≠0) (k:Nat) (hm:k<nMany d.toNat) (h:¬ numOk (nVal r k) (nSz k) (d.toNat==3)=true):WriteIs d r [] 2 :=
 .range d r hd hk fun g=>h (nums_all.1 g.2.2.2.1 k hm)
theorem within_bears {d:Int} {r:RawL} (hd:1≤d∧d≤4):withinL d r=r↔bearsL d.toNat r:=by
 obtain ⟨a0,a1,a2,a3,a4,a5,a6,a7,a8,a9,a10,a11,a12⟩:=r
 obtain rfl|rfl|rfl|rfl:d=1∨d=2∨d=3∨d=4:=by omega
 ·simp [withinL,bearsL,eq_comm]
 ·simp [withinL,bearsL]
 ·simp [withinL,bearsL,eq_comm]
 ·simp [withinL,bearsL]
theorem write_done {d:Int} {r:RawL} (hd:1≤d∧d≤4) (hk:r.kind≠0) (hw:withinL d r=r) (ht:∀ k,k<5→txtOk (tVal r k) (tSz k)=true) (hn:∀ k,k<nMany d.toNat→numOk (nVal r k) (nSz k) (d.toNat==3)=true) :
  sealL (hdrM d.toNat r)=writeL d.toNat r∧WriteIs d r (writeL d.toNat r) 0:=by
 have g:goodL d.toNat r:=⟨by omega,hk,(within_bears hd).1 hw,nums_all.2 hn,txts_all.2 ht⟩
 exact ⟨by rw [hdrM_body g.1 g.2.2.1 g.2.2.2.1 g.2.2.2.2];exact seal_body (goodL.wide g.2.2.2.1 g.2.2.2.2),.ok d r hd.1 g⟩
theorem magic_any (d:Int) (hd:1≤d∧d≤4) (w:World) :
  Calls Tryz.prog 153 #[.int .i64 d] w fun e w'=>e=.returned (.string (mkS (magicP d.toNat)))∧Below w.heap.size w w':=by
 obtain rfl|rfl|rfl|rfl:d=1∨d=2∨d=3∨d=4:=by omega
 all_goals
  go_enter Tryz.func153,Tryz.ntmps153
  go_wp2
  go_ret
  exact ⟨rfl,Below.refl _ _⟩
theorem index_any (S:List UInt8):decide (0≤Lib.indexByte S 0)=S.any (·==0):=by
 induction S with
 | nil=>rfl
 | cons b s ih =>
  rw [List.any_cons,← ih,Lib.indexByte]
  by_cases h:b=0
  ·subst h;simp
  ·have h1:(b==0)=false:=by simpa using h
   rw [h1]
   by_cases h3:Lib.indexByte s 0=-1
   ·rw [h3];simp
   ·have h4:(Lib.indexByte s 0==-1)=false:=by simpa using h3
    rw [h4]
    simp only [Bool.false_eq_true,if_false,Bool.false_or]
    by_cases h5:0≤Lib.indexByte s 0
    ·rw [decide_eq_true h5,decide_eq_true (by omega)]
    ·rw [decide_eq_false h5,decide_eq_false (by omega)]
theorem contains_zero (V:List UInt8) (w:World) :
  Calls Tryz.prog 89 #[.string (mkS V),.string ⟨#[0]⟩] w fun e w'=>e=.returned (.bool (V.any (·==0)))∧w'=w:=by
 refine (Tryz.strings_Contains_one (mkS V) 0 w).mono fun e w' ⟨he,hw⟩=>⟨?_,hw⟩
 rw [he,mkS_list,index_any]
theorem txt_zero {V:List UInt8} {n:Nat} {p:Prop} (h:txtOk V n=true) (hz:V.any (·==0)=true):p:=by
 unfold txtOk at h
 rw [hz] at h
 simp at h
set_option maxRecDepth 100000 in
set_option maxHeartbeats 4000000 in
theorem write_fit (d:Int) (r:RawL) (hd:¬ d<1) (hd4:¬ 4<d) (hk:r.kind≠0) (w:World) (hw:withinL d r=r) (hz:∀ k,k<5→(tVal r k).length≤1000000) (hi:intsL r) :
  Calls Tryz.prog 114 #[.int .i64 d,rawV r] w (WritePost d r w):=by
 have FT:=Lib.hid (fun k h5 h=>fail_text (d:=d) (r:=r) ⟨by omega,by omega⟩ hk k h5 h)
 have FN:=Lib.hid (fun k hm h=>fail_num (d:=d) (r:=r) ⟨by omega,by omega⟩ hk k hm h)
 have OK:=Lib.hid (write_done (d:=d) (r:=r) ⟨by omega,by omega⟩ hk hw)
 have hC:=Lib.hid (RawAt.new w r 117)
 have hB:=Lib.hid (below_alloc1 w (.cells (#[.string (mkS r.name),.string (mkS r.link),.string (mkS r.user),.string (mkS r.group),.string (mkS r.front),.int .u8 (r.kind.toNat:Int),.int .i64 r.mode,.int .i64 r.uid,.int .i64 r.gid,.int .i64 r.size,.int .i64 r.time,.int .i64 r.major,.int .i64 r.minor]) 117))
 have hlt:=Lib.hid hC.out.lt
 have C1:=Lib.hid (fun w=>withinRaw_any d r w)
 have C2:=Lib.hid (fun b w=>texts_any b w)
 have C3:=Lib.hid contains_zero
 have Z:=Lib.hid zeroBlock
 have hG:=fun x y w=>raw_guard .neq x y r r w
 have hN:=fun w=>raw_neq r r w
 rw [decide_eq_true rfl] at hN
 have hkk:((r.kind.toNat:Int)==0)=false:=by
  rw [beq_eq_false_iff_ne];intro e;exact hk (UInt8.toNat_inj.1 (by show r.kind.toNat=0;omega))
 rw [hw] at C1
 clear hw hk
 unfold rawV at C1 hG hN ⊢
 go_enter Tryz.func114,Tryz.ntmps114
 go_wp2_with fail
 generalize (w.alloc (.cells #[.string (mkS r.name),.string (mkS r.link),.string (mkS r.user),.string (mkS r.group),.string (mkS r.front),.int .u8 (r.kind.toNat:Int),.int .i64 r.mode,.int .i64 r.uid,.int .i64 r.gid,.int .i64 r.size,.int .i64 r.time,.int .i64 r.major,.int .i64 r.minor] 117))=w1 at *
 have qC:=Lib.hid (fun d os=>hC.out.regrown d os)
 have u:∀ d os,RawAt (Sort.grow (redrawn w1 d) os) w.heap.size r:=fun d os=>qC.out d os
 unfold RawAt at u
 have u0:=fun d os=>(u d os).1
 have u1:=fun d os=>(u d os).2.1
 have u2:=fun d os=>(u d os).2.2.1
 have u3:=fun d os=>(u d os).2.2.2.1
 have u4:=fun d os=>(u d os).2.2.2.2.1
 have u5:=fun d os=>(u d os).2.2.2.2.2.1
 have u6:=fun d os=>(u d os).2.2.2.2.2.2.1
 have u7:=fun d os=>(u d os).2.2.2.2.2.2.2.1
 have u8:=fun d os=>(u d os).2.2.2.2.2.2.2.2.1
 have u9:=fun d os=>(u d os).2.2.2.2.2.2.2.2.2.1
 have u10:=fun d os=>(u d os).2.2.2.2.2.2.2.2.2.2.1
 have u11:=fun d os=>(u d os).2.2.2.2.2.2.2.2.2.2.2.1
 have u12:=fun d os=>(u d os).2.2.2.2.2.2.2.2.2.2.2.2
 clear u
 refine wp_region_quiet_below (by kernel_rfl) (by kernel_rfl) ?_
 repeat (go_big_quiet_step ((go_at_call 130;with_reducible exact Calls.regrown_of (C1.out _))))
 refine wpQuiet_nil ?_
 intro _ hw'
 obtain ⟨⟨dq,osq⟩,hw''⟩:=hw'
 subst hw''
 have hB2:=Lib.hid (hB.out.trans ((below_regrown w1 dq osq).mono hB.out.size))
 have hC2:=Lib.hid (hC.out.regrown dq osq)
 clear u0 u1 u2 u3 u4 u5 u6 u7 u8 u9 u10 u11 u12 hB hC qC hG hN C1 hlt
 dsimp only at *
 generalize Sort.grow (redrawn w1 dq) osq=w2 at *
 clear osq dq
 have hR2:=Lib.hid (rowIs_new w2 217)
 have hB3:=Lib.hid (hB2.out.alloc hB2.out.size (.cells (Array.replicate 512 (.int .u8 0)) 217))
 have hC3:=Lib.hid (hC2.out.below ((Below.refl w2.heap.size w2).alloc (Nat.le_refl _) (.cells (Array.replicate 512 (.int .u8 0)) 217)) hC2.out.lt)
 have hBB:=Lib.hid hB2.out.size
 have hbB:=Lib.hid hC2.out.lt
 go_wp2_with (first
  | refine wpList_alloc_row rfl _ rfl _ (Z.out _) ?_
  |(go_at_call 126;(with_reducible refine (C2.out _ _).mono ?_);rintro e w3 ⟨rfl,h3⟩;have hR3:=Lib.hid (hR2.out.below h3);have hB4:=Lib.hid (hB3.out.trans (h3.mono hB3.out.size));have hC4:=Lib.hid (hC3.out.below h3 hC3.out.lt);clear h3 hC3 hB3 hR2 hC2 hB2 C2 Z)
  | fail)
 generalize w2.heap.size=B at *
 have s0:=Lib.hid (show RowIs w3 B 217 (hdrT r 0) from hR3.out)
 clear hR3 w1 w2
 go_loopg [32] 5 (fun g s wr=>∃ k:Nat,k≤5∧5 - k≤g∧s=.int .i64 (k:Int)∧Aside (Below w.heap.size w wr∧RawAt wr w.heap.size r∧RowIs wr B 217 (hdrT r k)∧(hdrT r k).length=512∧∀ j,j<k→txtOk (tVal r j) (tSz j)=true))
 case atStart=>exact ⟨0,by omega,by omega,rfl,(show Aside _ from ⟨hB4.out,hC4.out,s0.out,List.length_replicate,fun j hj=>absurd hj (by omega)⟩)⟩
 case round =>
  obtain ⟨k,hk,hg,rfl,A⟩:=hrel
  by_cases hk5:k<5
  ·have hix:=fun W=>txt_index w.heap.size W k hk5
   have hV0:=hz k hk5
   have hfit:=tFit k hk5
   have hfit2:=tMin k hk5
   have hcell:=Lib.hid (A.out.2.1.txt k hk5)
   have hW0:=A.out.1.size
   generalize hVe:tVal r k=V at hV0 hcell
   generalize hae:tAt k=a at hix hfit
   generalize hne:tSz k=n at hix hfit hfit2
   have hE:=Lib.hid (And.intro hVe (And.intro hae hne))
   clear hVe hae hne
   have sV:=mkS_size V
   go_wp2_with fail
   have hF:=heap_alloc_new wr (.cells #[.pointer (some ⟨w.heap.size,k,none⟩),.int .i64 (a:Int),.int .i64 (n:Int)] 175)
   have hW:=Lib.hid ((Below.refl wr.heap.size wr).alloc (Nat.le_refl _) (.cells #[.pointer (some ⟨w.heap.size,k,none⟩),.int .i64 (a:Int),.int .i64 (n:Int)] 175))
   have f0:(wr.alloc (.cells #[.pointer (some ⟨w.heap.size,k,none⟩),.int .i64 (a:Int),.int .i64 (n:Int)] 175)).cell? ⟨wr.heap.size,0,none⟩=some (.pointer (some ⟨w.heap.size,k,none⟩)):=by simp only [World.cell?,hF];rfl
   have f1:(wr.alloc (.cells #[.pointer (some ⟨w.heap.size,k,none⟩),.int .i64 (a:Int),.int .i64 (n:Int)] 175)).cell? ⟨wr.heap.size,1,none⟩=some (.int .i64 (a:Int)):=by simp only [World.cell?,hF];rfl
   have f2:(wr.alloc (.cells #[.pointer (some ⟨w.heap.size,k,none⟩),.int .i64 (a:Int),.int .i64 (n:Int)] 175)).cell? ⟨wr.heap.size,2,none⟩=some (.int .i64 (n:Int)):=by simp only [World.cell?,hF];rfl
   have f3:=(hW.out.cell (p:=⟨w.heap.size,k,none⟩) A.out.2.1.lt).trans hcell.out
   have hBW:=Lib.hid (A.out.1.alloc A.out.1.size (.cells #[.pointer (some ⟨w.heap.size,k,none⟩),.int .i64 (a:Int),.int .i64 (n:Int)] 175))
   have hCW:=Lib.hid (A.out.2.1.below hW.out A.out.2.1.lt)
   have hRW:=Lib.hid (A.out.2.2.1.below hW.out)
   have hA2:=Lib.hid A.out.2.2.2
   clear A hF hcell
   generalize wr.alloc (.cells #[.pointer (some ⟨w.heap.size,k,none⟩),.int .i64 (a:Int),.int .i64 (n:Int)] 175)=W at *
   have g0:=fun d os=>cell_regrown f0 d os
   have g1:=fun d os=>cell_regrown f1 d os
   have g2:=fun d os=>cell_regrown f2 d os
   have g3:=fun d os=>cell_regrown f3 d os
   clear f0 f1 f2 f3
   have cz:=C3.out V
   generalize hzV:V.any (·==0)=z at cz
   have CZ:=Lib.hid cz
   have HZ:=Lib.hid hzV
   clear cz hzV
   by_cases hn:(n:Int)<(V.length:Int)
   ·refine wp_region_quiet_below (by kernel_rfl) (by kernel_rfl) ?_
    repeat (go_big_quiet_step ((go_at_call 89;with_reducible exact Calls.regrown_of ((CZ.out _).mono fun e w' ⟨he,hw⟩=>⟨he,by rw [hw];exact Below.refl _ _⟩))))
    refine wpQuiet_nil ?_
    intro _ hw'
    obtain ⟨⟨dq,osq⟩,hw''⟩:=hw'
    subst hw''
    have hq:=Lib.hid (hBW.out.trans ((below_regrown W dq osq).mono hBW.out.size))
    go_wp2
    go_ret2
    exact ⟨[],2,FT.out k hk5 (by rw [hE.out.1,hE.out.2.2];intro h;exact absurd (txtOk_iff.1 h).1 (by omega)),rfl,hq.out⟩
   ·cases z with
    | true =>
     refine wp_region_quiet_below (by kernel_rfl) (by kernel_rfl) ?_
     repeat (go_big_quiet_step ((go_at_call 89;with_reducible exact Calls.regrown_of ((CZ.out _).mono fun e w' ⟨he,hw⟩=>⟨he,by rw [hw];exact Below.refl _ _⟩))))
     refine wpQuiet_nil ?_
     intro _ hw'
     obtain ⟨⟨dq,osq⟩,hw''⟩:=hw'
     subst hw''
     have hq:=Lib.hid (hBW.out.trans ((below_regrown W dq osq).mono hBW.out.size))
     go_wp2
     go_ret2
     exact ⟨[],2,FT.out k hk5 (by rw [hE.out.1,hE.out.2.2];intro h;exact txt_zero h HZ.out),rfl,hq.out⟩
    | false =>
     refine wp_region_quiet_below (by kernel_rfl) (by kernel_rfl) ?_
     repeat (go_big_quiet_step ((go_at_call 89;with_reducible exact Calls.regrown_of ((CZ.out _).mono fun e w' ⟨he,hw⟩=>⟨he,by rw [hw];exact Below.refl _ _⟩))))
     refine wpQuiet_nil ?_
     intro _ hw'
     obtain ⟨⟨dq,osq⟩,hw''⟩:=hw'
     subst hw''
     have hBq:=Lib.hid (hBW.out.trans ((below_regrown W dq osq).mono hBW.out.size))
     have hCq:=Lib.hid (hCW.out.regrown dq osq)
     have hRq:=Lib.hid (hRW.out.below (below_regrown W dq osq))
     have q0:=g0 dq osq
     have q1:=g1 dq osq
     have q3:=g3 dq osq
     clear g0 g1 g2 g3 hBW hCW hRW
     dsimp only at *
     generalize Sort.grow (redrawn W dq) osq=W2 at *
     clear dq osq
     go_wp2_with fail
     have hcut:=fun W=>cut_hdr W B a (by omega)
     go_still_tail 7,(by kernel_rfl)
     change wpList _ _ _ _ _ W2.drew
     have hBd:=Lib.hid hBq.out.drew
     have hCd:=Lib.hid (hCq.out.below (Below.refl _ _).drew hCq.out.lt)
     have hRd:=Lib.hid (hRq.out.below (Below.refl _ _).drew)
     clear q0 q1 q3 hBq hCq hRq
     generalize W2.drew=W3 at *
     have hcp:=run_copy_put (P:=Tryz.prog) W3 67 9 3 5 B a (512 - a) (512 - a) V (hdrT r k) 217 Tryz.underlying67 (by kernel_rfl) hRd.out (by omega) (by rw [hA2.out.1];omega)
     go_wp2
     go_roundg (5 - (k+1))
     case measure=>omega
     case rel =>
      have e:hdrT r (k+1)=putAt (hdrT r k) a V:=by rw [hdrT,hE.out.1,hE.out.2.1]
      have ok:txtOk V n=true:=by
       unfold txtOk
       rw [Bool.and_eq_true,decide_eq_true_iff,HZ.out]
       exact ⟨by omega,rfl⟩
      refine ⟨k+1,by omega,by omega,rfl,(show Aside _ from ⟨below_setRow hBd.out (Nat.le_of_lt hbB.out) _,hCd.out.setRow (Nat.ne_of_lt hbB.out) _,by rw [e];exact rowIs_set hRd.out,by rw [e,putAt_length (by rw [hA2.out.1];omega)];exact hA2.out.1,fun j hj=>?_⟩)⟩
      by_cases hjk:j=k
      ·subst hjk;rw [hE.out.1,hE.out.2.2];exact ok
      ·exact hA2.out.2 j (by omega)
  ·obtain rfl:k=5:=by omega
   have hBa:=Lib.hid A.out.1
   have hCa:=Lib.hid A.out.2.1
   have hRa:=Lib.hid A.out.2.2.1
   have hLa:=Lib.hid A.out.2.2.2
   clear A hz C3 s0 hB4 hC4
   obtain ⟨m,hm⟩:∃ m,nMany d.toNat=m:=⟨_,rfl⟩
   have hm7:m≤7:=by rw [← hm];unfold nMany;split <;> omega
   have C4:=Lib.hid (numbers_any w.heap.size d m (by
    rw [← hm];unfold nMany
    by_cases h1:d=1
    ·exact Or.inl ⟨h1,by rw [if_pos (by omega)]⟩
    ·exact Or.inr ⟨h1,by rw [if_neg (by omega)]⟩))
   have HM:=Lib.hid hm
   clear hm
   go_wp2_with (first
    |(go_at_call 128;(with_reducible refine (C4.out _).mono ?_);rintro e w4 ⟨rfl,hN4,h4⟩;have hB4:=Lib.hid (hBa.out.trans (h4.mono hBa.out.size));have hC4:=Lib.hid (hCa.out.below h4 hCa.out.lt);have hR4:=Lib.hid (hRa.out.below h4);have hNN:=Lib.hid hN4;have hNb:=Lib.hid hBa.out.size;have hBw:=Lib.hid hRa.out.lt;clear h4 hN4 hBa hCa hRa C4)
    | fail)
   generalize wr.heap.size=NB at *
   obtain ⟨b,hb⟩:∃ b,(d==3)=b:=⟨_,rfl⟩
   have hb2:(d.toNat==3)=b:=by
    rw [← hb]
    by_cases h3:d=3
    ·subst h3;rfl
    ·have h4:d.toNat≠3:=by omega
     rw [beq_eq_false_iff_ne.2 h3,beq_eq_false_iff_ne.2 h4]
   have HB:=Lib.hid hb2
   clear hb2
   have s0:=Lib.hid (show RowIs w4 B 217 (hdrN d.toNat r 0) from hR4.out)
   clear hR4
   go_loopg [63] 7 (fun g s wr=>∃ k:Nat,k≤m∧7 - k≤g∧s=.int .i64 (k:Int)∧Aside (Below w.heap.size w wr∧RawAt wr w.heap.size r∧RowIs wr B 217 (hdrN d.toNat r k)∧(hdrN d.toNat r k).length=512∧wr.heap[NB]?=some (.cells (numRow w.heap.size) 223 (0,0))∧∀ j,j<k→numOk (nVal r j) (nSz j) b=true))
   case atStart=>exact ⟨0,by omega,by omega,rfl,(show Aside _ from ⟨hB4.out,hC4.out,s0.out,hLa.out.1,hNN.out,fun j hj=>absurd hj (by omega)⟩)⟩
   case round =>
    obtain ⟨k,hk,hg,rfl,A⟩:=hrel
    by_cases hkm:k<m
    ·have hk7:k<7:=by omega
     obtain ⟨x0,x1,x2⟩:=num_cells A.out.2.2.2.2.1 k hk7
     have hfit:=nFit k hk7
     have hsz:=nSz_is k hk7
     have hcell:=Lib.hid (A.out.2.1.num k hk7)
     have hW0:=A.out.1.size
     have hi6:=nVal_i64 hi k hk7
     generalize hVe:nVal r k=V at hcell hi6
     generalize hae:nAt k=a at x1 hfit
     generalize hne:nSz k=n at x2 hfit hsz
     have hE:=Lib.hid (And.intro hVe (And.intro hae hne))
     clear hVe hae hne
     go_wp2_with fail
     have hF:=heap_alloc_new wr (.cells #[.pointer (some ⟨w.heap.size,6+k,none⟩),.int .i64 (a:Int),.int .i64 (n:Int)] 183)
     have hW:=Lib.hid ((Below.refl wr.heap.size wr).alloc (Nat.le_refl _) (.cells #[.pointer (some ⟨w.heap.size,6+k,none⟩),.int .i64 (a:Int),.int .i64 (n:Int)] 183))
     have f0:(wr.alloc (.cells #[.pointer (some ⟨w.heap.size,6+k,none⟩),.int .i64 (a:Int),.int .i64 (n:Int)] 183)).cell? ⟨wr.heap.size,0,none⟩=some (.pointer (some ⟨w.heap.size,6+k,none⟩)):=by simp only [World.cell?,hF];rfl
     have f1:(wr.alloc (.cells #[.pointer (some ⟨w.heap.size,6+k,none⟩),.int .i64 (a:Int),.int .i64 (n:Int)] 183)).cell? ⟨wr.heap.size,1,none⟩=some (.int .i64 (a:Int)):=by simp only [World.cell?,hF];rfl
     have f2:(wr.alloc (.cells #[.pointer (some ⟨w.heap.size,6+k,none⟩),.int .i64 (a:Int),.int .i64 (n:Int)] 183)).cell? ⟨wr.heap.size,2,none⟩=some (.int .i64 (n:Int)):=by simp only [World.cell?,hF];rfl
     have f3:=(hW.out.cell (p:=⟨w.heap.size,6+k,none⟩) A.out.2.1.lt).trans hcell.out
     have hBW:=Lib.hid (A.out.1.alloc A.out.1.size (.cells #[.pointer (some ⟨w.heap.size,6+k,none⟩),.int .i64 (a:Int),.int .i64 (n:Int)] 183))
     have hCW:=Lib.hid (A.out.2.1.below hW.out A.out.2.1.lt)
     have hRW:=Lib.hid (A.out.2.2.1.below hW.out)
     have hNW:=Lib.hid (row_keep hW.out A.out.2.2.2.2.1)
     have hLW:=Lib.hid A.out.2.2.2.1
     have hA2:=Lib.hid A.out.2.2.2.2.2
     clear A hF hcell x0 x1 x2
     generalize wr.alloc (.cells #[.pointer (some ⟨w.heap.size,6+k,none⟩),.int .i64 (a:Int),.int .i64 (n:Int)] 183)=W at *
     have g0:=fun d os=>cell_regrown f0 d os
     have g1:=fun d os=>cell_regrown f1 d os
     have g2:=fun d os=>cell_regrown f2 d os
     have g3:=fun d os=>cell_regrown f3 d os
     clear f0 f1 f2 f3
     by_cases ho:numOk V n b=true
     ·have C5:=Lib.hid (fun w=>write_nil V n b _ (wr_ok hsz ho) hi6.1 hi6.2 w)
      have hlen:=numG_length (b:=b) (n:=V) (W:=n) (by omega) ho
      have HO:=Lib.hid ho
      obtain ⟨T,hT⟩:∃ T,numG V n b=T:=⟨_,rfl⟩
      rw [hT] at C5 hlen
      have HT:=Lib.hid hT
      clear ho hT
      refine wp_region_quiet_below (by kernel_rfl) (by kernel_rfl) ?_
      repeat (go_big_quiet_step ((go_at_call 152;with_reducible exact Calls.regrown_of (C5.out _))))
      refine wpQuiet_nil ?_
      intro _ hw'
      obtain ⟨⟨dq,osq⟩,hw''⟩:=hw'
      subst hw''
      have hBq:=Lib.hid (hBW.out.trans ((below_regrown W dq osq).mono hBW.out.size))
      have hCq:=Lib.hid (hCW.out.regrown dq osq)
      have hRq:=Lib.hid (hRW.out.below (below_regrown W dq osq))
      have hNq:=Lib.hid (row_keep (below_regrown W dq osq) hNW.out)
      have q1:=g1 dq osq
      clear g0 g1 g2 g3 hBW hCW hRW hNW C5
      dsimp only at *
      generalize Sort.grow (redrawn W dq) osq=W2 at *
      clear dq osq
      have hcut:=fun W=>cut_hdr W B a (by omega)
      have hcp:=run_copy_put (P:=Tryz.prog) W2 67 9 3 5 B a (512 - a) (512 - a) T (hdrN d.toNat r k) 217 Tryz.underlying67 (by kernel_rfl) hRq.out (by omega) (by rw [hLW.out];omega)
      go_wp2
      go_roundg (7 - (k+1))
      case measure=>omega
      case rel =>
       have e:hdrN d.toNat r (k+1)=putAt (hdrN d.toNat r k) a T:=by rw [hdrN,hE.out.1,hE.out.2.1,hE.out.2.2,HB.out,HT.out]
       refine ⟨k+1,by omega,by omega,rfl,(show Aside _ from ⟨below_setRow hBq.out (Nat.le_of_lt hbB.out) _,hCq.out.setRow (Nat.ne_of_lt hbB.out) _,by rw [e];exact rowIs_set hRq.out,by rw [e,putAt_length (by rw [hLW.out];omega)];exact hLW.out,by rw [setRow_other _ _ _ _ (Nat.ne_of_gt hBw.out)];exact hNq.out,fun j hj=>?_⟩)⟩
       by_cases hjk:j=k
       ·subst hjk;rw [hE.out.1,hE.out.2.2];exact HO.out
       ·exact hA2.out j (by omega)
     ·have C5:=Lib.hid (fun w=>write_err V n b 2 (by decide) _ (wr_no hsz ho) hi6.1 hi6.2 w)
      have HO:=Lib.hid ho
      clear ho
      refine wp_region_quiet_below (by kernel_rfl) (by kernel_rfl) ?_
      repeat (go_big_quiet_step ((go_at_call 152;with_reducible exact Calls.regrown_of (C5.out _))))
      refine wpQuiet_nil ?_
      intro _ hw'
      obtain ⟨⟨dq,osq⟩,hw''⟩:=hw'
      subst hw''
      have hq:=Lib.hid (hBW.out.trans ((below_regrown W dq osq).mono hBW.out.size))
      go_wp2
      go_ret2
      exact ⟨[],2,FN.out k (by rw [HM.out];exact hkm) (by rw [hE.out.1,hE.out.2.2,HB.out];exact HO.out),rfl,hq.out⟩
    ·obtain rfl:k=m:=by omega
     have hBa:=Lib.hid A.out.1
     have hCa:=Lib.hid A.out.2.1
     have hRa:=Lib.hid A.out.2.2.1
     have hLl:=Lib.hid A.out.2.2.2.1
     have hLn:=Lib.hid A.out.2.2.2.2.2
     clear A s0 hB4 hC4 hNN
     have c5:=hCa.out.2.2.2.2.2.1
     have cB:=cell_of_row wr B 156 _ _ (0,0) hRa.out
     rw [List.getElem?_toArray,List.getElem?_eq_getElem (by unfold Lib.byteCells;rw [List.length_map,hLl.out];omega)] at cB
     generalize (Lib.byteCells (hdrN d.toNat r k))[156]'_=v0 at cB
     have fB:=frozen_of_row wr B 156 _ _ hRa.out
     have hset:=rowIs_cell (i:=156) hRa.out r.kind
     have MG:=Lib.hid (fun w=>magic_any d ⟨by omega,by omega⟩ w)
     go_wp2_with fail
     have hKe:(hdrN d.toNat r k).set 156 r.kind=hdrK d.toNat r:=by unfold hdrK;rw [HM.out]
     rw [hKe]
     have hRk:=Lib.hid (rowIs_set (F':=hdrK d.toNat r) hRa.out)
     have hBk:=Lib.hid (below_setRow hBa.out (Nat.le_of_lt hbB.out) (Lib.byteCells (hdrK d.toNat r)).toArray)
     have hLk:=Lib.hid (show (hdrK d.toNat r).length=512 by rw [← hKe,List.length_set];exact hLl.out)
     clear c5 cB fB hset hBa hCa hRa hLl hKe
     generalize wr.setRow B (Lib.byteCells (hdrK d.toNat r)).toArray=W5 at *
     refine wp_region_held_drew (S:=fun w'=>Below w.heap.size w w'∧RowIs w' B 217 (hdrK d.toNat r)∨Below w.heap.size w w'∧RowIs w' B 217 (hdrM d.toNat r)) (by kernel_rfl) (Or.inl ⟨hBk.out.drew,hRk.out.below (Below.refl _ _).drew⟩) (fun hHeld=>?_)
     have hS1:=Lib.hid (show Below w.heap.size w W5.drew∧RowIs W5.drew B 217 (hdrK d.toNat r) from ⟨hBk.out.drew,hRk.out.below (Below.refl _ _).drew⟩)
     generalize W5.drew=W6 at *
     have hcut:=fun W=>cut_hdr W B 257 (by omega)
     refine take_to (i:=0) 91 (.slice (some ⟨B,257,none⟩) (512 - 257) (512 - 257)) rfl rfl (by kernel_rfl) (by kernel_rfl) (by kernel_rfl) (fun _ _ _ h=>h) (Or.inl ⟨by rfl,?_⟩) hHeld ?_
     ·(intro w hSw;clear hSw;go_simp;try with_reducible rfl)
     simp only [List.setIfInBounds_toArray,List.set_cons_succ,List.set_cons_zero]
     refine take_to (i:=1) 92 (.int .i64 d) rfl rfl (by kernel_rfl) (by kernel_rfl) (by kernel_rfl) (fun _ _ _ h=>h) (Or.inl ⟨by rfl,fun _ _=>rfl⟩) hHeld ?_
     simp only [List.setIfInBounds_toArray,List.set_cons_succ,List.set_cons_zero]
     refine wpAnyH_ready (rs:=[2]) (by kernel_rfl) (by simp) ?_
     refine AllReadyH.cons rfl (fun K hK=>?_) AllReadyH.nil
     go_simp
     go_at_call 153
     with_reducible refine (MG.out _).mono ?_
     rintro e w7 ⟨rfl,h7⟩
     have hS2:=Lib.hid (show Below w.heap.size w w7∧RowIs w7 B 217 (hdrK d.toNat r) from ⟨hS1.out.1.trans (h7.mono hS1.out.1.size),hS1.out.2.below h7⟩)
     refine hK.out _ _ (Or.inl hS2.out) (fun hHeld=>?_)
     clear hK h7
     (try simp only [Act.put]);(try simp only [List.setIfInBounds_toArray]);(try simp only [List.set_cons_succ]);(try simp only [List.set_cons_zero])
     have hml:(magicP d.toNat).length≤8:=by
      unfold magicP
      split
      ·simp
      ·rw [magicL_length];exact Nat.le_refl _
     have hcp:=run_copy_put (P:=Tryz.prog) w7 67 9 3 5 B 257 (512 - 257) (512 - 257) (magicP d.toNat) (hdrK d.toNat r) 217 Tryz.underlying67 (by kernel_rfl) hS2.out.2 (by omega) (by rw [hLk.out];omega)
     refine wpAnyH_ready (rs:=[3]) (by kernel_rfl) (by simp) ?_
     refine AllReadyH.cons rfl (fun K hK=>?_) AllReadyH.nil
     go_simp
     have hS3:=Lib.hid (show Below w.heap.size w (w7.setRow B (Lib.byteCells (putAt (hdrK d.toNat r) 257 (magicP d.toNat))).toArray)∧RowIs (w7.setRow B (Lib.byteCells (putAt (hdrK d.toNat r) 257 (magicP d.toNat))).toArray) B 217 (hdrM d.toNat r) from ⟨below_setRow hS2.out.1 (Nat.le_of_lt hbB.out) _,rowIs_set hS2.out.2⟩)
     refine hK.out _ _ (Or.inr hS3.out) (fun hHeld=>?_)
     clear hK hcp hHeld
     generalize w7.setRow B (Lib.byteCells (putAt (hdrK d.toNat r) 257 (magicP d.toNat))).toArray=W8 at *
     refine wpAnyH_done (by kernel_rfl) ?_ _
     have hLM:(hdrM d.toNat r).length=512:=by unfold hdrM;rw [putAt_length (by rw [hLk.out];omega)];exact hLk.out
     have hcv:=rowIs_conv hS3.out.2 512 512 hLM
     have SL:=Lib.hid (fun w=>seal_mkS (hdrM d.toNat r) hLM w)
     obtain ⟨hM1,hM2⟩:=OK.out hLa.out.2 (fun j hj=>by rw [HB.out];exact hLn.out j (by rw [← HM.out];exact hj))
     rw [hM1] at SL
     have HW:=Lib.hid hM2
     clear hM1 hM2
     go_wp2_with (first
      |(go_at_call 116;(with_reducible refine (SL.out _).mono ?_);rintro e w9 ⟨rfl,h9⟩)
      | fail)
     go_ret2
     exact ⟨_,0,HW.out,rfl,hS3.out.1.trans (h9.mono hS3.out.1.size)⟩
set_option maxHeartbeats 4000000 in
theorem write_arg (d:Int) (r:RawL) (h:d<1∨4<d∨r.kind=0) (w:World) :
  Calls Tryz.prog 114 #[.int .i64 d,rawV r] w (WritePost d r w):=by
 have H:=Lib.hid (WriteIs.arg d r h)
 have hB:=Lib.hid (below_alloc1 w (.cells (#[.string (mkS r.name),.string (mkS r.link),.string (mkS r.user),.string (mkS r.group),.string (mkS r.front),.int .u8 (r.kind.toNat:Int),.int .i64 r.mode,.int .i64 r.uid,.int .i64 r.gid,.int .i64 r.size,.int .i64 r.time,.int .i64 r.major,.int .i64 r.minor]) 117))
 unfold rawV
 rcases h with h|h|h
 ·go_enter Tryz.func114,Tryz.ntmps114
  go_wp2
  go_ret2
  exact ⟨[],1,H.out,rfl,hB.out⟩
 ·have h1:¬ d<1:=by omega
  go_enter Tryz.func114,Tryz.ntmps114
  go_wp2
  go_ret2
  exact ⟨[],1,H.out,rfl,hB.out⟩
 ·have hk:((r.kind.toNat:Int)==0)=true:=by rw [h];rfl
  clear h
  go_enter Tryz.func114,Tryz.ntmps114
  by_cases h1:d<1
  ·go_wp2
   go_ret2
   exact ⟨[],1,H.out,rfl,hB.out⟩
  ·by_cases h4:4<d
   ·go_wp2
    go_ret2
    exact ⟨[],1,H.out,rfl,hB.out⟩
   ·go_wp2
    go_ret2
    exact ⟨[],1,H.out,rfl,hB.out⟩
set_option maxRecDepth 100000 in
set_option maxHeartbeats 4000000 in
theorem write_unfit (d:Int) (r:RawL) (hd:¬ d<1) (hd4:¬ 4<d) (hk:r.kind≠0) (w:World) (hw:¬ withinL d r=r) :
  Calls Tryz.prog 114 #[.int .i64 d,rawV r] w (WritePost d r w):=by
 have H:=Lib.hid (WriteIs.range d r ⟨by omega,by omega⟩ hk fun g=>hw ((within_bears ⟨by omega,by omega⟩).2 g.2.2.1))
 have hC:=Lib.hid (RawAt.new w r 117)
 have hB:=Lib.hid (below_alloc1 w (.cells (#[.string (mkS r.name),.string (mkS r.link),.string (mkS r.user),.string (mkS r.group),.string (mkS r.front),.int .u8 (r.kind.toNat:Int),.int .i64 r.mode,.int .i64 r.uid,.int .i64 r.gid,.int .i64 r.size,.int .i64 r.time,.int .i64 r.major,.int .i64 r.minor]) 117))
 have C1:=Lib.hid (fun w=>withinRaw_any d r w)
 have hG:=fun x y w=>raw_guard .neq x y (withinL d r) r w
 have hN:=fun w=>raw_neq (withinL d r) r w
 rw [decide_eq_false hw] at hN
 have hkk:((r.kind.toNat:Int)==0)=false:=by
  rw [beq_eq_false_iff_ne];intro e;exact hk (UInt8.toNat_inj.1 (by show r.kind.toNat=0;omega))
 clear hw hk
 generalize withinL d r=q at *
 unfold rawV at C1 hG hN ⊢
 go_enter Tryz.func114,Tryz.ntmps114
 go_wp2_with fail
 generalize (w.alloc (.cells #[.string (mkS r.name),.string (mkS r.link),.string (mkS r.user),.string (mkS r.group),.string (mkS r.front),.int .u8 (r.kind.toNat:Int),.int .i64 r.mode,.int .i64 r.uid,.int .i64 r.gid,.int .i64 r.size,.int .i64 r.time,.int .i64 r.major,.int .i64 r.minor] 117))=w1 at *
 have qC:=Lib.hid (fun d os=>hC.out.regrown d os)
 have u:∀ d os,RawAt (Sort.grow (redrawn w1 d) os) w.heap.size r:=fun d os=>qC.out d os
 unfold RawAt at u
 have u0:=fun d os=>(u d os).1
 have u1:=fun d os=>(u d os).2.1
 have u2:=fun d os=>(u d os).2.2.1
 have u3:=fun d os=>(u d os).2.2.2.1
 have u4:=fun d os=>(u d os).2.2.2.2.1
 have u5:=fun d os=>(u d os).2.2.2.2.2.1
 have u6:=fun d os=>(u d os).2.2.2.2.2.2.1
 have u7:=fun d os=>(u d os).2.2.2.2.2.2.2.1
 have u8:=fun d os=>(u d os).2.2.2.2.2.2.2.2.1
 have u9:=fun d os=>(u d os).2.2.2.2.2.2.2.2.2.1
 have u10:=fun d os=>(u d os).2.2.2.2.2.2.2.2.2.2.1
 have u11:=fun d os=>(u d os).2.2.2.2.2.2.2.2.2.2.2.1
 have u12:=fun d os=>(u d os).2.2.2.2.2.2.2.2.2.2.2.2
 clear u
 refine wp_region_quiet_below (by kernel_rfl) (by kernel_rfl) ?_
 repeat (go_big_quiet_step ((go_at_call 130;with_reducible exact Calls.regrown_of (C1.out _))))
 refine wpQuiet_nil ?_
 intro _ hw'
 obtain ⟨⟨dq,osq⟩,hw''⟩:=hw'
 subst hw''
 have hB2:=Lib.hid (hB.out.trans ((below_regrown w1 dq osq).mono hB.out.size))
 go_wp2
 go_ret2
 exact ⟨[],2,H.out,rfl,hB2.out⟩
theorem write_any' (d:Int) (r:RawL) (hz:∀ k,k<5→(tVal r k).length≤1000000) (hi:intsL r) (w:World) :
  Calls Tryz.prog 114 #[.int .i64 d,rawV r] w (WritePost d r w):=by
 by_cases h1:d<1
 ·exact write_arg d r (Or.inl h1) w
 ·by_cases h4:4<d
  ·exact write_arg d r (Or.inr (Or.inl h4)) w
  ·by_cases hk:r.kind=0
   ·exact write_arg d r (Or.inr (Or.inr hk)) w
   ·by_cases hw:withinL d r=r
    ·exact write_fit d r h1 h4 hk w hw hz hi
    ·exact write_unfit d r h1 h4 hk w hw
end Go.Proofs.YtdjcjaidklgamaaGreatDoor
end
