import Derived.Test.YtdjcjaidklgamaaGreatDoorQRd
import Derived.Test.YtdjcjaidklgamaaGreatDoorQXi
import Derived.Test.YtdjcjaidklgamaaGreatDoorQXf
import Derived.Test.YtdjcjaidklgamaaGreatDoorQXj
import Derived.StillTailTactics
import Derived.Deep.DeepCutAuto
set_option linter.unusedSimpArgs false
set_option linter.unusedVariables false
section
namespace Go.Proofs.YtdjcjaidklgamaaGreatDoor
open Go.RowKit Go.Joins
def rst0:RSt:=⟨0,[],[],none,none⟩
theorem entry_one {P:Program} {fn:Func} {p:Tmp} {ty:TypeId} (h:fn.results=#[.cell p ty]) (tmps:Array Value) (w:World) (g:Nat) (t':TypeId) (cs:Array Value) (fr:Nat × Nat) (d:TypeDesc)
  (hp:tmps.getD p undef=.pointer (some ⟨g,0,none⟩)) (hg:w.heap[g]?=some (.cells cs t' fr))
  (hu:P.underlying ty=some d) (hd:(match d with|.struct _|.array _ _=>true|_=>false)=true) (hi:(P.info? ty).map (·.size)=some cs.size) :
  (results fn tmps).run P w=.ok (.agg cs) w:=by
 have hp':tmps[p]?.getD undef=.pointer (some ⟨g,0,none⟩):=by simpa using hp
 simp [results,h,hp',asAddr,run_loadVar_row w g t' ty cs fr d hg hu hd hi]
theorem entC_one (q:Array Value) (h:∃ a0 a1 a2 a3 a4 a5 a6 a7 a8 a9 a10 a11 a12 a13 v,q=#[.string a0,.int .u8 a1,.int .i64 a2,.int .i64 a3,.int .i64 a4,.int .i64 a5,.int .i64 a6,.int .i64 a7,.string a8,.string a9,.string a10,.int .i64 a11,.int .i64 a12,.string a13,v]∧v.oneCell'=true):q.all (fun x=>x.oneCell')=true:=by
 obtain ⟨a0,a1,a2,a3,a4,a5,a6,a7,a8,a9,a10,a11,a12,a13,v,rfl,h⟩:=h
 simp [h]
 exact ⟨rfl,rfl,rfl,rfl,rfl,rfl,rfl,rfl,rfl,rfl,rfl,rfl,rfl,rfl⟩
set_option maxRecDepth 100000 in
set_option maxHeartbeats 8000000 in
theorem entry_any (r:RawL) (hz:sumT r≤1000000) (w:World) :
  Calls Tryz.prog 133 #[rawV r] w fun e w'=>e=.returned (entV (entryR r rst0) (.slice none 0 0))∧Below w.heap.size w w':=by
 have CF:=Lib.hid (fun w=>full_any r hz w)
 have hW:Below w.heap.size w ((w.alloc (.cells (rawC r) 117)).alloc (.cells #[.string ⟨#[]⟩,.int .u8 0,.int .i64 0,.int .i64 0,.int .i64 0,.int .i64 0,.int .i64 0,.int .i64 0,.string ⟨#[]⟩,.string ⟨#[]⟩,.string ⟨#[]⟩,.int .i64 0,.int .i64 0,.string ⟨#[]⟩,.slice none 0 0] 26)):=below_alloc2 _ _ _
 have hR0:RawAt (w.alloc (.cells (rawC r) 117)) w.heap.size r:=RawAt.of_row (heap_alloc_new w _)
 have hsz:(w.alloc (.cells (rawC r) 117)).heap.size=w.heap.size+1:=Array.size_push ..
 have hR:RawAt ((w.alloc (.cells (rawC r) 117)).alloc (.cells #[.string ⟨#[]⟩,.int .u8 0,.int .i64 0,.int .i64 0,.int .i64 0,.int .i64 0,.int .i64 0,.int .i64 0,.string ⟨#[]⟩,.string ⟨#[]⟩,.string ⟨#[]⟩,.int .i64 0,.int .i64 0,.string ⟨#[]⟩,.slice none 0 0] 26)) w.heap.size r:=hR0.below (B:=w.heap.size+1) ((Below.refl _ _).alloc (Nat.le_of_eq hsz.symm) _) (Nat.lt_succ_self _)
 have hE:((w.alloc (.cells (rawC r) 117)).alloc (.cells #[.string ⟨#[]⟩,.int .u8 0,.int .i64 0,.int .i64 0,.int .i64 0,.int .i64 0,.int .i64 0,.int .i64 0,.string ⟨#[]⟩,.string ⟨#[]⟩,.string ⟨#[]⟩,.int .i64 0,.int .i64 0,.string ⟨#[]⟩,.slice none 0 0] 26)).heap[w.heap.size+1]?=some (.cells #[.string ⟨#[]⟩,.int .u8 0,.int .i64 0,.int .i64 0,.int .i64 0,.int .i64 0,.int .i64 0,.int .i64 0,.string ⟨#[]⟩,.string ⟨#[]⟩,.string ⟨#[]⟩,.int .i64 0,.int .i64 0,.string ⟨#[]⟩,.slice none 0 0] 26 (0,0)):=by
  have:=heap_alloc_new (w.alloc (.cells (rawC r) 117)) (.cells #[.string ⟨#[]⟩,.int .u8 0,.int .i64 0,.int .i64 0,.int .i64 0,.int .i64 0,.int .i64 0,.int .i64 0,.string ⟨#[]⟩,.string ⟨#[]⟩,.string ⟨#[]⟩,.int .i64 0,.int .i64 0,.string ⟨#[]⟩,.slice none 0 0] 26)
  rwa [hsz] at this
 have hI:(Tryz.prog.info? 26).map (·.size)=some 15:=by kernel_rfl
 show Calls _ _ _ _ fun e w'=>e=.returned (.agg #[.string (mkS (fullL r)),.int .u8 (r.kind.toNat:Int),.int .i64 r.mode,.int .i64 r.uid,.int .i64 r.gid,.int .i64 r.size,.int .i64 r.time,.int .i64 0,.string (mkS r.link),.string (mkS r.user),.string (mkS r.group),.int .i64 r.major,.int .i64 r.minor,.string (mkS []),.slice none 0 0])∧Below w.heap.size w w'
 generalize fullL r=F at *
 have HP:=Lib.hid (And.intro hW (And.intro hR hE))
 clear hW hR0 hsz hR hE
 unfold rawV at CF ⊢
 unfold rawC at HP
 go_enter Tryz.func133,Tryz.ntmps133
 go_upto_region 1 with fail
 have hq:=HP.out
 generalize (World.alloc (World.alloc w _) _)=W at hq ⊢
 clear HP
 obtain ⟨hW,hR,hE⟩:=hq
 refine wp_region_held_drew (S:=fun w'=>Below w.heap.size w w'∧RawAt w' w.heap.size r∧∃ cs,cs.size=15∧w'.heap[w.heap.size+1]?=some (.cells cs 26 (0,0))) (by kernel_rfl) ⟨hW.drew,hR.below (Below.refl _ _).drew hR.lt,_,rfl,hE⟩ (fun hHeld=>?_)
 generalize W.drew=W1 at hHeld ⊢
 clear hW hR hE
 refine take_to (i:=0) 3 (.agg #[.string (mkS r.name),.string (mkS r.link),.string (mkS r.user),.string (mkS r.group),.string (mkS r.front),.int .u8 (r.kind.toNat:Int),.int .i64 r.mode,.int .i64 r.uid,.int .i64 r.gid,.int .i64 r.size,.int .i64 r.time,.int .i64 r.major,.int .i64 r.minor]) rfl rfl (by kernel_rfl) (by kernel_rfl) (by kernel_rfl) (fun _ _ _ h=>h) (Or.inl ⟨by rfl,?_⟩) (by assumption) ?_
 ·(rintro w2 ⟨_,⟨c0,c1,c2,c3,c4,c5,c6,c7,c8,c9,c10,c11,c12⟩,_⟩;(try dsimp only);go_simp;try with_reducible rfl)
 simp only [List.setIfInBounds_toArray,List.set_cons_succ,List.set_cons_zero]
 refine take_to (i:=2) 5 (.pointer (some ⟨w.heap.size,5,none⟩)) rfl rfl (by kernel_rfl) (by kernel_rfl) (by kernel_rfl) (fun _ _ _ h=>h) (Or.inl ⟨by rfl,?_⟩) (by assumption) ?_
 ·(rintro w2 ⟨_,⟨c0,c1,c2,c3,c4,c5,c6,c7,c8,c9,c10,c11,c12⟩,_⟩;(try dsimp only);go_simp;try with_reducible rfl)
 simp only [List.setIfInBounds_toArray,List.set_cons_succ,List.set_cons_zero]
 refine take_to (i:=3) 6 (.int .u8 (r.kind.toNat:Int)) rfl rfl (by kernel_rfl) (by kernel_rfl) (by kernel_rfl) (fun _ _ _ h=>h) (Or.inl ⟨by rfl,?_⟩) (by assumption) ?_
 ·(rintro w2 ⟨_,⟨c0,c1,c2,c3,c4,c5,c6,c7,c8,c9,c10,c11,c12⟩,_⟩;(try dsimp only);go_simp;try with_reducible rfl)
 simp only [List.setIfInBounds_toArray,List.set_cons_succ,List.set_cons_zero]
 refine take_to (i:=4) 7 (.pointer (some ⟨w.heap.size,6,none⟩)) rfl rfl (by kernel_rfl) (by kernel_rfl) (by kernel_rfl) (fun _ _ _ h=>h) (Or.inl ⟨by rfl,?_⟩) (by assumption) ?_
 ·(rintro w2 ⟨_,⟨c0,c1,c2,c3,c4,c5,c6,c7,c8,c9,c10,c11,c12⟩,_⟩;(try dsimp only);go_simp;try with_reducible rfl)
 simp only [List.setIfInBounds_toArray,List.set_cons_succ,List.set_cons_zero]
 refine take_to (i:=5) 8 (.int .i64 r.mode) rfl rfl (by kernel_rfl) (by kernel_rfl) (by kernel_rfl) (fun _ _ _ h=>h) (Or.inl ⟨by rfl,?_⟩) (by assumption) ?_
 ·(rintro w2 ⟨_,⟨c0,c1,c2,c3,c4,c5,c6,c7,c8,c9,c10,c11,c12⟩,_⟩;(try dsimp only);go_simp;try with_reducible rfl)
 simp only [List.setIfInBounds_toArray,List.set_cons_succ,List.set_cons_zero]
 refine take_to (i:=6) 9 (.pointer (some ⟨w.heap.size,7,none⟩)) rfl rfl (by kernel_rfl) (by kernel_rfl) (by kernel_rfl) (fun _ _ _ h=>h) (Or.inl ⟨by rfl,?_⟩) (by assumption) ?_
 ·(rintro w2 ⟨_,⟨c0,c1,c2,c3,c4,c5,c6,c7,c8,c9,c10,c11,c12⟩,_⟩;(try dsimp only);go_simp;try with_reducible rfl)
 simp only [List.setIfInBounds_toArray,List.set_cons_succ,List.set_cons_zero]
 refine take_to (i:=7) 10 (.int .i64 r.uid) rfl rfl (by kernel_rfl) (by kernel_rfl) (by kernel_rfl) (fun _ _ _ h=>h) (Or.inl ⟨by rfl,?_⟩) (by assumption) ?_
 ·(rintro w2 ⟨_,⟨c0,c1,c2,c3,c4,c5,c6,c7,c8,c9,c10,c11,c12⟩,_⟩;(try dsimp only);go_simp;try with_reducible rfl)
 simp only [List.setIfInBounds_toArray,List.set_cons_succ,List.set_cons_zero]
 refine take_to (i:=8) 11 (.pointer (some ⟨w.heap.size,8,none⟩)) rfl rfl (by kernel_rfl) (by kernel_rfl) (by kernel_rfl) (fun _ _ _ h=>h) (Or.inl ⟨by rfl,?_⟩) (by assumption) ?_
 ·(rintro w2 ⟨_,⟨c0,c1,c2,c3,c4,c5,c6,c7,c8,c9,c10,c11,c12⟩,_⟩;(try dsimp only);go_simp;try with_reducible rfl)
 simp only [List.setIfInBounds_toArray,List.set_cons_succ,List.set_cons_zero]
 refine take_to (i:=9) 12 (.int .i64 r.gid) rfl rfl (by kernel_rfl) (by kernel_rfl) (by kernel_rfl) (fun _ _ _ h=>h) (Or.inl ⟨by rfl,?_⟩) (by assumption) ?_
 ·(rintro w2 ⟨_,⟨c0,c1,c2,c3,c4,c5,c6,c7,c8,c9,c10,c11,c12⟩,_⟩;(try dsimp only);go_simp;try with_reducible rfl)
 simp only [List.setIfInBounds_toArray,List.set_cons_succ,List.set_cons_zero]
 refine take_to (i:=10) 13 (.pointer (some ⟨w.heap.size,9,none⟩)) rfl rfl (by kernel_rfl) (by kernel_rfl) (by kernel_rfl) (fun _ _ _ h=>h) (Or.inl ⟨by rfl,?_⟩) (by assumption) ?_
 ·(rintro w2 ⟨_,⟨c0,c1,c2,c3,c4,c5,c6,c7,c8,c9,c10,c11,c12⟩,_⟩;(try dsimp only);go_simp;try with_reducible rfl)
 simp only [List.setIfInBounds_toArray,List.set_cons_succ,List.set_cons_zero]
 refine take_to (i:=11) 14 (.int .i64 r.size) rfl rfl (by kernel_rfl) (by kernel_rfl) (by kernel_rfl) (fun _ _ _ h=>h) (Or.inl ⟨by rfl,?_⟩) (by assumption) ?_
 ·(rintro w2 ⟨_,⟨c0,c1,c2,c3,c4,c5,c6,c7,c8,c9,c10,c11,c12⟩,_⟩;(try dsimp only);go_simp;try with_reducible rfl)
 simp only [List.setIfInBounds_toArray,List.set_cons_succ,List.set_cons_zero]
 refine take_to (i:=12) 15 (.pointer (some ⟨w.heap.size,10,none⟩)) rfl rfl (by kernel_rfl) (by kernel_rfl) (by kernel_rfl) (fun _ _ _ h=>h) (Or.inl ⟨by rfl,?_⟩) (by assumption) ?_
 ·(rintro w2 ⟨_,⟨c0,c1,c2,c3,c4,c5,c6,c7,c8,c9,c10,c11,c12⟩,_⟩;(try dsimp only);go_simp;try with_reducible rfl)
 simp only [List.setIfInBounds_toArray,List.set_cons_succ,List.set_cons_zero]
 refine take_to (i:=13) 16 (.int .i64 r.time) rfl rfl (by kernel_rfl) (by kernel_rfl) (by kernel_rfl) (fun _ _ _ h=>h) (Or.inl ⟨by rfl,?_⟩) (by assumption) ?_
 ·(rintro w2 ⟨_,⟨c0,c1,c2,c3,c4,c5,c6,c7,c8,c9,c10,c11,c12⟩,_⟩;(try dsimp only);go_simp;try with_reducible rfl)
 simp only [List.setIfInBounds_toArray,List.set_cons_succ,List.set_cons_zero]
 refine take_to (i:=14) 17 (.agg #[.int .i64 r.time,.int .i64 0]) rfl rfl (by kernel_rfl) (by kernel_rfl) (by kernel_rfl) (fun _ _ _ h=>h) (Or.inl ⟨by rfl,?_⟩) (by assumption) ?_
 ·(rintro w2 ⟨_,⟨c0,c1,c2,c3,c4,c5,c6,c7,c8,c9,c10,c11,c12⟩,_⟩;(try dsimp only);go_simp;try with_reducible rfl)
 simp only [List.setIfInBounds_toArray,List.set_cons_succ,List.set_cons_zero]
 refine take_to (i:=15) 18 (.pointer (some ⟨w.heap.size,1,none⟩)) rfl rfl (by kernel_rfl) (by kernel_rfl) (by kernel_rfl) (fun _ _ _ h=>h) (Or.inl ⟨by rfl,?_⟩) (by assumption) ?_
 ·(rintro w2 ⟨_,⟨c0,c1,c2,c3,c4,c5,c6,c7,c8,c9,c10,c11,c12⟩,_⟩;(try dsimp only);go_simp;try with_reducible rfl)
 simp only [List.setIfInBounds_toArray,List.set_cons_succ,List.set_cons_zero]
 refine take_to (i:=16) 19 (.string (mkS r.link)) rfl rfl (by kernel_rfl) (by kernel_rfl) (by kernel_rfl) (fun _ _ _ h=>h) (Or.inl ⟨by rfl,?_⟩) (by assumption) ?_
 ·(rintro w2 ⟨_,⟨c0,c1,c2,c3,c4,c5,c6,c7,c8,c9,c10,c11,c12⟩,_⟩;(try dsimp only);go_simp;try with_reducible rfl)
 simp only [List.setIfInBounds_toArray,List.set_cons_succ,List.set_cons_zero]
 refine take_to (i:=17) 20 (.pointer (some ⟨w.heap.size,2,none⟩)) rfl rfl (by kernel_rfl) (by kernel_rfl) (by kernel_rfl) (fun _ _ _ h=>h) (Or.inl ⟨by rfl,?_⟩) (by assumption) ?_
 ·(rintro w2 ⟨_,⟨c0,c1,c2,c3,c4,c5,c6,c7,c8,c9,c10,c11,c12⟩,_⟩;(try dsimp only);go_simp;try with_reducible rfl)
 simp only [List.setIfInBounds_toArray,List.set_cons_succ,List.set_cons_zero]
 refine take_to (i:=18) 21 (.string (mkS r.user)) rfl rfl (by kernel_rfl) (by kernel_rfl) (by kernel_rfl) (fun _ _ _ h=>h) (Or.inl ⟨by rfl,?_⟩) (by assumption) ?_
 ·(rintro w2 ⟨_,⟨c0,c1,c2,c3,c4,c5,c6,c7,c8,c9,c10,c11,c12⟩,_⟩;(try dsimp only);go_simp;try with_reducible rfl)
 simp only [List.setIfInBounds_toArray,List.set_cons_succ,List.set_cons_zero]
 refine take_to (i:=19) 22 (.pointer (some ⟨w.heap.size,3,none⟩)) rfl rfl (by kernel_rfl) (by kernel_rfl) (by kernel_rfl) (fun _ _ _ h=>h) (Or.inl ⟨by rfl,?_⟩) (by assumption) ?_
 ·(rintro w2 ⟨_,⟨c0,c1,c2,c3,c4,c5,c6,c7,c8,c9,c10,c11,c12⟩,_⟩;(try dsimp only);go_simp;try with_reducible rfl)
 simp only [List.setIfInBounds_toArray,List.set_cons_succ,List.set_cons_zero]
 refine take_to (i:=20) 23 (.string (mkS r.group)) rfl rfl (by kernel_rfl) (by kernel_rfl) (by kernel_rfl) (fun _ _ _ h=>h) (Or.inl ⟨by rfl,?_⟩) (by assumption) ?_
 ·(rintro w2 ⟨_,⟨c0,c1,c2,c3,c4,c5,c6,c7,c8,c9,c10,c11,c12⟩,_⟩;(try dsimp only);go_simp;try with_reducible rfl)
 simp only [List.setIfInBounds_toArray,List.set_cons_succ,List.set_cons_zero]
 refine take_to (i:=21) 24 (.pointer (some ⟨w.heap.size,11,none⟩)) rfl rfl (by kernel_rfl) (by kernel_rfl) (by kernel_rfl) (fun _ _ _ h=>h) (Or.inl ⟨by rfl,?_⟩) (by assumption) ?_
 ·(rintro w2 ⟨_,⟨c0,c1,c2,c3,c4,c5,c6,c7,c8,c9,c10,c11,c12⟩,_⟩;(try dsimp only);go_simp;try with_reducible rfl)
 simp only [List.setIfInBounds_toArray,List.set_cons_succ,List.set_cons_zero]
 refine take_to (i:=22) 25 (.int .i64 r.major) rfl rfl (by kernel_rfl) (by kernel_rfl) (by kernel_rfl) (fun _ _ _ h=>h) (Or.inl ⟨by rfl,?_⟩) (by assumption) ?_
 ·(rintro w2 ⟨_,⟨c0,c1,c2,c3,c4,c5,c6,c7,c8,c9,c10,c11,c12⟩,_⟩;(try dsimp only);go_simp;try with_reducible rfl)
 simp only [List.setIfInBounds_toArray,List.set_cons_succ,List.set_cons_zero]
 refine take_to (i:=23) 26 (.pointer (some ⟨w.heap.size,12,none⟩)) rfl rfl (by kernel_rfl) (by kernel_rfl) (by kernel_rfl) (fun _ _ _ h=>h) (Or.inl ⟨by rfl,?_⟩) (by assumption) ?_
 ·(rintro w2 ⟨_,⟨c0,c1,c2,c3,c4,c5,c6,c7,c8,c9,c10,c11,c12⟩,_⟩;(try dsimp only);go_simp;try with_reducible rfl)
 simp only [List.setIfInBounds_toArray,List.set_cons_succ,List.set_cons_zero]
 refine take_to (i:=24) 27 (.int .i64 r.minor) rfl rfl (by kernel_rfl) (by kernel_rfl) (by kernel_rfl) (fun _ _ _ h=>h) (Or.inl ⟨by rfl,?_⟩) (by assumption) ?_
 ·(rintro w2 ⟨_,⟨c0,c1,c2,c3,c4,c5,c6,c7,c8,c9,c10,c11,c12⟩,_⟩;(try dsimp only);go_simp;try with_reducible rfl)
 simp only [List.setIfInBounds_toArray,List.set_cons_succ,List.set_cons_zero]
 refine wpAnyH_ready (rs:=[1]) (by kernel_rfl) (by simp) ?_
 refine AllReadyH.cons rfl (fun K hK=>?_) AllReadyH.nil
 go_simp
 go_at_call 165
 with_reducible refine (CF.out _).mono ?_
 rintro e w2 ⟨rfl,hb2⟩
 refine hK.out _ _ ?_ (fun hHeld=>?_)
 ·obtain ⟨h1,h2,cs,h3,h4⟩:=hHeld
  exact ⟨h1.trans (hb2.mono h1.size),h2.below hb2 h2.lt,cs,h3,(hb2.block _ (Array.getElem?_eq_some_iff.1 h4).1).trans h4⟩
 clear hK hb2
 (try simp only [Act.put]);(try simp only [List.setIfInBounds_toArray]);(try simp only [List.set_cons_succ]);(try simp only [List.set_cons_zero])
 refine take_to (i:=25) 28 (.agg #[.string (mkS F),.int .u8 (r.kind.toNat:Int),.int .i64 r.mode,.int .i64 r.uid,.int .i64 r.gid,.int .i64 r.size,.int .i64 r.time,.int .i64 0,.string (mkS r.link),.string (mkS r.user),.string (mkS r.group),.int .i64 r.major,.int .i64 r.minor,.string ⟨#[]⟩,.slice none 0 0]) rfl rfl (by kernel_rfl) (by kernel_rfl) (by kernel_rfl) (fun _ _ _ h=>h) (Or.inl ⟨by rfl,?_⟩) (by assumption) ?_
 ·(rintro w2 ⟨_,⟨c0,c1,c2,c3,c4,c5,c6,c7,c8,c9,c10,c11,c12⟩,_⟩;(try dsimp only);go_simp;try with_reducible rfl)
 simp only [List.setIfInBounds_toArray,List.set_cons_succ,List.set_cons_zero]
 refine wpAnyH_ready (rs:=[26]) (by kernel_rfl) (by simp) ?_
 refine AllReadyH.cons rfl (fun K hK=>?_) AllReadyH.nil
 rw [if_pos (by rfl)]
 obtain ⟨h1,h2,cs,h3,h4⟩:=hHeld
 refine store_row_no rfl _ _ _ rfl (w.heap.size+1) #[.string (mkS F),.int .u8 (r.kind.toNat:Int),.int .i64 r.mode,.int .i64 r.uid,.int .i64 r.gid,.int .i64 r.size,.int .i64 r.time,.int .i64 0,.string (mkS r.link),.string (mkS r.user),.string (mkS r.group),.int .i64 r.major,.int .i64 r.minor,.string ⟨#[]⟩,.slice none 0 0] rfl rfl _ _ h4 hI h3 (entC_one _ ⟨_,_,_,_,_,_,_,_,_,_,_,_,_,_,_,rfl,rfl⟩) ?_
 have hr:=setRow_heap w2 _ _ #[.string (mkS F),.int .u8 (r.kind.toNat:Int),.int .i64 r.mode,.int .i64 r.uid,.int .i64 r.gid,.int .i64 r.size,.int .i64 r.time,.int .i64 0,.string (mkS r.link),.string (mkS r.user),.string (mkS r.group),.int .i64 r.major,.int .i64 r.minor,.string ⟨#[]⟩,.slice none 0 0] _ _ h4
 have hb:=below_setRow h1 (Nat.le_succ _) #[.string (mkS F),.int .u8 (r.kind.toNat:Int),.int .i64 r.mode,.int .i64 r.uid,.int .i64 r.gid,.int .i64 r.size,.int .i64 r.time,.int .i64 0,.string (mkS r.link),.string (mkS r.user),.string (mkS r.group),.int .i64 r.major,.int .i64 r.minor,.string ⟨#[]⟩,.slice none 0 0]
 refine hK.out _ _ ⟨hb,h2.below (below_setRow (Below.refl (w.heap.size+1) w2) (Nat.le_refl _) _) (Nat.lt_succ_self _),_,rfl,hr⟩ (fun hHeld=>?_)
 clear hK h1 h2 h3 h4
 generalize w2.setRow (w.heap.size+1) _=W3 at *
 refine wpAnyH_done (by kernel_rfl) ?_ _
 go_wp2
 refine bodyPost_ret (entry_one rfl _ _ (w.heap.size+1) _ _ _ _ rfl hr Tryz.underlying26 rfl hI) rfl ?_
 exact ⟨rfl,hb⟩
end Go.Proofs.YtdjcjaidklgamaaGreatDoor
end
section
namespace Go.Proofs.YtdjcjaidklgamaaGreatDoor
theorem roF_i64:∀ (l:List UInt8) (n:Int),0≤n→n≤9223372036854775807→i64 (roF n l).1
 | [],n,h0,h1=>⟨by unfold roF;omega,by unfold roF;omega⟩
 | c :: l,n,h0,h1=>by
  unfold roF
  split
  ·exact ⟨by simp,by simp⟩
  ·split
   ·exact ⟨by simp,by simp⟩
   ·have:=c.toNat_lt
    exact roF_i64 l _ (by omega) (by omega)
theorem rbF_i64:∀ (l:List UInt8) (n:Int),i64 n→i64 (rbF n l).1
 | [],n,h=>h
 | c :: l,n,h=>by
  unfold rbF
  split
  ·exact ⟨by simp,by simp⟩
  ·have:=c.toNat_lt
   exact rbF_i64 l _ ⟨by omega,by omega⟩
theorem readF_i64 (l:List UInt8):i64 (readF l).1:=by
 match l with
 | []=>exact ⟨by simp [readF],by simp [readF]⟩
 | c :: r =>
  show i64 (if 128≤(c.toNat:Int) then rbF (firstF c) r else roF 0 (trimR (trimL (c :: r)))).1
  split
  ·next h =>
   have:=firstF_range c h
   exact rbF_i64 r _ ⟨by omega,by omega⟩
  ·exact roF_i64 _ _ (by omega) (by omega)
theorem smallF_i64 (l:List UInt8):i64 (smallF l).2:=by
 have:=smallF_range l
 exact ⟨by omega,by omega⟩
theorem lineR_i64 (l:List UInt8):i64 (lineR l).2.1:=by
 have:=lineR_range l
 exact ⟨by omega,by omega⟩
def Few (l:List Pc):Prop:=l.length≤20∧Fits l
theorem few_nil:Few []:=⟨by simp,fun p h=>by cases h⟩
theorem few_snoc {l:List Pc} {p:Pc} (h:Fits l) (h1:i64 p.1) (h2:i64 p.2):Fits (l++[p]):=fun q hq=>by
 rcases List.mem_append.1 hq with hq|hq
 ·exact h q hq
 ·rw [List.mem_singleton.1 hq];exact ⟨h1,h2⟩
theorem addF_few (t:List UInt8):∀ (k i:Nat) (l:List Pc),Few l→Few (addF t k i l).2
 | 0,i,l,h=>h
 | k+1,i,l,h=>by
  unfold addF
  split
  ·exact h
  ·split
   ·exact h
   ·split
    ·exact h
    ·exact addF_few t k (i+1) _ ⟨by simp;omega,few_snoc h.2 (readF_i64 _) (readF_i64 _)⟩
theorem moreR_few (s:List UInt8):∀ (n at_:Nat) (l:List Pc) (more:Bool),s.length - at_≤n→at_≤s.length→Few l→Few (moreR s at_ l more).2.1∧(moreR s at_ l more).2.2≤s.length:=by
 intro n
 induction n with
 | zero =>
  intro at_ l more hn ha hl
  rw [moreR]
  split
  ·exact ⟨hl,ha⟩
  ·rw [if_pos (by omega)]
   exact ⟨few_nil,ha⟩
 | succ n ih =>
  intro at_ l more hn ha hl
  rw [moreR]
  split
  ·exact ⟨hl,ha⟩
  ·split
   ·exact ⟨few_nil,ha⟩
   ·split
    ·exact ⟨few_nil,ha⟩
    ·exact ih _ _ _ (by omega) (by omega) (addF_few _ _ _ _ hl)
theorem holesR_few (s h:List UInt8) (at_:Nat) (ha:at_≤s.length):Few (holesR s h at_).2.1∧(holesR s h at_).2.2.2≤s.length∧i64 (holesR s h at_).2.2.1:=by
 have z:i64 (0:Int):=⟨by simp,by simp⟩
 unfold holesR
 split
 ·exact ⟨few_nil,ha,z⟩
 ·split
  ·exact ⟨few_nil,ha,z⟩
  ·have:=moreR_few s (s.length - at_) at_ (addF (h.drop 386) 4 0 []).2 (decide (h[482]?≠some 0)) (Nat.le_refl _) ha (addF_few _ _ _ _ few_nil)
   exact ⟨this.1,this.2,readF_i64 _⟩
theorem linesR_few:∀ (k:Nat) (r:List UInt8) (l:List Pc),l.length+k≤20→Fits l→Few (linesR k r l).2.1∧(linesR k r l).2.2.length≤r.length
 | 0,r,l,h,hf=>⟨⟨by show l.length≤20;omega,hf⟩,Nat.le_refl _⟩
 | k+1,r,l,h,hf=>by
  unfold linesR
  have h1:=lineR_range r
  have h2:=lineR_range (lineR r).2.2
  split
  ·exact ⟨few_nil,Nat.le_refl _⟩
  ·split
   ·exact ⟨few_nil,Nat.le_refl _⟩
   ·have:=linesR_few k (lineR (lineR r).2.2).2.2 (l++[((lineR r).2.1,(lineR (lineR r).2.2).2.1)]) (by simp;omega) (few_snoc hf (lineR_i64 _) (lineR_i64 _))
    exact ⟨this.1,by omega⟩
theorem newMapR_few (d:List UInt8):Few (newMapR d).2.1∧(newMapR d).2.2.length≤d.length:=by
 unfold newMapR
 split
 ·exact ⟨few_nil,by simp⟩
 ·split
  ·exact ⟨few_nil,by simp⟩
  ·next h20 =>
   have h1:=lineR_range d
   have h2:=linesR_few (lineR d).2.1.toNat (lineR d).2.2 [] (by simp;omega) (fun p h=>by cases h)
   split
   ·exact ⟨few_nil,by simp⟩
   ·unfold behindR
    split
    ·exact ⟨few_nil,by simp⟩
    ·exact ⟨h2.1,by simp only [List.length_drop];omega⟩
theorem takeF_ok (s:List UInt8) (a:Nat) (n most:Int) (ha:a≤s.length) (hm:most≤20000):(takeF s a n most).2.2≤s.length∧a≤(takeF s a n most).2.2∧(takeF s a n most).2.1.length≤20000∧((takeF s a n most).2.1.length:Int)≤max 0 most:=by
 unfold takeF
 split
 ·exact ⟨ha,Nat.le_refl _,by simp,by simp;omega⟩
 ·split
  ·exact ⟨ha,Nat.le_refl _,by simp,by simp;omega⟩
  ·next h1 h2 =>
   have hp:=padF_range n
   have h3:0≤n:=by omega
   have h4:n+padF n≤(s.length:Int) - a:=by omega
   refine ⟨by simp only;omega,by simp only;omega,?_,?_⟩
   ·simp only;unfold sub;rw [List.length_take];omega
   ·simp only;unfold sub;rw [List.length_take];omega
structure GoodE (e:EntL):Prop where
 ints:intsE e
 name:e.name.length≤10000
 link:e.link.length≤10000
 user:e.user.length≤10000
 group:e.group.length≤10000
 data:e.data.length≤20000
 map:Few e.map
theorem GoodE.ok {e:EntL} (h:GoodE e):EntOk e:=by
 have hr:20000≤reachBytes:=by unfold reachBytes;omega
 exact ⟨h.ints,⟨by have:=h.name;omega,by have:=h.link;omega,by have:=h.user;omega,by have:=h.group;omega,by have:=h.data;omega⟩,by have:=h.map.1;unfold maxLen;omega,h.map.2⟩
theorem parseF_i64 (l:List UInt8):i64 (St.parseF l).2.1∧i64 (St.parseF l).2.2:=by
 have z:i64 (0:Int):=⟨by simp,by simp⟩
 have key:∀ s n:Int,i64 (if St.rightB s n=true then ((0:Int),s,n) else (2,0,0)).2.1∧i64 (if St.rightB s n=true then ((0:Int),s,n) else (2,0,0)).2.2:=fun s n=>by
  split
  ·next h =>
   unfold St.rightB at h
   simp only [Bool.and_eq_true,decide_eq_true_eq] at h
   exact ⟨⟨by simp only;omega,by simp only;omega⟩,⟨by simp only;omega,by simp only;omega⟩⟩
  ·exact ⟨z,z⟩
 have ht:∀ a b c d,i64 (St.timeF a b c d).2.1∧i64 (St.timeF a b c d).2.2:=fun a b c d=>key _ _
 unfold St.parseF
 simp only
 split
 ·split
  ·exact ⟨z,z⟩
  ·exact ht _ _ _ _
 ·exact ⟨z,z⟩
theorem applyF_good {e:EntL} {p:PrL} (h:GoodE e) (hp:p.2.length≤10000):GoodE (applyF e p).1:=by
 obtain ⟨⟨i1,i2,i3,i4,i5,i6,i7,i8⟩,h1,h2,h3,h4,h5,h6⟩:=h
 have hq:=parseF_i64 p.2
 have hs:=smallF_i64 p.2
 unfold applyF
 split
 ·exact ⟨⟨i1,i2,i3,i4,i5,i6,i7,i8⟩,hp,h2,h3,h4,h5,h6⟩
 split
 ·exact ⟨⟨i1,i2,i3,i4,i5,i6,i7,i8⟩,h1,hp,h3,h4,h5,h6⟩
 split
 ·exact ⟨⟨i1,i2,i3,i4,i5,i6,i7,i8⟩,h1,h2,hp,h4,h5,h6⟩
 split
 ·exact ⟨⟨i1,i2,i3,i4,i5,i6,i7,i8⟩,h1,h2,h3,hp,h5,h6⟩
 split
 ·exact ⟨⟨i1,i2,i3,i4,hq.1,hq.2,i7,i8⟩,h1,h2,h3,h4,h5,h6⟩
 split
 ·exact ⟨⟨i1,hs,i3,i4,i5,i6,i7,i8⟩,h1,h2,h3,h4,h5,h6⟩
 split
 ·exact ⟨⟨i1,i2,hs,i4,i5,i6,i7,i8⟩,h1,h2,h3,h4,h5,h6⟩
 exact ⟨⟨i1,i2,i3,i4,i5,i6,i7,i8⟩,h1,h2,h3,h4,h5,h6⟩
theorem applyF_map (e:EntL) (p:PrL):(applyF e p).1.map=e.map:=by
 unfold applyF
 repeat (split;· rfl)
 rfl
theorem kindR_good {s h:List UInt8} {a:Nat} {e:EntL} {n:Int} {M:List PrL} (ha:a≤s.length) (he:GoodE e):GoodE (kindR s a e n h M).2.1∧(kindR s a e n h M).2.2≤s.length:=by
 have key:∀ (a:Nat) (e:EntL),a≤s.length→GoodE e→GoodE (dataR s a e n M).2.1∧(dataR s a e n M).2.2≤s.length:=fun a e ha he=>by
  have ht:=takeF_ok s a n 14240 ha (by omega)
  obtain ⟨⟨i1,i2,i3,i4,i5,i6,i7,i8⟩,h1,h2,h3,h4,h5,h6⟩:=id he
  unfold dataR
  split
  ·exact ⟨he,ha⟩
  ·refine ⟨?_,ht.1⟩
   unfold linedR
   split
   ·exact ⟨⟨i1,i2,i3,i4,i5,i6,i7,i8⟩,h1,h2,h3,h4,ht.2.2.1,h6⟩
   ·split
    ·exact he
    ·have hn:=newMapR_few (takeF s a n 14240).2.1
     exact ⟨⟨i1,i2,i3,smallF_i64 _,i5,i6,i7,i8⟩,h1,h2,h3,h4,by have:=hn.2;have:=ht.2.2.1;show (newMapR _).2.2.length≤_;omega,hn.1⟩
 obtain ⟨⟨i1,i2,i3,i4,i5,i6,i7,i8⟩,h1,h2,h3,h4,h5,h6⟩:=id he
 unfold kindR
 split
 ·split
  ·exact ⟨he,ha⟩
  ·have hh:=holesR_few s h a ha
   exact key _ _ hh.2.1 ⟨⟨i1,i2,i3,hh.2.2,i5,i6,i7,i8⟩,h1,h2,h3,h4,h5,hh.1⟩
 ·split
  ·exact key _ _ ha ⟨⟨i1,i2,i3,i4,i5,i6,i7,i8⟩,h1,h2,h3,h4,h5,h6⟩
  ·exact key _ _ ha he
theorem trimRB_len (l:List UInt8) (c:UInt8):(Lib.trimRightB l c).length≤l.length:=by
 unfold Lib.trimRightB
 rw [List.length_reverse]
 have:=(List.dropWhile_sublist (fun x=>x==c) (l:=l.reverse)).length_le
 rwa [List.length_reverse] at this
theorem settleF_good {e:EntL} (he:GoodE e):GoodE (settleF e):=by
 obtain ⟨⟨i1,i2,i3,i4,i5,i6,i7,i8⟩,h1,h2,h3,h4,h5,h6⟩:=he
 have z:i64 (0:Int):=⟨by simp,by simp⟩
 have ht:=trimRB_len e.name 47
 have iI:∀ (p:Prop) [Decidable p] (a:Int),i64 a→i64 (if p then a else 0):=fun p _ a ha=>by split;exact ha;exact z
 have iL:∀ (p:Prop) [Decidable p] (l:List UInt8) (n:Nat),l.length≤n→(if p then l else []).length≤n:=fun p _ l n h=>by split;exact h;simp
 have iN:∀ (p:Prop) [Decidable p],(if p then Lib.trimRightB e.name 47 else e.name).length≤10000:=fun p _=>by split <;> omega
 have iF:∀ (p:Prop) [Decidable p],Few (if p then e.map else []):=fun p _=>by split;exact h6;exact few_nil
 unfold settleF
 exact ⟨⟨i1,i2,i3,iI _ _ i4,i5,i6,iI _ _ i7,iI _ _ i8⟩,iN _,iL _ _ _ h2,h3,h4,iL _ _ _ h5,iF _⟩
end Go.Proofs.YtdjcjaidklgamaaGreatDoor
end
section
namespace Go.Proofs.YtdjcjaidklgamaaGreatDoor
open Go.RowKit Go.Shelf Go.Joins
theorem merge2 (A B:List PrL) (va vb:Value) (W:World) (hA:Px.SliceIs W va A) (hB:Px.SliceIs W vb B) (lA:A.length≤1000) (lB:B.length≤1000) (hz:∀ p∈A++B,p.1.length≤20000∧p.2.length≤20000) :
  Calls Tryz.prog 132 #[.slice (some ⟨W.heap.size,0,none⟩) 2 2] (W.alloc (.cells #[va,vb] 36)) fun e w'=>(∃ v,e=.returned v∧Px.SliceNew W.heap.size w' v (mergeF (A++B)))∧Below W.heap.size W w':=by
 have hr:20000≤reachBytes:=by unfold reachBytes;omega
 have hb0:=below_alloc1 W (.cells #[va,vb] 36)
 refine (Px.merge_new W.heap.size 2 [(va,A),(vb,B)] (by simp) (fun x hx=>?_) (fun x hx p hp=>?_) _ (by simp) (fun i x hx=>?_)).mono fun e w' ⟨⟨v,M,he,hv,hm⟩,hw⟩=>⟨⟨v,he,?_⟩,hb0.trans (hw.mono (by simp))⟩
 ·simp at hx
  rcases hx with rfl|rfl
  ·exact lA
  ·exact lB
 ·simp at hx
  have:=hz p (by rcases hx with rfl|rfl;exact List.mem_append_left _ hp;exact List.mem_append_right _ hp)
  exact ⟨by omega,by omega⟩
 ·match i,hx with
  | 0,hx=>simp at hx;rw [← hx];exact ⟨by simp,hA.below hb0⟩
  | 1,hx=>simp at hx;rw [← hx];exact ⟨by simp,hB.below hb0⟩
  | n+2,hx=>simp at hx
 ·have e2:([(va,A),(vb,B)].flatMap fun y=>y.2)=A++B:=by simp
  rw [e2] at hm
  rw [mergeF_eq hm]
  obtain ⟨ad,cap,h1,h2,h3,h4⟩:=hv
  exact ⟨ad,cap,h1,h2,h3,fun a ha=>by have:=h4 a ha;simp at this;omega⟩
abbrev zeroC:Array Value:=#[.string ⟨#[]⟩,.int .u8 0,.int .i64 0,.int .i64 0,.int .i64 0,.int .i64 0,.int .i64 0,.int .i64 0,.string ⟨#[]⟩,.string ⟨#[]⟩,.string ⟨#[]⟩,.int .i64 0,.int .i64 0,.string ⟨#[]⟩,.slice none 0 0]
structure MbS (w:World) (b c:Nat) (s:List UInt8) (r:RawL) (np lp:Option Addr) (gv ov:Value) (a:Nat) (e:EntL) (v:Value) (W:World):Prop where
 cge:w.heap.size+2≤c
 base:Bar w.heap.size [b] w W
 rdr:W.heap[b]?=some (.cells (rdrC s a np lp gv ov) 82 (0,0))
 raw:W.heap[w.heap.size]?=some (.cells (rawC r) 117 (0,0))
 res:W.heap[w.heap.size+1]?=some (.cells zeroC 26 (0,0))
 ent:W.heap[c]?=some (.cells (entC e v) 26 (0,0))
section
variable {w:World} {b c:Nat} {s:List UInt8} {r:RawL} {st:RSt} {np lp:Option Addr} {gv ov:Value} {a:Nat} {e:EntL} {v:Value} {W W':World}
theorem MbS.next (h:MbS w b c s r np lp gv ov a e v W) (hB:Below W.heap.size W W'):MbS w b c s r np lp gv ov a e v W' :=
 ⟨h.cge,h.base.trans (.of_below (hB.mono h.base.size)),(hB.block _ (Array.getElem?_eq_some_iff.1 h.rdr).1).trans h.rdr,(hB.block _ (Array.getElem?_eq_some_iff.1 h.raw).1).trans h.raw,(hB.block _ (Array.getElem?_eq_some_iff.1 h.res).1).trans h.res,(hB.block _ (Array.getElem?_eq_some_iff.1 h.ent).1).trans h.ent⟩
theorem MbS.to (h:MbS w b c s r np lp gv ov a e v W) (hb:b<w.heap.size) (hB:Bar W.heap.size [c] W W') {e':EntL} {v':Value} (hr:W'.heap[c]?=some (.cells (entC e' v') 26 (0,0))):MbS w b c s r np lp gv ov a e' v' W':=by
 have hc:=h.cge
 refine ⟨h.cge,h.base.trans ((hB.cut h.base.size).mono (Nat.le_refl _) (fun x hx hlt=>by simp at hx;omega)),hB.row h.rdr (Array.getElem?_eq_some_iff.1 h.rdr).1 ?_,hB.row h.raw (Array.getElem?_eq_some_iff.1 h.raw).1 ?_,hB.row h.res (Array.getElem?_eq_some_iff.1 h.res).1 ?_,hr⟩ <;> (simp;omega)
theorem MbS.set (h:MbS w b c s r np lp gv ov a e v W) (hb:b<w.heap.size) {i:Nat} {x:Value} {e':EntL} {v':Value} (hx:(entC e v).setIfInBounds i x=entC e' v'):MbS w b c s r np lp gv ov a e' v' (W.setCell ⟨c,i,none⟩ x):=by
 obtain ⟨h1,h2⟩:=setCell_row (i:=i) (v:=x) h.ent
 exact h.to hb ((Bar.refl W.heap.size [c] W).setCell (i:=i) (v:=x) h.ent (.inl (by simp))) (by rw [h1,hx])
theorem MbS.rdrAt (h:MbS w b c s r np lp gv ov a e v W) (hR:RdrAt w b s st np lp gv ov):RdrAt W b s { st with at_:=a } np lp gv ov:=hR.bar h.base (fun x hx _=>by simpa using hx) h.rdr
end
def MbOut (b:Nat) (s:List UInt8) (np lp:Option Addr) (gv ov:Value) (q:Nxt) (w:World) (r:Ending) (W:World):Prop :=
 Bar w.heap.size [b] w W∧((∃ k,q=.err k∧k≠0∧r=.returned (.tuple #[.agg zeroC,errV k])) ∨
  (∃ e a v,q=.found e a∧r=.returned (.tuple #[entV e v,.nilIface])∧PcNew w.heap.size W v e.map∧GoodE e∧a≤s.length∧W.heap[b]?=some (.cells (rdrC s a np lp gv ov) 82 (0,0))))
theorem settled_map (e:EntL) {n:Nat} {W:World} {v:Value} (hv:PcNew n W v e.map):PcNew n W (if e.kind=48∧endsS e.name=false then v else .slice none 0 0) (settleF e).map:=by
 unfold settleF
 simp only
 by_cases hk:e.kind=48
 ·cases he:endsS e.name
  ·simp [hk];exact hv
  ·simp [hk];exact pcNew_nil _ _
 ·simp [hk];exact pcNew_nil _ _
theorem entryR_eq (r:RawL) (st:RSt):entryR r st={ entryR r rst0 with name:=st.nm.getD (entryR r rst0).name,link:=st.lk.getD (entryR r rst0).link }:=rfl
theorem memberR_eq (s:List UInt8) (st:RSt) (r:RawL) (h:List UInt8):memberR s st r h =
  if (applyAll (entryR r st) (mergeF (st.G++st.O))).2≠0 then .err (applyAll (entryR r st) (mergeF (st.G++st.O))).2 else
  if (kindR s st.at_ (applyAll (entryR r st) (mergeF (st.G++st.O))).1 r.size h (mergeF (st.G++st.O))).1≠0 then .err (kindR s st.at_ (applyAll (entryR r st) (mergeF (st.G++st.O))).1 r.size h (mergeF (st.G++st.O))).1 else
  if rightE (settleF (kindR s st.at_ (applyAll (entryR r st) (mergeF (st.G++st.O))).1 r.size h (mergeF (st.G++st.O))).2.1) then .found (settleF (kindR s st.at_ (applyAll (entryR r st) (mergeF (st.G++st.O))).1 r.size h (mergeF (st.G++st.O))).2.1) (kindR s st.at_ (applyAll (entryR r st) (mergeF (st.G++st.O))).1 r.size h (mergeF (st.G++st.O))).2.2 else .err 1:=rfl
theorem entC_all (e:EntL) (v:Value) (h:v.oneCell'=true):(entC e v).all (fun x=>x.oneCell')=true:=entC_one _ ⟨_,_,_,_,_,_,_,_,_,_,_,_,_,_,_,rfl,h⟩
theorem zeroC_all:zeroC.all (fun x=>x.oneCell')=true:=entC_one _ ⟨_,_,_,_,_,_,_,_,_,_,_,_,_,_,_,rfl,rfl⟩
theorem entInfo:(Tryz.prog.info? 26).map (·.size)=some 15:=by kernel_rfl
theorem getL_len (M:List PrL) (key:List UInt8) (n:Nat) (h:∀ p∈M,p.2.length≤n):(Px.getL M key).length≤n:=by
 have:∀ (l:List PrL) (v:List UInt8),v.length≤n→(∀ p∈l,p.2.length≤n)→(l.foldl (fun v p=>if p.1=key then p.2 else v) v).length≤n:=by
  intro l
  induction l with
  | nil=>intro v hv _;exact hv
  | cons q l ih =>
   intro v hv hl
   rw [List.foldl_cons]
   refine ih _ ?_ fun p hp=>hl p (by simp [hp])
   split
   ·exact hl q (by simp)
   ·exact hv
 exact this M [] (by simp) h
theorem mbOut_bad {b c:Nat} {s:List UInt8} {r:RawL} {np lp:Option Addr} {gv ov:Value} {q:Nxt} {w W:World} {k:Int} (hk:k≠0) (hq:q=.err k) (hB:Bar w.heap.size [b] w W) :
  MbOut b s np lp gv ov q w (.returned (.tuple #[.agg zeroC,.iface 68 (.int .i64 k)])) W :=
 ⟨hB,.inl ⟨k,hq,hk,by rw [show errV k=.iface 68 (.int .i64 k) from if_neg hk]⟩⟩
structure Recs (L:List PrL) (M:List PrL):Prop where
 few:M.length≤2000
 short:∀ p∈M,p.1.length≤1000∧p.2.length≤1000
set_option maxRecDepth 100000 in
set_option maxHeartbeats 16000000 in
theorem member_any (b:Nat) (s:List UInt8) (st:RSt) (np lp:Option Addr) (gv ov:Value) (r:RawL) (h:List UInt8) (hh:h.length=512) (hs:s.length≤100000) (hat:st.at_≤s.length) (hz:sumT r≤10000) (hE1:GoodE (entryR r st)) (w:World) (hR:RdrAt w b s st np lp gv ov) (hA:Px.AtoiLaid w)
  (lG:st.G.length≤1000) (lO:st.O.length≤1000) (hGO:∀ p∈st.G++st.O,p.1.length≤1000∧p.2.length≤1000) (M:List PrL) (hM:mergeF (st.G++st.O)=M) (hMs:Recs (st.G++st.O) M) :
  Calls Tryz.prog 87 #[.pointer (some ⟨b,0,none⟩),rawV r,.string (mkS h)] w (MbOut b s np lp gv ov (memberR s st r h) w):=by
 have CE:=Lib.hid (fun w=>entry_any r (by omega) w)
 obtain ⟨gad,gcap,hgv,_,_⟩:=id hR.g
 obtain ⟨oad,ocap,hov,_,_⟩:=id hR.o
 subst hgv hov
 have HR:=Lib.hid hR
 have HLt:=Lib.hid hR.lt
 have CM:=Lib.hid (fun (e:EntL) (v:Value) (c:Nat) (W:World) (hS:MbS w b c s r np lp (.slice gad st.G.length gcap) (.slice oad st.O.length ocap) st.at_ e v W)=>merge2 st.G st.O (.slice gad st.G.length gcap) (.slice oad st.O.length ocap) W (hS.rdrAt hR).g (hS.rdrAt hR).o lG lO (fun p hp=>by have:=hGO p hp;omega))
 rw [hM] at CM
 obtain ⟨Z,hZ⟩:∃ Z,memberR s st r h=Z:=⟨_,rfl⟩
 rw [hZ]
 have HZ:=Lib.hid (show Z=_ from hZ.symm.trans (memberR_eq s st r h))
 rw [hM] at HZ
 obtain ⟨AA,hAA⟩:∃ q,applyAll (entryR r st) M=q:=⟨_,rfl⟩
 have HAA:=Lib.hid hAA
 rw [hAA] at HZ
 have HG1:=Lib.hid hE1
 have hent:=entryR_eq r st
 obtain ⟨E1,hE1'⟩:∃ E,entryR r st=E:=⟨_,rfl⟩
 rw [hE1'] at HAA HG1 hent
 obtain ⟨E0,hE0⟩:∃ E,entryR r rst0=E:=⟨_,rfl⟩
 rw [hE0] at CE hent
 have HM0:=Lib.hid (show E1.map=[] by rw [hent,← hE0];rfl)
 have HEnt:=Lib.hid hent
 have HMs:=Lib.hid hMs
 have HA:=Lib.hid hA
 have HB:=Lib.hid (And.intro hh (And.intro hs hat))
 have T1:=hR.nm
 have T2:=hR.lk
 generalize st.G.length=gl at *
 generalize st.O.length=ol at *
 unfold entV at CE
 unfold rawV at CE ⊢
 clear hR hA hM hZ hAA hE1 hent hE1' hE0 hMs hGO lG lO hh hs hat hz
 go_enter Tryz.func87,Tryz.ntmps87
 go_upto_region 2 with (first
  |(go_at_call 133;(with_reducible refine (CE.out _).mono ?_);rintro e w2 ⟨rfl,g⟩;have G2:=Lib.hid g;clear g)
  | fail)
 have hsz:(w.alloc (.cells (rawC r) 117)).heap.size=w.heap.size+1:=Array.size_push ..
 have hsz2:((w.alloc (.cells (rawC r) 117)).alloc (.cells zeroC 26)).heap.size=w.heap.size+2:=by simp
 have h2:=G2.out
 rw [hsz2] at h2
 have hb2:=(below_alloc2 w (.cells (rawC r) 117) (.cells zeroC 26))
 have hb3:=hb2.trans (h2.mono (by omega))
 have hcz:w.heap.size+2≤w2.heap.size:=by have:=h2.size;rw [hsz2] at this;exact this
 have hb4:=(Below.refl w2.heap.size w2).alloc (Nat.le_refl _) (.cells (entC E0 (.slice none 0 0)) 26)
 have H3:=Lib.hid (show MbS w b w2.heap.size s r np lp (.slice gad gl gcap) (.slice oad ol ocap) st.at_ E0 (.slice none 0 0) (w2.alloc (.cells (entC E0 (.slice none 0 0)) 26)) from by
  refine ⟨hcz,.of_below (hb3.trans (hb4.mono (by omega))),?_,?_,?_,heap_alloc_new w2 _⟩
  ·rw [hb4.block b (by have:=HLt.out;omega),hb3.block b HLt.out];exact HR.out.row
  ·rw [hb4.block _ (by omega),h2.block _ (by omega)]
   have e1:=((Below.refl (w.heap.size+1) (w.alloc (.cells (rawC r) 117))).alloc (Nat.le_of_eq hsz.symm) (.cells zeroC 26)).block w.heap.size (Nat.lt_succ_self _)
   exact e1.trans (heap_alloc_new w _)
  ·rw [hb4.block _ (by omega),h2.block _ (by omega)]
   have:=heap_alloc_new (w.alloc (.cells (rawC r) 117)) (.cells zeroC 26)
   rwa [hsz] at this)
 clear hsz hsz2 h2 hb2 hb3 hcz hb4 G2 CE
 obtain ⟨c,hc⟩:∃ c,w2.heap.size=c:=⟨_,rfl⟩
 rw [hc] at H3
 rw [hc]
 clear hc
 unfold entC at H3
 generalize (w2.alloc (.cells _ 26))=w3 at *
 have k2:=row_cell H3.out.rdr 2 (.pointer np) rfl
 have hq:∀ w,(binOp .neq 80 (.pointer np) (.pointer none)).run Tryz.prog w=.ok (.bool np.isSome) w:=fun w=>by cases np <;> rfl
 go_upto_if 20 with fail
 go_cut [7] (fun s7 wx=>s7=.nilIface∧MbS w b c s r np lp (.slice gad gl gcap) (.slice oad ol ocap) st.at_ { E0 with name:=st.nm.getD E0.name } (.slice none 0 0) wx)
 case first=>as_aux_lemma =>
  have hb:=HLt.out
  rcases T1 with ⟨rfl,hn⟩|⟨tc,tx,rfl,hn,t1,t2,t3⟩
  ·have H4:=Lib.hid (show MbS w b c s r none lp (.slice gad gl gcap) (.slice oad ol ocap) st.at_ { E0 with name:=st.nm.getD E0.name } (.slice none 0 0) w3 from by rw [hn];exact H3.out)
   clear hn
   go_wp2_with fail
   go_meet
   exact ⟨rfl,H4.out⟩
  ·have k3:=row_cell (H3.out.base.row t3 t1 (by simp;exact t2)) 0 (.string (mkS tx)) rfl
   have c0:=row_cell H3.out.ent 0 (.string (mkS E0.name)) rfl
   have f0:=row_free H3.out.ent 0
   have H4:=Lib.hid (H3.out.set hb (i:=0) (x:=.string (mkS tx)) (e':={ E0 with name:=tx }) (v':=.slice none 0 0) rfl)
   have HN:=Lib.hid hn
   clear hn t1 t2 t3 hb
   go_wp2_with fail
   go_meet
   exact ⟨rfl,by rw [HN.out];exact H4.out⟩
 case rest =>
  obtain ⟨rfl,h4⟩:=hcut
  have H4:=Lib.hid h4
  clear h4 k2 hq H3
  have k3:=row_cell H4.out.rdr 3 (.pointer lp) rfl
  have hq:∀ w,(binOp .neq 80 (.pointer lp) (.pointer none)).run Tryz.prog w=.ok (.bool lp.isSome) w:=fun w=>by cases lp <;> rfl
  go_upto_if 32 with fail
  go_cut [7] (fun s7 wx=>s7=.nilIface∧MbS w b c s r np lp (.slice gad gl gcap) (.slice oad ol ocap) st.at_ E1 (.slice none 0 0) wx)
  case first=>as_aux_lemma =>
   have hb:=HLt.out
   rcases T2 with ⟨rfl,hn⟩|⟨tc,tx,rfl,hn,t1,t2,t3⟩
   ·have h5:=H4.out
    rw [show ({ E0 with name:=st.nm.getD E0.name }:EntL)=E1 from by rw [HEnt.out,hn];rfl] at h5
    have H5:=Lib.hid h5
    clear hn h5
    go_wp2_with fail
    go_meet
    exact ⟨rfl,H5.out⟩
   ·have k4:=row_cell (H4.out.base.row t3 t1 (by simp;exact t2)) 0 (.string (mkS tx)) rfl
    have c8:=row_cell H4.out.ent 8 (.string (mkS E0.link)) rfl
    have f8:=row_free H4.out.ent 8
    have H5:=Lib.hid (H4.out.set hb (i:=8) (x:=.string (mkS tx)) (e':={ E0 with name:=st.nm.getD E0.name,link:=tx }) (v':=.slice none 0 0) rfl)
    have HN:=Lib.hid hn
    clear hn t1 t2 t3 hb
    go_wp2_with fail
    go_meet
    exact ⟨rfl,by rw [HEnt.out,HN.out];exact H5.out⟩
  case rest =>
   obtain ⟨rfl,h5⟩:=hcut
   have H5:=Lib.hid h5
   clear h5 k3 hq H4 T1 T2
   have k4:=row_cell H5.out.rdr 4 (.slice gad gl gcap) rfl
   have k5:=row_cell H5.out.rdr 5 (.slice oad ol ocap) rfl
   go_upto_region 6 with fail
   go_still_tail 8,(by kernel_rfl)
   change wpList _ _ _ _ _ (World.drew _)
   have H6:=Lib.hid (H5.out.next ((Below.refl _ _).drew))
   clear k4 k5 H5
   generalize (World.drew _)=w6 at *
   have CM2:=Lib.hid (CM.out _ _ _ _ H6.out)
   have hcw:c<w6.heap.size:=(Array.getElem?_eq_some_iff.1 H6.out.ent).1
   have Hcw:=Lib.hid hcw
   clear hcw CM
   go_upto_region 7 with (first
    |(go_at_call 132;(with_reducible refine CM2.out.mono ?_);rintro e w7 ⟨⟨rv,rfl,g1⟩,g2⟩;have H7:=Lib.hid (H6.out.next g2);have HS:=Lib.hid g1;have HZ7:=Lib.hid g2.size;clear g1 g2)
    | fail)
   clear CM2
   obtain ⟨mad,mcap,hrv,_,_,_⟩:=id HS.out
   subst hrv
   have hML:=HMs.out.few
   have HRec:=HMs.out.short
   have HSz:=Lib.hid (show w6.heap.size≤w7.heap.size from HZ7.out)
   go_upto_region 8 with fail
   go_loopg [52,11,12] M.length (fun g s52 _ _ wr=>∃ (i:Nat) (e:EntL),i≤M.length∧M.length - i≤g∧s52=.int .i64 (i:Int)∧Aside (MbS w b c s r np lp (.slice gad gl gcap) (.slice oad ol ocap) st.at_ e (.slice none 0 0) wr∧Px.SliceNew w6.heap.size wr (.slice mad M.length mcap) M∧applyAll e (M.drop i)=AA∧GoodE e∧e.map=[]∧w6.heap.size≤wr.heap.size))
   case atStart=>exact ⟨0,E1,by omega,by omega,rfl,H7.out,HS.out,HAA.out,HG1.out,HM0.out,HSz.out⟩
   case round =>
    obtain ⟨i,e,hi,hg,rfl,A⟩:=hrel
    have HI:=Lib.hid A.out
    clear A
    have hb:=HLt.out
    by_cases hil:i<M.length
    ·obtain ⟨p,hp⟩:∃ p,M[i]?=some p:=⟨_,List.getElem?_eq_getElem hil⟩
     obtain ⟨mad',mcap',hrv,_,hmp,_⟩:=id HI.out.2.1
     injection hrv with hr1 hr2 hr3
     subst hr1 hr3
     obtain ⟨mb,moff,e0,mlt,d1,d2⟩:=hmp i p hp
     subst e0
     have hpl:=HRec p (List.mem_of_getElem? hp)
     have hdr:M.drop i=p :: M.drop (i+1):=by
      rw [List.drop_eq_getElem_cons hil]
      rw [List.getElem?_eq_getElem hil] at hp
      rw [Option.some.inj hp]
     have hstep:=HI.out.2.2.1
     rw [hdr,applyAll] at hstep
     have hgood:=applyF_good (p:=p) HI.out.2.2.2.1 (by have:=hpl.2;omega)
     have hmap:=applyF_map e p
     have CA:=Lib.hid (fun W (hS:MbS w b c s r np lp (.slice gad gl gcap) (.slice oad ol ocap) st.at_ e (.slice none 0 0) W)=>apply_any c e (.slice none 0 0) p (by have:=hpl.2;omega) (fun _=>hpl.2) W (laid_bar HA.out HR.out hS.base) hS.ent)
     unfold Applied at CA
     generalize applyF e p=Q2 at *
     obtain ⟨e2,k2⟩:=Q2
     simp only at CA hstep hgood hmap
     have HP:=Lib.hid (HI.out.1.next (Below.refl wr.heap.size wr |>.alloc (Nat.le_refl _) (.cells #[.string (mkS p.1),.string (mkS p.2)] 43)))
     have HPs:=Lib.hid (show Px.SliceNew w6.heap.size (wr.alloc (.cells #[.string (mkS p.1),.string (mkS p.2)] 43)) (.slice (some ⟨mb,moff,none⟩) M.length mcap) M from sliceNew_bar (X:=[]) HI.out.2.1 (.of_below ((Below.refl _ _).alloc (Nat.le_refl _) _)) (fun x hx=>by cases hx))
     clear hdr hp hmp
     by_cases hk:k2=0
     ·subst hk
      rw [if_neg (by simp)] at hstep
      rw [show errV 0=.nilIface from rfl] at CA
      have HX:=Lib.hid (And.intro hstep (And.intro hgood hmap))
      clear hstep hgood hmap
      go_wp2_with (first
       |(go_at_call 134;(with_reducible refine (CA.out _ HP.out).mono ?_);rintro q w8 ⟨rfl,g1,g2⟩;have H8:=Lib.hid (HP.out.to hb g2 g1);have HS8:=Lib.hid (sliceNew_bar HPs.out g2 (fun x hx=>by have:=Hcw.out;simp at hx;omega));have HZ8:=Lib.hid g2.size;clear g1 g2)
       | fail)
      go_roundg (M.length - (i+1))
      case measure=>omega
      case rel=>exact ⟨i+1,e2,by omega,by omega,by first|rfl|simp,H8.out,HS8.out,HX.out.1,HX.out.2.1,HX.out.2.2.trans HI.out.2.2.2.2.1,by have h1:=HZ8.out;have h2:=HI.out.2.2.2.2.2;simp at h1;omega⟩
     ·rw [if_pos hk] at hstep
      have hE:errV k2=.iface 68 (.int .i64 k2):=if_neg hk
      rw [hE] at CA
      have HX:=Lib.hid (And.intro hstep hk)
      clear hstep hgood hmap hk hE
      go_wp2_with (first
       |(go_at_call 134;(with_reducible refine (CA.out _ HP.out).mono ?_);rintro q w8 ⟨rfl,g1,g2⟩;have H8:=Lib.hid (HP.out.to hb g2 g1);clear g1 g2)
       |(refine wpList_store_row rfl _ _ _ rfl (w.heap.size+1) zeroC rfl rfl _ _ H8.out.res (by kernel_rfl) rfl zeroC_all ?_;have HR9:=Lib.hid (setRow_heap _ _ _ zeroC _ _ H8.out.res);have HB9:=Lib.hid (H8.out.base.setRow (b:=w.heap.size+1) (.inr (Nat.le_succ _)) zeroC);generalize (World.setRow _ _ _)=w9 at *)
       | fail)
      refine bodyPost_ret (results_row2 rfl _ _ (w.heap.size+1) _ _ _ _ rfl HR9.out Tryz.underlying26 rfl entInfo) rfl ?_
      exact mbOut_bad (c:=c) (r:=r) HX.out.2 (by rw [HZ.out,← HX.out.1,if_pos HX.out.2]) HB9.out
    ·obtain rfl:i=M.length:=by omega
     have hAA:=HI.out.2.2.1
     rw [List.drop_length,applyAll] at hAA
     subst hAA
     have hZ:=HZ.out
     rw [if_neg (by simp)] at hZ
     simp only at hZ
     have hcge:=HI.out.1.cge
     have C:=Lib.hid (show DCtx w wr b c w6.heap.size s st np lp (.slice gad gl gcap) (.slice oad ol ocap) (.slice mad M.length mcap) M from
      ⟨HR.out,HA.out,by omega,by have:=Hcw.out;omega,Hcw.out,HI.out.2.2.2.2.2,by omega,HB.out.2.1,HI.out.2.1,by omega,Nat.le_trans (getL_len M realK 1000 fun p hp=>(HRec p hp).2) (by omega)⟩)
     have T0:=Lib.hid (show TwoAt w wr b c w6.heap.size s np lp (.slice gad gl gcap) (.slice oad ol ocap) st.at_ e (.slice none 0 0) wr from
      ⟨HI.out.1.base,Bar.refl _ _ _,HI.out.1.rdr,HI.out.1.ent,by rw [HI.out.2.2.2.2.1];exact pcNew_nil _ _⟩)
     have CD:=Lib.hid (data_any C.out st.at_ HB.out.2.2 e HI.out.2.2.2.2.1 r.size h HB.out.1 T0.out (holesR_few s h st.at_ HB.out.2.2).2.1)
     have hkg:=kindR_good (h:=h) (n:=r.size) (M:=M) HB.out.2.2 HI.out.2.2.2.1
     unfold DataOut at CD
     generalize kindR s st.at_ e r.size h M=Q3 at *
     obtain ⟨k3,e3,a3⟩:=Q3
     simp only at CD hZ hkg
     have k9:=row_cell HI.out.1.raw 9 (.int .i64 r.size) rfl
     clear hi hg
     by_cases hk:k3=0
     ·subst hk
      rw [if_neg (by simp)] at hZ
      rw [show errV 0=.nilIface from rfl] at CD
      have hne:=hkg.1.name
      have CS:=Lib.hid (fun v W (hT:TwoAt w wr b c w6.heap.size s np lp (.slice gad gl gcap) (.slice oad ol ocap) a3 e3 v W)=>settle_any c e3 v (by omega) W hT.ent)
      have hsg:=settleF_good hkg.1
      have hsm:=Lib.hid (fun (n:Nat) (W:World) (v:Value) (h:PcNew n W v e3.map)=>settled_map e3 h)
      generalize settleF e3=S at *
      have HX:=Lib.hid (And.intro hZ (And.intro hsg hkg.2))
      clear hZ hsg hkg hne
      go_upto_region 17 with (first
       |(go_at_call 135;(with_reducible refine CD.out.mono ?_);rintro q w8 ⟨rfl,g1,g2,g3⟩;obtain ⟨v3,g4⟩:=g3 rfl;have T8:=Lib.hid g4;have H8:=Lib.hid (show MbS w b c s r np lp (.slice gad gl gcap) (.slice oad ol ocap) a3 e3 v3 w8 from ⟨hcge,g1,g4.rdr,g2.row HI.out.1.raw (Array.getElem?_eq_some_iff.1 HI.out.1.raw).1 (by simp;omega),g2.row HI.out.1.res (Array.getElem?_eq_some_iff.1 HI.out.1.res).1 (by simp;omega),g4.ent⟩);clear g1 g2 g3 g4)
       | fail)
      clear CD C T0 k9
      go_upto_region 18 with (first
       |(go_at_call 136;(with_reducible refine (CS.out _ _ T8.out).mono ?_);rintro q wa ⟨⟨x,rfl⟩,g1,g2⟩;have Ha:=Lib.hid (H8.out.to hb g2 g1);have HPa:=Lib.hid ((hsm.out _ _ _ T8.out.map).bar g2 (fun x hx=>by have:=Hcw.out;simp at hx;omega));clear g1 g2)
       | fail)
      clear CS T8
      have hHx:=Ha.out
      have hPy:=HPa.out
      obtain ⟨vad,vcap,hv4,_,hpa,_,_,_⟩:=id hPy
      rw [hv4] at hHx hPy
      have HPx:=Lib.hid hpa
      have HPy:=Lib.hid hPy
      have Hx:=Lib.hid hHx
      have CR:=Lib.hid (fun W (hp:PiecesAt W vad S.map)=>rightM_any S vad vcap HX.out.2.1.ok W hp)
      obtain ⟨sl,hsl⟩:∃ n,S.map.length=n:=⟨_,rfl⟩
      have HSL:=Lib.hid hsl
      rw [hsl] at CR Hx HPy
      clear hv4 hpa hHx hPy Ha HPa hsm hsl
      unfold entV at CR
      obtain ⟨c0,c1,c2,c3,c4,c5,c6,c7,c8,c9,c10,c11,c12,c13,c14⟩:=id (EntAt.of_row Hx.out.ent)
      cases hri:rightE S with
      | false =>
       rw [hri] at CR
       have HRI:=Lib.hid hri
       clear hri
       go_wp2_with (first
        |(go_at_call 23;(with_reducible refine (CR.out _ HPx.out).mono ?_);rintro q wb ⟨rfl,g⟩;have Hb:=Lib.hid (Hx.out.next g);have HPb:=Lib.hid (PcNew.bar (X:=[]) HPy.out (.of_below g) (fun x hx=>by cases hx));clear g c0 c1 c2 c3 c4 c5 c6 c7 c8 c9 c10 c11 c12 c13 c14;obtain ⟨c0,c1,c2,c3,c4,c5,c6,c7,c8,c9,c10,c11,c12,c13,c14⟩:=id (EntAt.of_row Hb.out.ent))
        |(refine wpList_store_row rfl _ _ _ rfl (w.heap.size+1) zeroC rfl rfl _ _ Hb.out.res (by kernel_rfl) rfl zeroC_all ?_;have HR9:=Lib.hid (setRow_heap _ _ _ zeroC _ _ Hb.out.res);have HB9:=Lib.hid (Hb.out.base.setRow (b:=w.heap.size+1) (.inr (Nat.le_succ _)) zeroC);generalize (World.setRow _ _ _)=w9 at *)
        | fail)
       refine bodyPost_ret (results_row2 rfl _ _ (w.heap.size+1) _ _ _ _ rfl HR9.out Tryz.underlying26 rfl entInfo) rfl ?_
       exact mbOut_bad (c:=c) (r:=r) (k:=1) (by decide) (by rw [HX.out.1,HRI.out];rfl) HB9.out
      | true =>
       rw [hri] at CR
       have HRI:=Lib.hid hri
       clear hri
       go_wp2_with (first
        |(go_at_call 23;(with_reducible refine (CR.out _ HPx.out).mono ?_);rintro q wb ⟨rfl,g⟩;have Hb:=Lib.hid (Hx.out.next g);have HPb:=Lib.hid (PcNew.bar (X:=[]) HPy.out (.of_below g) (fun x hx=>by cases hx));clear g c0 c1 c2 c3 c4 c5 c6 c7 c8 c9 c10 c11 c12 c13 c14;obtain ⟨c0,c1,c2,c3,c4,c5,c6,c7,c8,c9,c10,c11,c12,c13,c14⟩:=id (EntAt.of_row Hb.out.ent))
        |(refine wpList_store_row rfl _ _ _ rfl (w.heap.size+1) (entC S (.slice vad sl vcap)) rfl rfl _ _ Hb.out.res (by kernel_rfl) rfl (entC_all _ _ rfl) ?_;have HR9:=Lib.hid (setRow_heap _ _ _ (entC S (.slice vad sl vcap)) _ _ Hb.out.res);have HB9:=Lib.hid (Hb.out.base.setRow (b:=w.heap.size+1) (.inr (Nat.le_succ _)) (entC S (.slice vad sl vcap)));have HD9:=Lib.hid ((setRow_other _ (w.heap.size+1) b (entC S (.slice vad sl vcap)) (by omega)).trans Hb.out.rdr);have HP9:=Lib.hid (HPb.out.bar (X:=[w.heap.size+1]) ((Bar.refl _ _ _).setRow (b:=w.heap.size+1) (.inl (by simp)) (entC S (.slice vad sl vcap))) (fun x hx=>by have:=Hcw.out;simp at hx;omega));generalize (World.setRow _ _ _)=w9 at *)
        | fail)
       refine bodyPost_ret (results_row2 rfl _ _ (w.heap.size+1) _ _ _ _ rfl HR9.out Tryz.underlying26 rfl entInfo) rfl ?_
       exact ⟨HB9.out,.inr ⟨S,a3,_,by rw [HX.out.1,HRI.out];rfl,rfl,HP9.out.mono (by have:=Hcw.out;omega),HX.out.2.1,HX.out.2.2,HD9.out⟩⟩
     ·rw [if_pos hk] at hZ
      have hE:errV k3=.iface 68 (.int .i64 k3):=if_neg hk
      rw [hE] at CD
      have HX:=Lib.hid (And.intro hZ hk)
      clear hZ hkg hE
      go_wp2_with (first
       |(go_at_call 135;(with_reducible refine CD.out.mono ?_);rintro q w8 ⟨rfl,g1,g2,_⟩;have H8:=Lib.hid (And.intro g1 (g2.row HI.out.1.res (Array.getElem?_eq_some_iff.1 HI.out.1.res).1 (by simp;omega)));clear g1 g2)
       |(refine wpList_store_row rfl _ _ _ rfl (w.heap.size+1) zeroC rfl rfl _ _ H8.out.2 (by kernel_rfl) rfl zeroC_all ?_;have HR9:=Lib.hid (setRow_heap _ _ _ zeroC _ _ H8.out.2);have HB9:=Lib.hid (H8.out.1.setRow (b:=w.heap.size+1) (.inr (Nat.le_succ _)) zeroC);generalize (World.setRow _ _ _)=w9 at *)
       | fail)
      refine bodyPost_ret (results_row2 rfl _ _ (w.heap.size+1) _ _ _ _ rfl HR9.out Tryz.underlying26 rfl entInfo) rfl ?_
      exact mbOut_bad (c:=c) (r:=r) HX.out.2 (by rw [HX.out.1]) HB9.out
end Go.Proofs.YtdjcjaidklgamaaGreatDoor
end
