import Derived.Test.YtdjcjaidklgamaaGreatDoorQWh
import Derived.Test.YtdjcjaidklgamaaGreatDoorQHw
import Derived.Test.YtdjcjaidklgamaaGreatDoorQHo
import Derived.Test.YtdjcjaidklgamaaGreatDoorQPb
import Derived.Sort.LoopGhostIn
import Derived.Shelf.Strings.BuilderK
import Derived.Deep.DeepCutAuto
import Derived.Test.YtdjcjaidklgamaaGreatDoorQMf
set_option linter.unusedSimpArgs false
set_option linter.unusedVariables false
section
namespace Go.Proofs.YtdjcjaidklgamaaGreatDoor
open Go.RowKit Go.Joins
set_option linter.unusedVariables false
set_option linter.unusedSimpArgs false
def Bd (B b:Nat) (l:List UInt8) (w:World):Prop:=Lib.IsBuilderF 99 5 B b (Lib.byteCells l) w
abbrev Kp (b:Nat) (w w':World):Prop:=Lib.OthersKept 5 (some b) w w'
theorem bd_new (w:World):Bd w.heap.size w.heap.size [] (w.alloc (.cells #[.pointer none,.slice none 0 0] 99)):=.of (Lib.fresh_isBuilder 99 5 w)
theorem bd_below {B b:Nat} {l:List UInt8} {w w':World} (h:Bd B b l w) (hb:Below w.heap.size w w'):Bd B b l w':=by
 have row:∀ {v:Value} {n:Nat} {xs:List Value},w.ownsRowF B 5 1 v n xs→w'.ownsRowF B 5 1 v n xs:=fun {v n xs} hr=>by
  refine ⟨hr.1,?_⟩
  rcases hr.2 with h0|⟨g,cap,cur,fz,h1,h2,h3,h4⟩
  ·exact Or.inl h0
  ·exact Or.inr ⟨g,cap,cur,fz,h1,h2,(hb.block g (Array.getElem?_eq_some_iff.1 h3).1).trans h3,h4⟩
 rcases h with ⟨h1,v,h2,h3,h4⟩|⟨h1,v,h2,h3,h4⟩
 ·exact Or.inl ⟨h1,v,(hb.block _ (Array.getElem?_eq_some_iff.1 h2).1).trans h2,row h3,h4⟩
 ·exact Or.inr ⟨h1,v,(hb.block _ (Array.getElem?_eq_some_iff.1 h2).1).trans h2,row h3,h4⟩
theorem bd_write (B b:Nat) (l s:List UInt8) (w:World) (h:Bd B b l w) (hl:l.length+s.length≤1000000) (hB:B≤w.heap.size) :
  Calls Tryz.prog 58 #[.pointer (some ⟨b,0,none⟩),.string (mkS s)] w fun e w'=>e=.returned (.tuple #[.int .i64 (s.length:Int),.nilIface])∧Bd B b (l++s) w'∧Below B w w'∧Kp b w w':=by
 refine (Any.Builder_WriteString_k bld166 Tryz.Builder_Extra_105 B b _ (mkS s) w h (by rw [Lib.byteCells_length,mkS_size];omega) hB).mono fun e w' ⟨h5,h6,h7,h8⟩=>⟨by rw [h5,mkS_size],Or.inr ?_,h7,h8⟩
 have hc:Lib.byteCells l++Lib.strCells (mkS s)=Lib.byteCells (l++s):=by
  unfold Lib.strCells Lib.byteCells;rw [mkS_list,List.map_append]
 rw [hc] at h6
 exact h6
theorem bd_byte (B b:Nat) (l:List UInt8) (c:UInt8) (w:World) (h:Bd B b l w) (hl:l.length+1≤1000000) (hB:B≤w.heap.size) :
  Calls Tryz.prog 120 #[.pointer (some ⟨b,0,none⟩),.int .u8 (c.toNat:Int)] w fun e w'=>e=.returned .nilIface∧Bd B b (l++[c]) w'∧Below B w w'∧Kp b w w':=by
 refine (Any.Builder_WriteByte_k bld167 bldX B b _ (c.toNat:Int) w h (by rw [Lib.byteCells_length];omega) hB).mono fun e w' ⟨h5,h6,h7,h8⟩=>⟨h5,Or.inr ?_,h7,h8⟩
 have hc:Lib.byteCells l++[Value.int .u8 (c.toNat:Int)]=Lib.byteCells (l++[c]):=by
  unfold Lib.byteCells;rw [List.map_append];rfl
 rw [hc] at h6
 exact h6
theorem bd_byteI (B b:Nat) (l:List UInt8) (c:UInt8) (D:Int) (hD:D=(c.toNat:Int)) (w:World) (h:Bd B b l w) (hl:l.length+1≤1000000) (hB:B≤w.heap.size) :
  Calls Tryz.prog 120 #[.pointer (some ⟨b,0,none⟩),.int .u8 D] w fun e w'=>e=.returned .nilIface∧Bd B b (l++[c]) w'∧Below B w w'∧Kp b w w':=by
 subst hD
 exact bd_byte B b l c w h hl hB
theorem bd_string (B b:Nat) (l:List UInt8) (w:World) (h:Bd B b l w) (hB:B≤w.heap.size) :
  Calls Tryz.prog 61 #[.pointer (some ⟨b,0,none⟩)] w fun e w'=>e=.returned (.string (mkS l))∧Below B w w' :=
 (Any.Builder_String_any_f Tryz.lays169 Tryz.Builder_Extra_169 B b l w h hB).mono fun e w' h=>⟨h.1,by first|exact h.2|exact h.2.1|exact h.2.2⟩
theorem Kp.row {b k:Nat} {w w':World} {cs:Array Value} {t:TypeId} {fr:Nat × Nat} (h:Kp b w w') (hk:w.heap[k]?=some (.cells cs t fr)) (hb:k≠b) (ht:t≠5):w'.heap[k]?=some (.cells cs t fr) :=
 h k _ hk (fun e=>hb (Option.some.inj e)) (fun c fz e=>ht (by injection e))
theorem octL_str (n:Int):strOfNums (octNums n 12)=mkS (octL n):=by
 rw [← mkS_self (strOfNums (octNums n 12)),strOf_list];rfl
theorem octL_length (n:Int):(octL n).length=12:=by
 unfold octL
 rw [List.length_map,octNums_length n 12 (by omega)]
theorem most12:mostF ((12:Nat):Int)=8589934591:=by decide
theorem octal_mem (n:Int) (h0:0≤n) (h1:n≤8589934591) (w:World) :
  Calls Tryz.prog 117 #[.int .i64 n] w fun e w'=>e=.returned (.string (mkS (octL n)))∧Below w.heap.size w w':=by
 have C:=Lib.hid (fun w=>show Calls Tryz.prog 155 #[.int .i64 n,.int .i64 12] w fun e w'=>e=.returned (.tuple #[.string (mkS (octL n)),.nilIface])∧Below w.heap.size w w' by
  rw [← octL_str];exact octal_ok n 12 w (by omega) (by omega) h0 (by rw [most12];exact h1))
 go_enter Tryz.func117,Tryz.ntmps117
 go_wp2_with (go_at_call 155;(with_reducible refine (C.out _).mono ?_);rintro e w2 ⟨rfl,h2⟩)
 go_ret
 exact ⟨rfl,h2⟩
theorem addr_zero (a:Addr):a.add 0=a:=by unfold Addr.add;rw [if_pos rfl]
theorem piecesAt_drop {W:World} {b off:Nat} {l:List Pc} (n:Nat) (h:PiecesAt W (some ⟨b,off,none⟩) l):PiecesAt W (some ⟨b,off+n * 2,none⟩) (l.drop n):=fun j p hj=>by
 rw [List.getElem?_drop] at hj
 obtain ⟨b',o',e,h1,h2,h3⟩:=h (n+j) p hj
 cases e
 refine ⟨b,off+n * 2,rfl,h1,?_,?_⟩
 ·rw [show off+n * 2+j * 2=off+(n+j) * 2 by omega];exact h2
 ·rw [show off+n * 2+j * 2=off+(n+j) * 2 by omega];exact h3
theorem pieces_to (ad:Option Addr) (len cap n:Nat) (hc:n≤cap) (w:World):(Instr.slice 24 (.slice ad len cap) none (some (.int .i64 (n:Int))) none).run Tryz.prog w=.ok (.slice ad n cap) w:=by
 have ht:Tryz.prog.underlying 24=some (.slice (Tryz.prog.elem 24)):=by kernel_rfl
 have hsz:(Go.sizeOf (Tryz.prog.elem 24)).run Tryz.prog w=.ok 2 w:=by kernel_rfl
 rw [run_slice_h (w:=w) 24 ad len cap ht .i64 n (by omega) (by omega),hsz]
 simp only [Result.andThen,sliced,Nat.zero_mul,Int.toNat_natCast,Nat.sub_zero]
 have e:(if cap=0 then ad else Option.map (fun x=>x.add 0) ad)=ad:=by
  split
  ·rfl
  ·cases ad with
   | none=>rfl
   | some a=>rw [Option.map_some,addr_zero]
 rw [e]
theorem pieces_on (ad:Option Addr) (l:List Pc) (cap n:Nat) (hn:n≤l.length) (hc:l.length≤cap):∃ ad2 c2,(∀ w,(Instr.slice 24 (.slice ad l.length cap) (some (.int .i64 (n:Int))) none none).run Tryz.prog w=.ok (.slice ad2 (l.drop n).length c2) w)∧(∀ W,PiecesAt W ad l→PiecesAt W ad2 (l.drop n))∧(l.drop n).length≤c2∧c2≤cap:=by
 have ht:Tryz.prog.underlying 24=some (.slice (Tryz.prog.elem 24)):=by kernel_rfl
 have hsz:∀ w,(Go.sizeOf (Tryz.prog.elem 24)).run Tryz.prog w=.ok 2 w:=fun w=>by kernel_rfl
 have hd:(l.drop n).length=l.length - n:=List.length_drop ..
 refine ⟨if cap=n then ad else ad.map (·.add (n * 2)),cap - n,fun w=>?_,fun W h=>?_,by omega,by omega⟩
 ·rw [run_slice_l (w:=w) 24 ad l.length cap ht .i64 n (by omega) (by omega),hsz]
  simp only [Result.andThen,sliced,Int.toNat_natCast,hd]
 ·rcases h.cases with rfl|⟨b,off,rfl,hlt,hR⟩
  ·rw [List.drop_nil]
   exact fun i p hi=>by simp at hi
  ·by_cases he:cap=n
   ·rw [List.drop_eq_nil_of_le (by omega)]
    exact fun i p hi=>by simp at hi
   ·rw [if_neg he]
    show PiecesAt W (some ((⟨b,off,none⟩:Addr).add (n * 2))) _
    rw [Go.WideShapes.add_plain]
    exact piecesAt_drop n h
theorem pcsL_len (l:List Pc):(pcsL l).length=24 * l.length:=by
 unfold pcsL
 induction l with
 | nil=>rfl
 | cons p l ih=>rw [List.flatMap_cons,List.length_append,ih,List.length_append,octL_length,octL_length,List.length_cons];omega
theorem pcsL_take {l:List Pc} {i:Nat} {p:Pc} (h:l[i]?=some p):pcsL (l.take (i+1))=pcsL (l.take i)++octL p.1++octL p.2:=by
 unfold pcsL
 rw [List.take_add_one,h,List.flatMap_append]
 simp
structure BdW (B b:Nat) (l:List UInt8) (w0:World) where
 v:World
 lo:Below w0.heap.size w0 v
 hi:Bd B b l v
theorem bd_stringW {B b:Nat} {l:List UInt8} {w0:World} (hB:B=w0.heap.size) (p:BdW B b l w0) :
  Calls Tryz.prog 61 #[.pointer (some ⟨b,0,none⟩)] p.v fun e w'=>e=.returned (.string (mkS l))∧∃ q:BdW B b l w0,w'=q.v :=
 (Any.Builder_String_any_f Tryz.lays169 Tryz.Builder_Extra_169 B b l p.v p.hi (by subst hB;exact p.lo.size)).mono fun e w' h=>⟨h.1,⟨⟨w',p.lo.trans (by subst hB;exact h.2.2),h.2.1⟩,rfl⟩⟩
theorem region_bd {id:Nat} {Q:Exit→Act→World→Prop} {a:Act} {w:World} {os:List Oper} (B b:Nat) (l:List UInt8) (w0:World) (h1:Below w0.heap.size w0 w) (h2:Bd B b l w) (hB:Region.lexB .any os.toArray=true)
  (h:∀ _:Nonempty (BdW B b l w0),wpQuiet Tryz.prog os.toArray (fun w'=>∃ p:BdW B b l w0,w'=p.v) (fun a'=>∀ w',(∃ p:BdW B b l w0,w'=p.v)→Q .normal a' w') os a):(Code.region id os.toArray true).wp Tryz.prog Q a w:=by
 have e:Sort.grow (redrawn w (w.drawn+1)) #[]={ w with drawn:=w.drawn+1 }:=by rw [Sort.grow_empty];rfl
 have b1:Below w.heap.size w { w with drawn:=w.drawn+1 }:=e ▸ below_regrown w (w.drawn+1) #[]
 have c:BdW B b l w0:=⟨{ w with drawn:=w.drawn+1 },h1.trans (b1.mono h1.size),bd_below h2 b1⟩
 exact wp_region_quiet (C:=fun w'=>∃ p:BdW B b l w0,w'=p.v) (by kernel_rfl) hB ⟨⟨{ w with drawn:=w.drawn+1 },h1.trans (b1.mono h1.size),bd_below h2 b1⟩,rfl⟩ (by simpa using h ⟨c⟩)
def Octs (l:List Pc):Prop:=∀ p∈l,(0≤p.1∧p.1≤8589934591)∧(0≤p.2∧p.2≤8589934591)
set_option maxRecDepth 100000 in
set_option maxHeartbeats 8000000 in
theorem pieceList_any (ad:Option Addr) (cap:Nat) (l:List Pc) (most:Nat) (hm:most≤40) (hl:l.length≤1000) (hc:l.length≤cap) (ho:Octs l) (w:World) (hM:PiecesAt w ad l) :
  Calls Tryz.prog 115 #[.slice ad l.length cap,.int .i64 (most:Int)] w fun e w' =>
   (∃ ad2 c2,e=.returned (.tuple #[.string (mkS (listF l most)),.slice ad2 (l.drop most).length c2])∧PiecesAt w' ad2 (l.drop most)∧(l.drop most).length≤c2)∧Below w.heap.size w w':=by
 obtain ⟨n,hn⟩:∃ n:Nat,min most l.length=n:=⟨_,rfl⟩
 have hnm:min (most:Int) (l.length:Int)=(n:Int):=by omega
 have hn1:n≤l.length:=by omega
 have hn2:n≤most:=by omega
 have hlf:listF l most=pcsL (l.take n)++List.replicate ((most - n) * 24) 0++[if n<l.length then 1 else 0]:=by
  unfold listF
  rw [hn,← List.append_assoc,show l.take n=l.take most by rw [← hn,List.take_eq_take_iff];omega]
  congr 2
  by_cases h:most<l.length
  ·rw [if_pos h,if_pos (by omega)]
  ·rw [if_neg h,if_neg (by omega)]
 have hdr:l.drop most=l.drop n:=by
  by_cases h:most<l.length
  ·rw [show n=most by omega]
  ·rw [List.drop_eq_nil_of_le (by omega),List.drop_eq_nil_of_le (by omega)]
 rw [hdr]
 generalize listF l most=F at *
 obtain ⟨ad2,c2,hs2,hM2,hc2,_⟩:=pieces_on ad l cap n hn1 hc
 have hs1:=pieces_to ad l.length cap n (by omega)
 have hF:=bd_new w
 have hb0:=below_alloc1 w (.cells #[.pointer none,.slice none 0 0] 99)
 have HF:=Lib.hid (And.intro hb0 hF)
 have HM:=Lib.hid (fun W (h:Below w.heap.size w W)=>hM.below h)
 have HO:=Lib.hid ho
 have HX:=Lib.hid (And.intro hM2 hc2)
 have HLF:=Lib.hid hlf
 have HS2:=Lib.hid hs2
 clear hlf hdr hM ho hM2 hc2 hF hb0 hn hs2
 have hp:=fun i=>pcsL_len (l.take i)
 have HP:=Lib.hid hp
 clear hp
 go_enter Tryz.func115,Tryz.ntmps115
 go_wp2_with fail
 go_loopg [19] n (fun g s19 wr=>∃ i:Nat,i≤n∧n - i≤g∧s19=.int .i64 (i:Int)∧Aside (Below w.heap.size w wr∧Bd w.heap.size w.heap.size (pcsL (l.take i)) wr))
 case atStart=>exact ⟨0,by omega,by omega,rfl,HF.out⟩
 case round =>
  obtain ⟨i,hi,hg,rfl,A⟩:=hrel
  by_cases hin:i<n
  ·obtain ⟨p,hp⟩:∃ p,l[i]?=some p:=⟨_,List.getElem?_eq_getElem (by omega)⟩
   obtain ⟨b,off,rfl,hlt,c1,c2'⟩:=HM.out wr A.out.1 i p hp
   obtain ⟨⟨z1,z2⟩,z3,z4⟩:=HO.out p (List.mem_of_getElem? hp)
   have O1:=Lib.hid (fun w=>octal_mem p.1 z1 z2 w)
   have O2:=Lib.hid (fun w=>octal_mem p.2 z3 z4 w)
   have HT:=Lib.hid (pcsL_take hp)
   have hix:=fun W=>idx_piece W b off n cap i hin
   have hl1:=HP.out i
   rw [List.length_take,Nat.min_eq_left (by omega)] at hl1
   have l1:=octL_length p.1
   have l2:=octL_length p.2
   have hbn:=(A.out.1.alloc A.out.1.size (.cells #[.int .i64 p.1,.int .i64 p.2] 77))
   have hfn:=bd_below A.out.2 (below_alloc1 wr (.cells #[.int .i64 p.1,.int .i64 p.2] 77))
   have A1:=Lib.hid (And.intro hbn hfn)
   have hrs:=Lib.hid (show w.heap.size<wr.heap.size from by rcases A.out.2 with ⟨_,_,h,_⟩|⟨_,_,h,_⟩ <;> exact (Array.getElem?_eq_some_iff.1 h).1)
   clear hbn hfn hp z1 z2 z3 z4 A hs1 HS2 HLF
   have hlL:(pcsL (l.take i)).length≤24000:=by omega
   generalize pcsL (l.take i)=L at *
   generalize octL p.1=X at *
   generalize octL p.2=Y at *
   have hW:(wr.alloc (.cells #[.int .i64 p.1,.int .i64 p.2] 77)).heap[wr.heap.size]?=some (.cells #[.int .i64 p.1,.int .i64 p.2] 77 (0,0)):=heap_alloc_new wr _
   have HW:=Lib.hid hW
   clear hW
   go_wp2_with (first
    |(go_at_call 117;(with_reducible refine (O1.out _).mono ?_);rintro e w2 ⟨rfl,h2⟩;have hB2:=Lib.hid (A1.out.1.trans (h2.mono A1.out.1.size));have hD2:=Lib.hid (bd_below A1.out.2 h2);have hR2:=Lib.hid ((h2.block _ (Array.getElem?_eq_some_iff.1 HW.out).1).trans HW.out);clear h2)
    |(go_at_call 58;(with_reducible refine (bd_write w.heap.size w.heap.size L X _ hD2.out (by omega) hB2.out.size).mono ?_);rintro e w3 ⟨rfl,h3,h4,hk3⟩;have hB3:=Lib.hid (hB2.out.trans h4);have hD3:=Lib.hid h3;have k1:=row_cell (hk3.row hR2.out (by have:=A1.out.1.size;have:=hrs.out;omega) (by decide)) 1 _ rfl;clear h3 h4 hk3)
    |(go_at_call 117;(with_reducible refine (O2.out _).mono ?_);rintro e w4 ⟨rfl,h5⟩;have hB4:=Lib.hid (hB3.out.trans (h5.mono hB3.out.size));have hD4:=Lib.hid (bd_below hD3.out h5);clear h5)
    |(go_at_call 58;(with_reducible refine (bd_write w.heap.size w.heap.size (L++X) Y _ hD4.out (by rw [List.length_append];omega) hB4.out.size).mono ?_);rintro e w5 ⟨rfl,h6,h7,h8⟩;have hB5:=Lib.hid (hB4.out.trans h7);have hD5:=Lib.hid h6;clear h6 h7 h8)
    | fail)
   go_roundg (n - (i+1))
   case measure=>omega
   case rel=>exact ⟨i+1,by omega,by omega,by first|rfl|simp,(show Aside _ from ⟨hB5.out,by rw [HT.out];exact hD5.out⟩)⟩
  ·obtain rfl:i=n:=by omega
   have hl1:=HP.out i
   rw [List.length_take,Nat.min_eq_left (by omega)] at hl1
   obtain ⟨m,hm2⟩:∃ m:Nat,most=i+m:=⟨most - i,by omega⟩
   subst hm2
   have hm3:((((i+m:Nat):Int) - (i:Int)) * 24)=((m * 24:Nat):Int):=by omega
   have RP:=Lib.hid (fun w=>show Calls Tryz.prog 59 #[.string ⟨#[0]⟩,.int .i64 (((i:Int)+(m:Int) - (i:Int)) * 24)] w fun e w'=>e=.returned (.string (mkS (List.replicate (m * 24) 0)))∧Below w.heap.size w w' by
    have h:=rep_zero (m * 24) w (by omega)
    rwa [show (((m * 24:Nat):Int))=((i:Int)+(m:Int) - (i:Int)) * 24 by omega] at h)
   have hlf:=HLF.out
   rw [show (i+m - i) * 24=m * 24 by omega] at hlf
   have hm4:((i+m:Nat):Int)=(i:Int)+(m:Int):=by omega
   have hlr:(List.replicate (m * 24) (0:UInt8)).length=m * 24:=List.length_replicate ..
   have hlL:(pcsL (l.take i)).length≤24000:=by omega
   have A1:=A
   clear A hm3 HO HP HF HLF
   generalize pcsL (l.take i)=L at *
   generalize List.replicate (m * 24) (0:UInt8)=Z at *
   have hmb:m≤40:=by omega
   by_cases hlt:(i:Int)<(l.length:Int)
   ·rw [if_pos (by omega:i<l.length)] at hlf
    have HLF:=Lib.hid hlf
    clear hlf
    go_wp2_with (first
     |(go_at_call 59;(with_reducible refine (RP.out _).mono ?_);rintro e w2 ⟨rfl,h2⟩;have hB2:=Lib.hid (A1.out.1.trans (h2.mono A1.out.1.size));have hD2:=Lib.hid (bd_below A1.out.2 h2);clear h2)
     |(go_at_call 58;(with_reducible refine (bd_write w.heap.size w.heap.size L Z _ hD2.out (by omega) hB2.out.size).mono ?_);rintro e w3 ⟨rfl,h3,h4,_⟩;have hB3:=Lib.hid (hB2.out.trans h4);have hD3:=Lib.hid h3;clear h3 h4)
     |(go_at_call 120;(with_reducible refine (bd_byteI w.heap.size w.heap.size (L++Z) 1 1 (by decide) _ hD3.out (by rw [List.length_append];omega) hB3.out.size).mono ?_);rintro e w4 ⟨rfl,h3,h4,_⟩;have hB4:=Lib.hid (hB3.out.trans h4);have hD4:=Lib.hid h3;clear h3 h4)
     | fail)
    refine region_bd w.heap.size w.heap.size (L++Z++[1]) w hB4.out hD4.out (by kernel_rfl) (fun hne=>?_)
    have hs2:=HS2.out
    repeat (go_big_quiet_step (first|(go_at_call 61;with_reducible exact bd_stringW rfl _)|rfl))
    refine wpQuiet_nil ?_
    rintro W ⟨⟨_,hw1,_⟩,rfl⟩
    have HM2:=Lib.hid (HX.out.1 W (HM.out W hw1))
    have HW:=Lib.hid hw1
    clear hw1
    try dsimp only at *
    go_wp2_with fail
    try go_ret2
    exact ⟨⟨ad2,c2,by rw [HLF.out,List.length_drop];rfl,HM2.out,HX.out.2⟩,HW.out⟩
   ·rw [if_neg (by omega:¬ i<l.length)] at hlf
    have HLF:=Lib.hid hlf
    clear hlf
    go_wp2_with (first
     |(go_at_call 59;(with_reducible refine (RP.out _).mono ?_);rintro e w2 ⟨rfl,h2⟩;have hB2:=Lib.hid (A1.out.1.trans (h2.mono A1.out.1.size));have hD2:=Lib.hid (bd_below A1.out.2 h2);clear h2)
     |(go_at_call 58;(with_reducible refine (bd_write w.heap.size w.heap.size L Z _ hD2.out (by omega) hB2.out.size).mono ?_);rintro e w3 ⟨rfl,h3,h4,_⟩;have hB3:=Lib.hid (hB2.out.trans h4);have hD3:=Lib.hid h3;clear h3 h4)
     |(go_at_call 120;(with_reducible refine (bd_byteI w.heap.size w.heap.size (L++Z) 0 0 (by decide) _ hD3.out (by rw [List.length_append];omega) hB3.out.size).mono ?_);rintro e w4 ⟨rfl,h3,h4,_⟩;have hB4:=Lib.hid (hB3.out.trans h4);have hD4:=Lib.hid h3;clear h3 h4)
     | fail)
    refine region_bd w.heap.size w.heap.size (L++Z++[0]) w hB4.out hD4.out (by kernel_rfl) (fun hne=>?_)
    have hs2:=HS2.out
    repeat (go_big_quiet_step (first|(go_at_call 61;with_reducible exact bd_stringW rfl _)|rfl))
    refine wpQuiet_nil ?_
    rintro W ⟨⟨_,hw1,_⟩,rfl⟩
    have HM2:=Lib.hid (HX.out.1 W (HM.out W hw1))
    have HW:=Lib.hid hw1
    clear hw1
    try dsimp only at *
    go_wp2_with fail
    try go_ret2
    exact ⟨⟨ad2,c2,by rw [HLF.out,List.length_drop];rfl,HM2.out,HX.out.2⟩,HW.out⟩
end Go.Proofs.YtdjcjaidklgamaaGreatDoor
end
set_option linter.unusedSimpArgs false
set_option linter.unusedVariables false
section
namespace Go.Proofs.YtdjcjaidklgamaaGreatDoor
open Go.RowKit Go.Joins
set_option linter.unusedVariables false
set_option linter.unusedSimpArgs false
theorem pieceList_at (D:Int) (most:Nat) (hD:D=(most:Int)) (ad:Option Addr) (cap:Nat) (l:List Pc) (hm:most≤40) (hl:l.length≤1000) (hc:l.length≤cap) (ho:Octs l) (w:World) (hM:PiecesAt w ad l) :
  Calls Tryz.prog 115 #[.slice ad l.length cap,.int .i64 D] w fun e w' =>
   (∃ ad2 c2,e=.returned (.tuple #[.string (mkS (listF l most)),.slice ad2 (l.drop most).length c2])∧PiecesAt w' ad2 (l.drop most)∧(l.drop most).length≤c2)∧Below w.heap.size w w':=by
 subst hD
 exact pieceList_any ad cap l most hm hl hc ho w hM
theorem listF_len (l:List Pc) (most:Nat):(listF l most).length=24 * most+1:=by
 unfold listF
 rw [List.length_append,List.length_append,List.length_replicate,pcsL_len,List.length_take,List.length_singleton]
 omega
theorem Octs.drop {l:List Pc} (h:Octs l) (n:Nat):Octs (l.drop n):=fun p hp=>h p (List.mem_of_mem_drop hp)
theorem fillL_le (l:List UInt8):(fillL l).length≤l.length+512:=by
 obtain ⟨h2,h3⟩:=padF_range (l.length:Int)
 unfold fillL
 rw [List.length_append,List.length_replicate]
 omega
theorem moreF_len (l:List Pc):(moreF l).length≤1017:=by
 unfold moreF
 by_cases h:l=[]
 ·rw [if_pos h];decide
 ·rw [if_neg h]
  have:=fillL_le (listF l 21)
  rw [listF_len] at this
  omega
set_option maxRecDepth 100000 in
set_option maxHeartbeats 8000000 in
theorem withPieces_any (e:EntL) (ad:Option Addr) (cap:Nat) (s:List UInt8) (hs:512≤s.length) (hs2:s.length≤10000) (hl:e.map.length≤20) (hc:e.map.length≤cap) (ho:Octs e.map) (hz:0≤e.size∧e.size≤8589934591) (w:World) (hM:PiecesAt w ad e.map) :
  Calls Tryz.prog 75 #[.string (mkS s),entV e (.slice ad e.map.length cap)] w fun r w'=>r=.returned (.tuple #[.string (mkS (holesF s e)),.nilIface])∧Below w.heap.size w w':=by
 have i1:∀ W,(Instr.slice 9 (.string (mkS s)) none (some (.int .i64 386)) none).run Tryz.prog W=.ok (.string (mkS (s.take 386))) W:=fun W=>mkS_upto s 386 (by omega) W
 have i2:∀ W,(Instr.slice 9 (.string (mkS s)) (some (.int .i64 495)) (some (.int .i64 512)) none).run Tryz.prog W=.ok (.string (mkS (sub s 495 17))) W:=fun W=>mkS_mid s 495 512 (by omega) hs W
 have i3:∀ W,(Instr.slice 9 (.string (mkS s)) (some (.int .i64 512)) none none).run Tryz.prog W=.ok (.string (mkS (s.drop 512))) W:=fun W=>mkS_onward s 512 (by omega) W
 have hR:(e.map.drop 4).length≤16:=by rw [List.length_drop];omega
 have hH:(s.take 386++(listF e.map 4++(octL e.size++sub s 495 17))).length=512:=by
  have:=octL_length e.size
  have:=listF_len e.map 4
  simp only [List.length_append,List.length_take,sub,List.length_drop]
  omega
 have CP:=Lib.hid (fun W (h:Below w.heap.size w W)=>pieceList_at 4 4 rfl ad cap e.map (by omega) (by omega) hc ho W (hM.below h))
 have CO:=Lib.hid (fun W=>octal_mem e.size hz.1 hz.2 W)
 have CS:=Lib.hid (fun W=>seal_mkS (s.take 386++(listF e.map 4++(octL e.size++sub s 495 17))) hH W)
 have hA:=Lib.hid (below_alloc1 w (.cells (entC e (.slice ad e.map.length cap)) 26))
 have HW:=Lib.hid (heap_alloc_new w (.cells (entC e (.slice ad e.map.length cap)) 26))
 have hO2:=Lib.hid (ho.drop 4)
 have hSL:=Lib.hid (sealL_length _ hH)
 have l1:(s.take 386).length≤386:=List.length_take_le ..
 have l2:=listF_len e.map 4
 have l3:=octL_length e.size
 have l4:(sub s 495 17).length≤17:=List.length_take_le ..
 have l5:(s.drop 512).length≤10000:=by rw [List.length_drop];omega
 unfold holesF
 generalize listF e.map 4=F at *
 generalize octL e.size=Z at *
 generalize s.take 386=S1 at *
 generalize sub s 495 17=S2 at *
 generalize s.drop 512=S3 at *
 generalize sealL (S1++(F++(Z++S2)))=T at *
 generalize e.map.drop 4=R at *
 generalize e.map.length=nm at *
 have k1:=fun W=>mkS_cat S1 F (by omega) W
 have k2:=fun W=>mkS_cat (S1++F) Z (by simp only [List.length_append];omega) W
 have k3:=fun W=>mkS_cat (S1++F++Z) S2 (by simp only [List.length_append];omega) W
 rw [List.append_assoc] at k2
 rw [List.append_assoc,List.append_assoc,List.append_assoc] at k3
 unfold entC at hA HW
 unfold entV
 clear hM ho hz hH
 go_enter Tryz.func75,Tryz.ntmps75
 go_wp2_with (first
  |(go_at_call 115;(with_reducible refine (CP.out _ hA.out).mono ?_);rintro e w2 ⟨⟨ad2,c2,rfl,h1,h2⟩,h3⟩;have k5:=row_cell ((h3.block _ (Array.getElem?_eq_some_iff.1 HW.out).1).trans HW.out) 5 _ rfl;have hB1:=Lib.hid (hA.out.trans (h3.mono hA.out.size));have hP1:=Lib.hid (And.intro h1 h2);clear h1 h2 h3)
  | fail)
 have u5:=fun d os=>cell_regrown k5 d os
 clear CP HW hA k5
 refine wp_region_quiet_below (by kernel_rfl) (by kernel_rfl) ?_
 repeat (go_big_quiet_step (first|(go_at_call 117;with_reducible exact Calls.regrown_of (CO.out _))|(go_at_call 116;with_reducible exact Calls.regrown_of (CS.out _))))
 refine wpQuiet_nil ?_
 rintro _ ⟨⟨dq,osq⟩,rfl⟩
 have hB2:=Lib.hid (hB1.out.trans ((below_regrown w2 dq osq).mono hB1.out.size))
 have hP2:=Lib.hid (And.intro (hP1.out.1.below (below_regrown w2 dq osq)) hP1.out.2)
 clear u5 hB1 hP1 k1 k2 k3 CS CO
 dsimp only at *
 generalize Sort.grow (redrawn w2 dq) osq=w3 at *
 clear osq dq
 have HN:=Lib.hid (bd_new w3)
 have HNb:=Lib.hid (below_alloc1 w3 (.cells #[.pointer none,.slice none 0 0] 99))
 go_wp2_with (first
  |(go_at_call 58;(with_reducible refine (bd_write w3.heap.size w3.heap.size [] T _ HN.out (by rw [hSL.out];decide) HNb.out.size).mono ?_);rintro e w4 ⟨rfl,h3,h4,_⟩;have hB4:=Lib.hid (HNb.out.trans h4);have hD4:=Lib.hid h3;clear h3 h4)
  | fail)
 have HTl:=Lib.hid (show (T++moreF R).length≤2000 by have:=moreF_len R;have:=hSL.out;rw [List.length_append];omega)
 have hP4:=Lib.hid (hP2.out.1.below hB4.out)
 have CF:=Lib.hid (fun (l:List UInt8) (h:l.length≤100000) W=>fill_any l W h)
 clear HN hSL
 go_loopg [7] R.length (fun g s7 wr=>∃ (l2:List Pc) (a2:Option Addr) (c3:Nat) (L:List UInt8),s7=.slice a2 l2.length c3∧l2.length≤g∧l2.length≤16∧Aside (Below w3.heap.size w3 wr∧Bd w3.heap.size w3.heap.size L wr∧PiecesAt wr a2 l2∧l2.length≤c3∧Octs l2∧L++moreF l2=T++moreF R))
 case atStart=>exact ⟨R,ad2,c2,T,rfl,Nat.le_refl _,hR,hB4.out,hD4.out,hP4.out,hP2.out.2,hO2.out,rfl⟩
 case round =>
  obtain ⟨l2,a2,c3,L,rfl,hg,h16,A⟩:=hrel
  have HLl:=Lib.hid (show L.length≤2000 by have h:=HTl.out;rw [← A.out.2.2.2.2.2,List.length_append] at h;omega)
  by_cases hlt:0<(l2.length:Int)
  ·have hne:l2≠[]:=fun h=>by rw [h] at hlt;exact absurd hlt (by decide)
   have hM:moreF l2=fillL (listF l2 21):=by unfold moreF;rw [if_neg hne]
   have hd:l2.drop 21=[]:=List.drop_eq_nil_of_le (by omega)
   have CP:=Lib.hid (pieceList_at 21 21 rfl a2 c3 l2 (by omega) (by omega) A.out.2.2.2.1 A.out.2.2.2.2.1 wr A.out.2.2.1)
   have HF:=Lib.hid (show (fillL (listF l2 21)).length≤2000 by rw [← hM];have:=moreF_len l2;omega)
   have HE:=Lib.hid (show L++fillL (listF l2 21)=T++moreF R by rw [← hM];exact A.out.2.2.2.2.2)
   have HG:=Lib.hid (show (listF l2 21).length≤100000 by rw [listF_len];decide)
   generalize listF l2 21=G at *
   go_wp2_with (first
    |(go_at_call 115;(with_reducible refine CP.out.mono ?_);rintro e w5 ⟨⟨a4,c4,rfl,_,_⟩,h3⟩;have hB5:=Lib.hid (A.out.1.trans (h3.mono A.out.1.size));have hD5:=Lib.hid (bd_below A.out.2.1 h3);clear h3)
    |(go_at_call 78;(with_reducible refine (CF.out _ HG.out _).mono ?_);rintro e w6 ⟨rfl,h3⟩;have hB6:=Lib.hid (hB5.out.trans (h3.mono hB5.out.size));have hD6:=Lib.hid (bd_below hD5.out h3);clear h3)
    |(go_at_call 58;(with_reducible refine (bd_write w3.heap.size w3.heap.size L _ _ hD6.out (by have:=HLl.out;have:=HF.out;omega) hB6.out.size).mono ?_);rintro e w7 ⟨rfl,h3,h4,_⟩;have hB7:=Lib.hid (hB6.out.trans h4);have hD7:=Lib.hid h3;clear h3 h4)
    | fail)
   go_roundg 0
   case measure=>omega
   case rel=>exact ⟨[],a4,c4,_,by first|rfl|simp [hd],Nat.le_refl _,by decide,hB7.out,hD7.out,fun i p hi=>by simp at hi,Nat.zero_le _,fun p hp=>by simp at hp,by rw [show moreF ([]:List Pc)=[] from rfl,List.append_nil];exact HE.out⟩
  ·have h0:l2=[]:=List.eq_nil_of_length_eq_zero (by omega)
   have hL:L=T++moreF R:=by rw [← A.out.2.2.2.2.2,h0,show moreF ([]:List Pc)=[] from rfl,List.append_nil]
   have A1:=Lib.hid (And.intro A.out.1 A.out.2.1)
   have HL2:=Lib.hid (show T++(moreF R++S3)=L++S3 by rw [hL,List.append_assoc])
   clear A hL h0 HTl hP4 hD4
   go_wp2_with (first
    |(go_at_call 58;(with_reducible refine (bd_write w3.heap.size w3.heap.size L S3 _ A1.out.2 (by have:=HLl.out;omega) A1.out.1.size).mono ?_);rintro e w7 ⟨rfl,h3,h4,_⟩;have hB7:=Lib.hid (A1.out.1.trans h4);have hD7:=Lib.hid h3;clear h3 h4)
    |(go_at_call 61;(with_reducible refine (bd_string w3.heap.size w3.heap.size (L++S3) _ hD7.out hB7.out.size).mono ?_);rintro e w8 ⟨rfl,h4⟩;have HW:=Lib.hid (hB7.out.trans h4);clear h4)
    | fail)
   try go_ret2
   exact ⟨by rw [HL2.out];rfl,hB2.out.trans (HW.out.mono hB2.out.size)⟩
end Go.Proofs.YtdjcjaidklgamaaGreatDoor
end
