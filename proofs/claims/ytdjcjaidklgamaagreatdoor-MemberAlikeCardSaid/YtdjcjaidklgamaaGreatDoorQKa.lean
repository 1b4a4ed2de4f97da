import Derived.Test.YtdjcjaidklgamaaGreatDoorQPw
import Derived.Test.YtdjcjaidklgamaaGreatDoorQLn
import Derived.Test.YtdjcjaidklgamaaGreatDoorQWo
import Derived.Test.YtdjcjaidklgamaaGreatDoorQMw
set_option linter.unusedSimpArgs false
set_option linter.unusedVariables false
section
namespace Go.Proofs.YtdjcjaidklgamaaGreatDoor
open Go.RowKit Go.Joins
set_option linter.unusedVariables false
set_option linter.unusedSimpArgs false
def rowP (e:EntL) (u g s t:Int):Array Value:=#[.string (mkS []),.string (mkS []),.string (mkS e.user),.string (mkS e.group),.string (mkS []),.int .u8 (e.kind.toNat:Int),.int .i64 e.mode,.int .i64 u,.int .i64 g,.int .i64 s,.int .i64 t,.int .i64 e.major,.int .i64 e.minor]
structure PxS (w:World) (e:EntL) (v:Value) (B:Nat) (L:List PrL) (u g s t:Int) (W:World):Prop where
 lt:w.heap.size+1<B
 below:Below w.heap.size w W
 ent:EntAt W w.heap.size e v
 recs:RecAt (w.heap.size+1) (w.heap.size+1) L W
 raw:W.heap[B]?=some (.cells (rowP e u g s t) 117 (0,0))
section
variable {w W W':World} {e:EntL} {v:Value} {B:Nat} {L:List PrL} {u g s t:Int}
theorem PxS.size (h:PxS w e v B L u g s t W):w.heap.size+1≤W.heap.size:=by have:=(Array.getElem?_eq_some_iff.1 h.raw).1;have:=h.lt;omega
theorem PxS.next (h:PxS w e v B L u g s t W) (hb:Below W.heap.size W W'):PxS w e v B L u g s t W' :=
 ⟨h.lt,h.below.trans (hb.mono h.below.size),h.ent.below hb h.ent.lt,h.recs.below hb,(hb.block B (Array.getElem?_eq_some_iff.1 h.raw).1).trans h.raw⟩
theorem PxS.told {p:PrL} (h:PxS w e v B L u g s t W) (h1:RecAt (w.heap.size+1) (w.heap.size+1) (L++[p]) W') (h2:Below (w.heap.size+1) W W') (h3:KpR2 (w.heap.size+1) W W'):PxS w e v B (L++[p]) u g s t W' :=
 ⟨h.lt,h.below.trans (h2.mono (Nat.le_succ _)),h.ent.below h2 (Nat.lt_succ_self _),h1,h3 B _ _ _ h.raw (by have:=h.lt;omega) (by decide)⟩
theorem PxS.store {i:Nat} {x:Value} {u' g' s' t':Int} (h:PxS w e v B L u g s t W) (hx:(rowP e u g s t).setIfInBounds i x=rowP e u' g' s' t'):PxS w e v B L u' g' s' t' (W.setCell ⟨B,i,none⟩ x):=by
 obtain ⟨h1,h2⟩:=setCell_row (i:=i) (v:=x) h.raw
 have hl:=h.lt
 refine ⟨h.lt,h2 _ (by omega) _ h.below,h.ent.below (h2 B (Nat.le_refl _) _ (Below.refl _ _)) (by omega),h.recs.of_kept fun j o ho hk=>?_,by rw [h1,hx]⟩
 refine (Below.heap_setCell W ⟨B,i,none⟩ x j (fun hj=>?_)).trans ho
 obtain ⟨cs,ty,fr,rfl,ht⟩:=hk
 rw [show j=B from hj,h.raw] at ho
 simp only [Option.some.injEq,Obj.cells.injEq] at ho
 rcases ht with ht|ht <;> rw [ht] at ho <;> exact absurd ho.2.1 (by decide)
end
theorem EntAt.of_blk {w w':World} {b:Nat} {e:EntL} {v:Value} (h:EntAt w b e v) (hb:w'.heap[b]?=w.heap[b]?):EntAt w' b e v:=by
 have k:∀ i,w'.cell? ⟨b,i,none⟩=w.cell? ⟨b,i,none⟩:=fun i=>World.cell?_of_block (w:=w) hb
 unfold EntAt at h ⊢
 simp only [k]
 exact h
theorem PxS.made {w W1 V:World} {e:EntL} {v:Value} {B:Nat} {old:Array Value} (h0:Below w.heap.size w W1) (hR:RecAt (w.heap.size+1) (w.heap.size+1) [] W1) (hz:W1.heap.size=w.heap.size+1+1) (hb:Below W1.heap.size W1 V) (hE:EntAt V w.heap.size e v) (hB:W1.heap.size≤B) (ho:V.heap[B]?=some (.cells old 117 (0,0))) :
  PxS w e v B [] e.uid e.gid e.data.length e.sec (V.setRow B (rowP e e.uid e.gid e.data.length e.sec)):=by
 refine ⟨by omega,below_setRow (h0.trans (hb.mono h0.size)) (by omega) _,hE.of_blk (setRow_other _ _ _ _ (by omega)),(hR.below hb).of_kept fun j o hj hk=>?_,setRow_heap _ _ _ _ _ _ ho⟩
 refine (setRow_other _ _ _ _ (fun e2=>?_)).trans hj
 obtain ⟨cs,ty,fr,rfl,ht⟩:=hk
 rw [e2,ho] at hj
 simp only [Option.some.injEq,Obj.cells.injEq] at hj
 rcases ht with ht|ht <;> rw [ht] at hj <;> exact absurd hj.2.1 (by decide)
set_option maxRecDepth 100000 in
set_option maxHeartbeats 16000000 in
theorem writePax_room (e:EntL) (hr:rightE e=true) (ad:Option Addr) (cap:Nat) (ho:Held e) (hdl:e.data.length≤5000) (hc:e.map.length≤cap) (w:World) (hp:Px.PowLaid w) (hM:PiecesAt w ad e.map) (X:List UInt8) (hX:paxX e=(X,0)) :
  Calls Tryz.prog 42 #[entV e (.slice ad e.map.length cap)] w fun r w'=>r=.returned (.tuple #[.string (mkS (extF (recsE e)++X)),.nilIface])∧Below w.heap.size w w':=by
 obtain ⟨m1,m2,m3,m4,m5,m6⟩:=right_num hr
 obtain ⟨t1,t2,t3,t4⟩:=St.rightB_true _ _ m4
 have hdv:devMost e.kind≤2097151:=by unfold devMost;split <;> omega
 have hst:=stored_len hr
 have htx:=right_txt hr
 have hln:=(txtOk_iff.1 htx.2.2.1).1
 have hrec:=recsE_right hr
 have hrl:=recsE_length e
 have hsz:0≤e.size∧e.size≤4000:=by
  by_cases hk:e.kind=48
  ·exact (right_file hr hk).1
  ·have:=(right_other hr hk).1;omega
 have hmp:e.map.length≤20∧Octs e.map:=by
  cases hsp:sparseE e with
  | true =>
   have hk48:e.kind=48:=by
    by_cases hh:e.kind=48
    ·exact hh
    ·have:=(right_other hr hh).2.2.2;rw [hsp] at this;cases this
   obtain ⟨hm1,hm2⟩:=mapRight_parts (by omega) ((right_file hr hk48).2 hsp).1
   exact ⟨hm1,fun p hp=>by have:=hm2 p hp;omega⟩
  | false =>
   rw [(dense_parts hsp).1]
   exact ⟨by simp,fun p hp=>by cases hp⟩
 have hdt:e.data.length≤9223372036854775807:=by omega
 have hpl:(fillL (linesL e.map)).length≤2000:=by
  have h1:=fillL_le (linesL e.map)
  have h2:=linesT_len hmp.2 (by omega) e.map.length
  rw [linesT_all] at h2
  omega
 have hpd:(paxData e).length≤7000:=by
  unfold paxData
  split
  ·rw [List.length_append];omega
  ·omega
 have HP:=Lib.hid (fun W (h:Below w.heap.size w W)=>hp.below h)
 have HM:=Lib.hid (fun W (h:Below w.heap.size w W)=>hM.below h)
 have CR:=Lib.hid (fun W=>plainRaw_any e (.slice ad e.map.length cap) W)
 have CS:=Lib.hid (fun W=>storedName_any e (.slice ad e.map.length cap) (by have:=ho.name;omega) W)
 have CP:=Lib.hid (fun W=>sparse_any e ad cap hdt W)
 have CIs:=Lib.hid (fun W (h:Below w.heap.size w W)=>itoaN e.size hsz.1 (by omega) W (hp.below h))
 have CIg:=Lib.hid (fun W (h:Below w.heap.size w W)=>itoaN e.gid m3.1 (by omega) W (hp.below h))
 have CIu:=Lib.hid (fun W (h:Below w.heap.size w W)=>itoaN e.uid m2.1 (by omega) W (hp.below h))
 have CLn:=Lib.hid (fun W (h:Below w.heap.size w W)=>pieceLines_any ad cap e.map (by omega) hmp.2 W (hp.below h) (hM.below h))
 have CFl:=Lib.hid (fun W=>fill_any (linesL e.map) W (by have h2:=linesT_len hmp.2 (by omega) e.map.length;rw [linesT_all] at h2;omega))
 have CM8:=Lib.hid (fun W=>show Calls Tryz.prog 80 #[.int .i64 8] W fun e w'=>e=.returned (.int .i64 2097151)∧Below W.heap.size W w' from (most_any 8 W).mono fun e w' ⟨h1,h2⟩=>⟨by rw [h1,show mostF 8=2097151 by decide],by rw [h2];exact Below.refl _ _⟩)
 have CM12:=Lib.hid (fun W=>show Calls Tryz.prog 80 #[.int .i64 12] W fun e w'=>e=.returned (.int .i64 8589934591)∧Below W.heap.size W w' from (most_any 12 W).mono fun e w' ⟨h1,h2⟩=>⟨by rw [h1,show mostF 12=8589934591 by decide],by rw [h2];exact Below.refl _ _⟩)
 have CTx:=Lib.hid (fun W (h:Below w.heap.size w W)=>show Calls Tryz.prog 81 #[.agg #[.int .i64 e.sec,.int .i64 e.nano]] W fun r w'=>r=.returned (.tuple #[.string (mkS (St.textL e.sec e.nano)),.nilIface])∧Below W.heap.size W w' from St.text_ok e.sec e.nano W (hp.below h) m4)
 have CSp:=Lib.hid (fun W=>show Calls Tryz.prog 82 #[.string (mkS (storedE e))] W fun r w'=>r=.returned (.tuple #[.string (mkS (halfF (storedE e)).1),.string (mkS (halfF (storedE e)).2.1),.bool (halfF (storedE e)).2.2])∧Below W.heap.size W w' by
  refine (split_any (storedE e) (by omega) W).mono fun r w' h=>?_
  obtain ⟨x,y,k,h1,h2,h3⟩:=h
  rw [h1.eq]
  exact ⟨h2,by first|exact h3|exact h3.elim (fun h=>h ▸ Below.refl _ _) (fun h=>h ▸ (Below.refl _ _).drew)⟩)
 have CWr:=Lib.hid (fun ad2 cap2 W (h:Below w.heap.size w W) (h2:Px.PairsAt W ad2 (recsE e))=>writeRecords_any ad2 cap2 (recsE e) hrl (fun p hp=>(hrec p hp).1) W (hp.below h) h2)
 have hri:intsL (paxRaw e):=by
  unfold intsL i64 paxRaw
  dsimp only
  refine ⟨by omega,?_,?_,by omega,?_,by omega,by omega⟩
  ·split <;> omega
  ·split <;> omega
  ·split <;> omega
 have hpn:(paxName e).length≤200:=by
  unfold paxName
  split
  ·omega
  ·decide
 have CWt:=Lib.hid (fun W=>written_at 4 4 rfl (by decide) (paxRaw e) (paxName e) (e.link.take 100) (paxData e) (kind_nz hr) (by omega) (by rw [List.length_take];omega) (by have:=ho.user;show e.user.length≤_;omega) (by have:=ho.group;show e.group.length≤_;omega) (by omega) hri W)
 have hXX:paxX e=wholeF 4 (paxRaw e) (paxName e) (e.link.take 100) (paxData e):=rfl
 have hXl:X.length≤9000:=by have h:=paxWhole_len 4 (paxRaw e) (paxName e) (e.link.take 100) (paxData e);rw [← hXX,hX] at h;dsimp only at h;omega
 rw [← hXX,hX] at CWt
 simp only [show errV 0=.nilIface from rfl] at CWt
 have hxl:(extF (recsE e)).length≤6000:=by
  have hb:=Px.recsL_bound (recsE e) (fun p hp=>(hrec p hp).1)
  unfold extF
  split
  ·simp
  ·have hg:=goodExt ((Px.recsL (recsE e)).length:Int) (by omega) (by omega)
   have:=fillL_le (Px.recsL (recsE e))
   rw [List.length_append,write_length hg]
   omega
 have KX:=fun W=>mkS_cat (extF (recsE e)) X (by omega) W
 have CT_majorK:=Lib.hid (fun L W (hL:L.length≤900) (h:RecAt (w.heap.size+1) (w.heap.size+1) L W) (hn:w.heap.size+1≤W.heap.size)=>show Calls Tryz.prog 76 #[.string ⟨#[71,78,85,46,115,112,97,114,115,101,46,109,97,106,111,114]⟩,.string ⟨#[49]⟩,.pointer (some ⟨w.heap.size+1,0,none⟩)] W fun e w'=>e=.returned (.tuple #[])∧RecAt (w.heap.size+1) (w.heap.size+1) (L++[(majorK,[49])]) w'∧Below (w.heap.size+1) W w'∧KpR2 (w.heap.size+1) W w' from tell_any (w.heap.size+1) (w.heap.size+1) L (by omega) majorK [49] W h hn (Nat.le_refl _))
 have CT_minorK:=Lib.hid (fun L W (hL:L.length≤900) (h:RecAt (w.heap.size+1) (w.heap.size+1) L W) (hn:w.heap.size+1≤W.heap.size)=>show Calls Tryz.prog 76 #[.string ⟨#[71,78,85,46,115,112,97,114,115,101,46,109,105,110,111,114]⟩,.string ⟨#[48]⟩,.pointer (some ⟨w.heap.size+1,0,none⟩)] W fun e w'=>e=.returned (.tuple #[])∧RecAt (w.heap.size+1) (w.heap.size+1) (L++[(minorK,[48])]) w'∧Below (w.heap.size+1) W w'∧KpR2 (w.heap.size+1) W w' from tell_any (w.heap.size+1) (w.heap.size+1) L (by omega) minorK [48] W h hn (Nat.le_refl _))
 have CT_realK:=Lib.hid (fun V L W (hL:L.length≤900) (h:RecAt (w.heap.size+1) (w.heap.size+1) L W) (hn:w.heap.size+1≤W.heap.size)=>show Calls Tryz.prog 76 #[.string ⟨#[71,78,85,46,115,112,97,114,115,101,46,114,101,97,108,115,105,122,101]⟩,.string (mkS V),.pointer (some ⟨w.heap.size+1,0,none⟩)] W fun e w'=>e=.returned (.tuple #[])∧RecAt (w.heap.size+1) (w.heap.size+1) (L++[(realK,V)]) w'∧Below (w.heap.size+1) W w'∧KpR2 (w.heap.size+1) W w' from tell_any (w.heap.size+1) (w.heap.size+1) L (by omega) realK V W h hn (Nat.le_refl _))
 have CT_gidK:=Lib.hid (fun V L W (hL:L.length≤900) (h:RecAt (w.heap.size+1) (w.heap.size+1) L W) (hn:w.heap.size+1≤W.heap.size)=>show Calls Tryz.prog 76 #[.string ⟨#[103,105,100]⟩,.string (mkS V),.pointer (some ⟨w.heap.size+1,0,none⟩)] W fun e w'=>e=.returned (.tuple #[])∧RecAt (w.heap.size+1) (w.heap.size+1) (L++[(gidK,V)]) w'∧Below (w.heap.size+1) W w'∧KpR2 (w.heap.size+1) W w' from tell_any (w.heap.size+1) (w.heap.size+1) L (by omega) gidK V W h hn (Nat.le_refl _))
 have CT_linkK:=Lib.hid (fun V L W (hL:L.length≤900) (h:RecAt (w.heap.size+1) (w.heap.size+1) L W) (hn:w.heap.size+1≤W.heap.size)=>show Calls Tryz.prog 76 #[.string ⟨#[108,105,110,107,112,97,116,104]⟩,.string (mkS V),.pointer (some ⟨w.heap.size+1,0,none⟩)] W fun e w'=>e=.returned (.tuple #[])∧RecAt (w.heap.size+1) (w.heap.size+1) (L++[(linkK,V)]) w'∧Below (w.heap.size+1) W w'∧KpR2 (w.heap.size+1) W w' from tell_any (w.heap.size+1) (w.heap.size+1) L (by omega) linkK V W h hn (Nat.le_refl _))
 have CT_mtimeK:=Lib.hid (fun V L W (hL:L.length≤900) (h:RecAt (w.heap.size+1) (w.heap.size+1) L W) (hn:w.heap.size+1≤W.heap.size)=>show Calls Tryz.prog 76 #[.string ⟨#[109,116,105,109,101]⟩,.string (mkS V),.pointer (some ⟨w.heap.size+1,0,none⟩)] W fun e w'=>e=.returned (.tuple #[])∧RecAt (w.heap.size+1) (w.heap.size+1) (L++[(mtimeK,V)]) w'∧Below (w.heap.size+1) W w'∧KpR2 (w.heap.size+1) W w' from tell_any (w.heap.size+1) (w.heap.size+1) L (by omega) mtimeK V W h hn (Nat.le_refl _))
 have CT_pathK:=Lib.hid (fun V L W (hL:L.length≤900) (h:RecAt (w.heap.size+1) (w.heap.size+1) L W) (hn:w.heap.size+1≤W.heap.size)=>show Calls Tryz.prog 76 #[.string ⟨#[112,97,116,104]⟩,.string (mkS V),.pointer (some ⟨w.heap.size+1,0,none⟩)] W fun e w'=>e=.returned (.tuple #[])∧RecAt (w.heap.size+1) (w.heap.size+1) (L++[(pathK,V)]) w'∧Below (w.heap.size+1) W w'∧KpR2 (w.heap.size+1) W w' from tell_any (w.heap.size+1) (w.heap.size+1) L (by omega) pathK V W h hn (Nat.le_refl _))
 have CT_uidK:=Lib.hid (fun V L W (hL:L.length≤900) (h:RecAt (w.heap.size+1) (w.heap.size+1) L W) (hn:w.heap.size+1≤W.heap.size)=>show Calls Tryz.prog 76 #[.string ⟨#[117,105,100]⟩,.string (mkS V),.pointer (some ⟨w.heap.size+1,0,none⟩)] W fun e w'=>e=.returned (.tuple #[])∧RecAt (w.heap.size+1) (w.heap.size+1) (L++[(uidK,V)]) w'∧Below (w.heap.size+1) W w'∧KpR2 (w.heap.size+1) W w' from tell_any (w.heap.size+1) (w.heap.size+1) L (by omega) uidK V W h hn (Nat.le_refl _))
 obtain ⟨LA,hLA⟩:∃ L,(if sparseE e then [(majorK,[49]),(minorK,[48]),(realK,decN e.size)] else [])=L:=⟨_,rfl⟩
 obtain ⟨LG,hLG⟩:∃ L,(if 2097151<e.gid then [(gidK,decN e.gid)] else [])=L:=⟨_,rfl⟩
 obtain ⟨LL,hLL⟩:∃ L,(if 100<e.link.length then [(linkK,e.link)] else [])=L:=⟨_,rfl⟩
 obtain ⟨LT,hLT⟩:∃ L,(if beyondE e=true∨e.nano≠0 then [(mtimeK,St.textL e.sec e.nano)] else [])=L:=⟨_,rfl⟩
 obtain ⟨LP,hLP⟩:∃ L,(if (halfF (storedE e)).2.2 then [] else [(pathK,storedE e)])=L:=⟨_,rfl⟩
 obtain ⟨LU,hLU⟩:∃ L,(if 2097151<e.uid then [(uidK,decN e.uid)] else [])=L:=⟨_,rfl⟩
 have HR:=Lib.hid (show LA++LG++LL++LT++LP++LU=recsE e by subst hLA hLG hLL hLT hLP hLU;unfold recsE;simp only [List.append_assoc])
 have hlen:LA.length≤3∧LG.length≤1∧LL.length≤1∧LT.length≤1∧LP.length≤1:=by
  subst hLA hLG hLL hLT hLP
  refine ⟨?_,?_,?_,?_,?_⟩ <;> (split <;> simp)
 have HLn:=Lib.hid hlen
 obtain ⟨sp,hsp⟩:∃ b,sparseE e=b:=⟨_,rfl⟩
 obtain ⟨bb,hbb⟩:∃ b,beyondE e=b:=⟨_,rfl⟩
 obtain ⟨cb,hcb⟩:∃ b,decide (bb=true∨e.nano≠0)=b:=⟨_,rfl⟩
 obtain ⟨ft,hft⟩:∃ b,(halfF (storedE e)).2.2=b:=⟨_,rfl⟩
 have HA:=Lib.hid (show (sp=true→LA=[(majorK,[49]),(minorK,[48]),(realK,decN e.size)]∧paxData e=fillL (linesL e.map)++e.data)∧(sp=false→LA=[]∧paxData e=e.data) by
  refine ⟨fun h=>?_,fun h=>?_⟩ <;> (rw [h] at hsp;rw [← hLA];unfold paxData;rw [hsp];exact ⟨rfl,rfl⟩))
 obtain ⟨gid,hgid⟩:∃ x,(if 2097151<e.gid then 0 else e.gid)=x:=⟨_,rfl⟩
 obtain ⟨uid,huid⟩:∃ x,(if 2097151<e.uid then 0 else e.uid)=x:=⟨_,rfl⟩
 obtain ⟨sec,hsec⟩:∃ x,(if beyondE e=true then 0 else e.sec)=x:=⟨_,rfl⟩
 have HG:=Lib.hid (show (2097151<e.gid→LG=[(gidK,decN e.gid)]∧gid=0)∧(e.gid≤2097151→LG=[]∧gid=e.gid) by
  refine ⟨fun h=>?_,fun h=>?_⟩
  ·rw [← hLG,← hgid,if_pos h,if_pos h];exact ⟨rfl,rfl⟩
  ·rw [← hLG,← hgid,if_neg (by omega),if_neg (by omega)];exact ⟨rfl,rfl⟩)
 have HU:=Lib.hid (show (2097151<e.uid→LU=[(uidK,decN e.uid)]∧uid=0)∧(e.uid≤2097151→LU=[]∧uid=e.uid) by
  refine ⟨fun h=>?_,fun h=>?_⟩
  ·rw [← hLU,← huid,if_pos h,if_pos h];exact ⟨rfl,rfl⟩
  ·rw [← hLU,← huid,if_neg (by omega),if_neg (by omega)];exact ⟨rfl,rfl⟩)
 have HL:=Lib.hid (show ((100:Int)<(e.link.length:Int)→LL=[(linkK,e.link)])∧((e.link.length:Int)≤100→LL=[]∧e.link.take 100=e.link) by
  refine ⟨fun h=>?_,fun h=>?_⟩
  ·rw [← hLL,if_pos (by omega)]
  ·rw [← hLL,if_neg (by omega)];exact ⟨rfl,List.take_of_length_le (by omega)⟩)
 have HT:=Lib.hid (show (cb=true→LT=[(mtimeK,St.textL e.sec e.nano)])∧(cb=false→LT=[])∧(bb=true→sec=0)∧(bb=false→sec=e.sec) by
  rw [← hLT,← hsec,← hcb,hbb]
  refine ⟨fun h=>if_pos (of_decide_eq_true h),fun h=>if_neg (of_decide_eq_false h),fun h=>if_pos h,fun h=>if_neg (by rw [h];simp)⟩)
 have HC:=Lib.hid (show (bb=true→cb=true)∧(e.nano=0→bb=false→cb=false)∧(0<e.nano→cb=true) by
  rw [← hcb]
  refine ⟨fun h=>decide_eq_true (.inl h),fun h h0=>decide_eq_false (by rw [h,h0];simp),fun h=>decide_eq_true (.inr (by omega))⟩)
 have HB:=Lib.hid (show (e.sec<0→bb=true)∧(8589934591<e.sec→bb=true)∧(0≤e.sec→e.sec≤8589934591→bb=false) by
  rw [← hbb]
  unfold beyondE
  refine ⟨fun h=>by rw [decide_eq_true h];rfl,fun h=>by rw [decide_eq_true h,Bool.or_true],fun h1 h2=>by rw [decide_eq_false (by omega),decide_eq_false (by omega)];rfl⟩)
 have HF:=Lib.hid (show (ft=true→LP=[]∧paxName e=storedE e)∧(ft=false→LP=[(pathK,storedE e)]∧paxName e=standIn) by
  refine ⟨fun h=>?_,fun h=>?_⟩ <;> (rw [h] at hft;rw [← hLP];unfold paxName;rw [hft];exact ⟨rfl,rfl⟩))
 rw [hsp] at CP
 rw [hft] at CSp
 have hq:∀ s:Int,s=((paxData e).length:Int)→rowP e uid gid s sec=#[.string (mkS []),.string (mkS []),.string (mkS e.user),.string (mkS e.group),.string (mkS []),.int .u8 (e.kind.toNat:Int),.int .i64 e.mode,.int .i64 (paxRaw e).uid,.int .i64 (paxRaw e).gid,.int .i64 ((paxData e).length:Int),.int .i64 (paxRaw e).time,.int .i64 e.major,.int .i64 e.minor]:=fun s hs=>by
  subst hs
  rw [← huid,← hgid,← hsec]
  rfl
 have CW2:=Lib.hid (fun W=>show Calls Tryz.prog 71 #[.int .i64 4,.agg (rowP e uid gid ((paxData e).length:Int) sec),.string (mkS (paxName e)),.string (mkS (e.link.take 100)),.string (mkS (paxData e))] W fun r w'=>r=.returned (.tuple #[.string (mkS X),.nilIface])∧Below W.heap.size W w' by
  rw [hq _ rfl];exact CWt.out W)
 unfold rowP at CW2
 have hsl:=hst.1
 have hks:=mkS_size e.data
 have hkl:=mkS_size e.link
 have hkp:=mkS_size (paxData e)
 have KD:=fun W=>mkS_cat (fillL (linesL e.map)) e.data (by omega) W
 have KL:∀ W,¬ (e.link.length≤100)→(Instr.slice 9 (.string (mkS e.link)) none (some (.int .i64 100)) none).run Tryz.prog W=.ok (.string (mkS (e.link.take 100))) W:=fun W h=>mkS_upto e.link 100 (by omega) W
 clear hLA hLG hLL hLT hLP hLU hsp hbb hcb hft hgid huid hsec CWt hri hXX hX hrec htx hpn hmp hM hp hq hst hr ho
 generalize hDR:decN e.size=DS at *
 generalize decN e.gid=DG at *
 generalize decN e.uid=DU at *
 generalize linesL e.map=LS at *
 generalize hFL:fillL LS=FS at *
 generalize paxData e=PD at *
 generalize paxName e=PN at *
 generalize e.link.take 100=LK at *
 generalize storedE e=SN at *
 generalize St.textL e.sec e.nano=TX at *
 generalize recsE e=RE at *
 generalize extF RE=XE at *
 have hE:=EntAt.new w e (.slice ad e.map.length cap) 26
 have hB:=below_alloc1 w (.cells (entC e (.slice ad e.map.length cap)) 26)
 have hz1:(w.alloc (.cells (entC e (.slice ad e.map.length cap)) 26)).heap.size=w.heap.size+1:=Array.size_push ..
 have HR0:=RecAt.new (w.alloc (.cells (entC e (.slice ad e.map.length cap)) 26)) (w.heap.size+1)
 have hb2:=below_alloc1 (w.alloc (.cells (entC e (.slice ad e.map.length cap)) 26)) (.cells #[.slice none 0 0] 36)
 have HE1:=Lib.hid (hE.below hb2 hE.lt)
 have HB1:=Lib.hid (hB.trans (hb2.mono (by rw [hz1];exact Nat.le_succ _)))
 have HZ1:((w.alloc (.cells (entC e (.slice ad e.map.length cap)) 26)).alloc (.cells #[.slice none 0 0] 36)).heap.size=w.heap.size+1+1:=by
  rw [show ∀ (x:World) o,(x.alloc o).heap.size=x.heap.size+1 from fun x o=>Array.size_push ..,hz1]
 rw [hz1] at HR0
 have HR1:=Lib.hid HR0
 have HZ2:=Lib.hid HZ1
 clear hE hB hz1 HR0 hb2 HZ1
 unfold entC at HE1 HB1 HR1 HZ2
 unfold entV at CP CR CS ⊢
 unfold rawV at CR
 generalize hnm:e.map.length=n at *
 clear hnm
 go_enter Tryz.func42,Tryz.ntmps42
 go_upto_region 3 with fail
 generalize (World.alloc (World.alloc w _) _)=W1 at *
 go_cut [6,7,8,9] (fun s6 s7 s8 s9 wx=>∃ B,s6=.pointer (some ⟨B,0,none⟩)∧s7=.string (mkS SN)∧s8=.string (mkS e.link)∧s9=.string (mkS e.data)∧PxS w e (.slice ad n cap) B [] e.uid e.gid e.data.length e.sec wx)
 case first=>as_aux_lemma =>
  refine wp_region_held_drew (S:=fun w'=>Below W1.heap.size W1 w'∧EntAt w' w.heap.size e (.slice ad n cap)) (by kernel_rfl) ⟨(Below.refl _ _).drew,HE1.out.below (Below.refl _ _).drew HE1.out.lt⟩ (fun hHeld=>?_)
  generalize W1.drew=V0 at *
  refine take_to (i:=0) 20 (.agg #[.string (mkS e.name),.int .u8 (e.kind.toNat:Int),.int .i64 e.mode,.int .i64 e.uid,.int .i64 e.gid,.int .i64 e.size,.int .i64 e.sec,.int .i64 e.nano,.string (mkS e.link),.string (mkS e.user),.string (mkS e.group),.int .i64 e.major,.int .i64 e.minor,.string (mkS e.data),.slice ad n cap]) rfl rfl (by kernel_rfl) (by kernel_rfl) (by kernel_rfl) (fun _ _ _ h=>h) (Or.inl ⟨by rfl,?_⟩) (by assumption) ?_
  ·(intro w' hSw;obtain ⟨_,hSe⟩:=hSw;obtain ⟨c0,c1,c2,c3,c4,c5,c6,c7,c8,c9,c10,c11,c12,c13,c14⟩:=hSe;go_simp;try with_reducible rfl)
  simp only [List.setIfInBounds_toArray,List.set_cons_succ,List.set_cons_zero]
  refine take_to (i:=2) 22 (.agg #[.string (mkS e.name),.int .u8 (e.kind.toNat:Int),.int .i64 e.mode,.int .i64 e.uid,.int .i64 e.gid,.int .i64 e.size,.int .i64 e.sec,.int .i64 e.nano,.string (mkS e.link),.string (mkS e.user),.string (mkS e.group),.int .i64 e.major,.int .i64 e.minor,.string (mkS e.data),.slice ad n cap]) rfl rfl (by kernel_rfl) (by kernel_rfl) (by kernel_rfl) (fun _ _ _ h=>h) (Or.inl ⟨by rfl,?_⟩) (by assumption) ?_
  ·(intro w' hSw;obtain ⟨_,hSe⟩:=hSw;obtain ⟨c0,c1,c2,c3,c4,c5,c6,c7,c8,c9,c10,c11,c12,c13,c14⟩:=hSe;go_simp;try with_reducible rfl)
  simp only [List.setIfInBounds_toArray,List.set_cons_succ,List.set_cons_zero]
  refine take_to (i:=4) 24 (.pointer (some ⟨w.heap.size,8,none⟩)) rfl rfl (by kernel_rfl) (by kernel_rfl) (by kernel_rfl) (fun _ _ _ h=>h) (Or.inl ⟨by rfl,fun _ _=>by kernel_rfl⟩) (by assumption) ?_
  simp only [List.setIfInBounds_toArray,List.set_cons_succ,List.set_cons_zero]
  refine take_to (i:=5) 25 (.string (mkS e.link)) rfl rfl (by kernel_rfl) (by kernel_rfl) (by kernel_rfl) (fun _ _ _ h=>h) (Or.inl ⟨by rfl,?_⟩) (by assumption) ?_
  ·(intro w' hSw;obtain ⟨_,hSe⟩:=hSw;obtain ⟨c0,c1,c2,c3,c4,c5,c6,c7,c8,c9,c10,c11,c12,c13,c14⟩:=hSe;go_simp;try with_reducible rfl)
  simp only [List.setIfInBounds_toArray,List.set_cons_succ,List.set_cons_zero]
  refine take_to (i:=6) 26 (.pointer (some ⟨w.heap.size,13,none⟩)) rfl rfl (by kernel_rfl) (by kernel_rfl) (by kernel_rfl) (fun _ _ _ h=>h) (Or.inl ⟨by rfl,fun _ _=>by kernel_rfl⟩) (by assumption) ?_
  simp only [List.setIfInBounds_toArray,List.set_cons_succ,List.set_cons_zero]
  refine take_to (i:=7) 27 (.string (mkS e.data)) rfl rfl (by kernel_rfl) (by kernel_rfl) (by kernel_rfl) (fun _ _ _ h=>h) (Or.inl ⟨by rfl,?_⟩) (by assumption) ?_
  ·(intro w' hSw;obtain ⟨_,hSe⟩:=hSw;obtain ⟨c0,c1,c2,c3,c4,c5,c6,c7,c8,c9,c10,c11,c12,c13,c14⟩:=hSe;go_simp;try with_reducible rfl)
  simp only [List.setIfInBounds_toArray,List.set_cons_succ,List.set_cons_zero]
  refine wpAnyH_ready (rs:=[1,8]) (by kernel_rfl) (by simp) ?_
  refine AllReadyH.cons rfl (fun K hK=>?_) ?_
  ·rw [if_pos (by rfl)]
   refine call_at (R:=fun v V=>v=(rawV (rawE e))∧Below V0.heap.size V0 V) 21 rfl 73 #[.agg #[.string (mkS e.name),.int .u8 (e.kind.toNat:Int),.int .i64 e.mode,.int .i64 e.uid,.int .i64 e.gid,.int .i64 e.size,.int .i64 e.sec,.int .i64 e.nano,.string (mkS e.link),.string (mkS e.user),.string (mkS e.group),.int .i64 e.major,.int .i64 e.minor,.string (mkS e.data),.slice ad n cap]] (by kernel_rfl) ((CR.out _).mono (by rintro e V ⟨he,hb⟩;exact ⟨_,he,rfl,hb⟩)) ?_
   rintro _ V1 ⟨rfl,h4⟩
   refine hK.out _ _ ⟨hHeld.1.trans (h4.mono hHeld.1.size),hHeld.2.below h4 hHeld.2.lt⟩ (fun hHeld2=>?_)
   clear hK K hHeld h4
   have hHeld:=hHeld2
   clear hHeld2
   (try simp only [Act.put]);(try simp only [List.setIfInBounds_toArray]);(try simp only [List.set_cons_succ]);(try simp only [List.set_cons_zero])
   refine wpAnyH_ready (rs:=[3,8]) (by kernel_rfl) (by simp) ?_
   refine AllReadyH.cons rfl (fun K hK=>?_) ?_
   ·rw [if_pos (by rfl)]
    refine call_at (R:=fun v V=>v=.string (mkS SN)∧Below V1.heap.size V1 V) 23 rfl 72 #[.agg #[.string (mkS e.name),.int .u8 (e.kind.toNat:Int),.int .i64 e.mode,.int .i64 e.uid,.int .i64 e.gid,.int .i64 e.size,.int .i64 e.sec,.int .i64 e.nano,.string (mkS e.link),.string (mkS e.user),.string (mkS e.group),.int .i64 e.major,.int .i64 e.minor,.string (mkS e.data),.slice ad n cap]] (by kernel_rfl) ((CS.out _).mono (by rintro e V ⟨he,hb⟩;exact ⟨_,he,rfl,hb⟩)) ?_
    rintro _ V2 ⟨rfl,h4⟩
    refine hK.out _ _ ⟨hHeld.1.trans (h4.mono hHeld.1.size),hHeld.2.below h4 hHeld.2.lt⟩ (fun hHeld2=>?_)
    clear hK K hHeld h4
    have hHeld:=hHeld2
    clear hHeld2
    (try simp only [Act.put]);(try simp only [List.setIfInBounds_toArray]);(try simp only [List.set_cons_succ]);(try simp only [List.set_cons_zero])
    refine wpAnyH_ready (rs:=[8]) (by kernel_rfl) (by simp) ?_
    refine AllReadyH.cons rfl (fun K hK=>?_) ?_
    ·go_simp
     refine hK.out _ _ ⟨hHeld.1.alloc hHeld.1.size _,hHeld.2.below ((Below.refl _ _).alloc (Nat.le_refl _) _) hHeld.2.lt⟩ (fun hHeld2=>?_)
     obtain ⟨old,hrow,hoz⟩:∃ old:Array Value,(V2.alloc (.cells #[.string ⟨#[]⟩,.string ⟨#[]⟩,.string ⟨#[]⟩,.string ⟨#[]⟩,.string ⟨#[]⟩,.int .u8 0,.int .i64 0,.int .i64 0,.int .i64 0,.int .i64 0,.int .i64 0,.int .i64 0,.int .i64 0] 117)).heap[V2.heap.size]?=some (.cells old 117 (0,0))∧old.size=13:=⟨_,heap_alloc_new _ _,rfl⟩
     have hB:=hHeld.1.size
     clear hK K hHeld
     have hHeld:=hHeld2
     clear hHeld2
     (try simp only [Act.put]);(try simp only [List.setIfInBounds_toArray]);(try simp only [List.set_cons_succ]);(try simp only [List.set_cons_zero])
     generalize (V2.alloc (.cells #[.string ⟨#[]⟩,.string ⟨#[]⟩,.string ⟨#[]⟩,.string ⟨#[]⟩,.string ⟨#[]⟩,.int .u8 0,.int .i64 0,.int .i64 0,.int .i64 0,.int .i64 0,.int .i64 0,.int .i64 0,.int .i64 0] 117))=V3 at *
     generalize V2.heap.size=B at *
     refine wpAnyH_ready (rs:=[9]) (by kernel_rfl) (by simp) ?_
     refine AllReadyH.cons rfl (fun K hK=>?_) AllReadyH.nil
     rw [if_pos (by rfl)]
     refine store_row_no rfl 117 _ _ rfl B #[.string (mkS (rawE e).name),.string (mkS (rawE e).link),.string (mkS (rawE e).user),.string (mkS (rawE e).group),.string (mkS (rawE e).front),.int .u8 ((rawE e).kind.toNat:Int),.int .i64 (rawE e).mode,.int .i64 (rawE e).uid,.int .i64 (rawE e).gid,.int .i64 (rawE e).size,.int .i64 (rawE e).time,.int .i64 (rawE e).major,.int .i64 (rawE e).minor] rfl rfl 117 old hrow (by kernel_rfl) hoz (rawC_one (rawE e)) ?_
     have hfin:PxS w e (.slice ad n cap) B [] e.uid e.gid e.data.length e.sec (World.setRow V3 B #[.string (mkS (rawE e).name),.string (mkS (rawE e).link),.string (mkS (rawE e).user),.string (mkS (rawE e).group),.string (mkS (rawE e).front),.int .u8 ((rawE e).kind.toNat:Int),.int .i64 (rawE e).mode,.int .i64 (rawE e).uid,.int .i64 (rawE e).gid,.int .i64 (rawE e).size,.int .i64 (rawE e).time,.int .i64 (rawE e).major,.int .i64 (rawE e).minor]):=PxS.made HB1.out HR1.out HZ2.out hHeld.1 hHeld.2 hB hrow
     refine hK.out _ _ ⟨below_setRow hHeld.1 hB _,hfin.ent⟩ (fun hHeld2=>?_)
     clear hK K hHeld
     (try simp only [Act.put]);(try simp only [List.setIfInBounds_toArray]);(try simp only [List.set_cons_succ]);(try simp only [List.set_cons_zero])
     refine take_to (i:=10) 7 (.string (mkS SN)) rfl rfl (by kernel_rfl) (by kernel_rfl) (by kernel_rfl) (fun _ _ _ h=>h) (Or.inl ⟨by rfl,fun _ _=>rfl⟩) (by assumption) ?_
     simp only [List.setIfInBounds_toArray,List.set_cons_succ,List.set_cons_zero]
     refine take_to (i:=11) 8 (.string (mkS e.link)) rfl rfl (by kernel_rfl) (by kernel_rfl) (by kernel_rfl) (fun _ _ _ h=>h) (Or.inl ⟨by rfl,fun _ _=>rfl⟩) (by assumption) ?_
     simp only [List.setIfInBounds_toArray,List.set_cons_succ,List.set_cons_zero]
     refine take_to (i:=12) 9 (.string (mkS e.data)) rfl rfl (by kernel_rfl) (by kernel_rfl) (by kernel_rfl) (fun _ _ _ h=>h) (Or.inl ⟨by rfl,fun _ _=>rfl⟩) (by assumption) ?_
     simp only [List.setIfInBounds_toArray,List.set_cons_succ,List.set_cons_zero]
     refine wpAnyH_done (by kernel_rfl) ?_ _
     go_wp2_with fail
     go_meet
     exact ⟨_,rfl,rfl,rfl,rfl,hfin⟩
    exact AllReadyH.nil
   refine AllReadyH.cons rfl (fun K hK=>?_) ?_
   ·go_simp
    refine hK.out _ _ ⟨hHeld.1.alloc hHeld.1.size _,hHeld.2.below ((Below.refl _ _).alloc (Nat.le_refl _) _) hHeld.2.lt⟩ (fun hHeld2=>?_)
    obtain ⟨old,hrow,hoz⟩:∃ old:Array Value,(V1.alloc (.cells #[.string ⟨#[]⟩,.string ⟨#[]⟩,.string ⟨#[]⟩,.string ⟨#[]⟩,.string ⟨#[]⟩,.int .u8 0,.int .i64 0,.int .i64 0,.int .i64 0,.int .i64 0,.int .i64 0,.int .i64 0,.int .i64 0] 117)).heap[V1.heap.size]?=some (.cells old 117 (0,0))∧old.size=13:=⟨_,heap_alloc_new _ _,rfl⟩
    have hB:=hHeld.1.size
    clear hK K hHeld
    have hHeld:=hHeld2
    clear hHeld2
    (try simp only [Act.put]);(try simp only [List.setIfInBounds_toArray]);(try simp only [List.set_cons_succ]);(try simp only [List.set_cons_zero])
    generalize (V1.alloc (.cells #[.string ⟨#[]⟩,.string ⟨#[]⟩,.string ⟨#[]⟩,.string ⟨#[]⟩,.string ⟨#[]⟩,.int .u8 0,.int .i64 0,.int .i64 0,.int .i64 0,.int .i64 0,.int .i64 0,.int .i64 0,.int .i64 0] 117))=V4 at *
    generalize V1.heap.size=B at *
    refine wpAnyH_ready (rs:=[3]) (by kernel_rfl) (by simp) ?_
    refine AllReadyH.cons rfl (fun K hK=>?_) ?_
    ·rw [if_pos (by rfl)]
     refine call_at (R:=fun v V=>v=.string (mkS SN)∧Below V4.heap.size V4 V) 23 rfl 72 #[.agg #[.string (mkS e.name),.int .u8 (e.kind.toNat:Int),.int .i64 e.mode,.int .i64 e.uid,.int .i64 e.gid,.int .i64 e.size,.int .i64 e.sec,.int .i64 e.nano,.string (mkS e.link),.string (mkS e.user),.string (mkS e.group),.int .i64 e.major,.int .i64 e.minor,.string (mkS e.data),.slice ad n cap]] (by kernel_rfl) ((CS.out _).mono (by rintro e V ⟨he,hb⟩;exact ⟨_,he,rfl,hb⟩)) ?_
     rintro _ V5 ⟨rfl,h4⟩
     refine hK.out _ _ ⟨hHeld.1.trans (h4.mono hHeld.1.size),hHeld.2.below h4 hHeld.2.lt⟩ (fun hHeld2=>?_)
     have hrow:=(h4.block _ (Array.getElem?_eq_some_iff.1 hrow).1).trans hrow
     clear hK K hHeld h4
     have hHeld:=hHeld2
     clear hHeld2
     (try simp only [Act.put]);(try simp only [List.setIfInBounds_toArray]);(try simp only [List.set_cons_succ]);(try simp only [List.set_cons_zero])
     refine wpAnyH_ready (rs:=[9]) (by kernel_rfl) (by simp) ?_
     refine AllReadyH.cons rfl (fun K hK=>?_) AllReadyH.nil
     rw [if_pos (by rfl)]
     refine store_row_no rfl 117 _ _ rfl B #[.string (mkS (rawE e).name),.string (mkS (rawE e).link),.string (mkS (rawE e).user),.string (mkS (rawE e).group),.string (mkS (rawE e).front),.int .u8 ((rawE e).kind.toNat:Int),.int .i64 (rawE e).mode,.int .i64 (rawE e).uid,.int .i64 (rawE e).gid,.int .i64 (rawE e).size,.int .i64 (rawE e).time,.int .i64 (rawE e).major,.int .i64 (rawE e).minor] rfl rfl 117 old hrow (by kernel_rfl) hoz (rawC_one (rawE e)) ?_
     have hfin:PxS w e (.slice ad n cap) B [] e.uid e.gid e.data.length e.sec (World.setRow V5 B #[.string (mkS (rawE e).name),.string (mkS (rawE e).link),.string (mkS (rawE e).user),.string (mkS (rawE e).group),.string (mkS (rawE e).front),.int .u8 ((rawE e).kind.toNat:Int),.int .i64 (rawE e).mode,.int .i64 (rawE e).uid,.int .i64 (rawE e).gid,.int .i64 (rawE e).size,.int .i64 (rawE e).time,.int .i64 (rawE e).major,.int .i64 (rawE e).minor]):=PxS.made HB1.out HR1.out HZ2.out hHeld.1 hHeld.2 hB hrow
     refine hK.out _ _ ⟨below_setRow hHeld.1 hB _,hfin.ent⟩ (fun hHeld2=>?_)
     clear hK K hHeld
     (try simp only [Act.put]);(try simp only [List.setIfInBounds_toArray]);(try simp only [List.set_cons_succ]);(try simp only [List.set_cons_zero])
     refine take_to (i:=10) 7 (.string (mkS SN)) rfl rfl (by kernel_rfl) (by kernel_rfl) (by kernel_rfl) (fun _ _ _ h=>h) (Or.inl ⟨by rfl,fun _ _=>rfl⟩) (by assumption) ?_
     simp only [List.setIfInBounds_toArray,List.set_cons_succ,List.set_cons_zero]
     refine take_to (i:=11) 8 (.string (mkS e.link)) rfl rfl (by kernel_rfl) (by kernel_rfl) (by kernel_rfl) (fun _ _ _ h=>h) (Or.inl ⟨by rfl,fun _ _=>rfl⟩) (by assumption) ?_
     simp only [List.setIfInBounds_toArray,List.set_cons_succ,List.set_cons_zero]
     refine take_to (i:=12) 9 (.string (mkS e.data)) rfl rfl (by kernel_rfl) (by kernel_rfl) (by kernel_rfl) (fun _ _ _ h=>h) (Or.inl ⟨by rfl,fun _ _=>rfl⟩) (by assumption) ?_
     simp only [List.setIfInBounds_toArray,List.set_cons_succ,List.set_cons_zero]
     refine wpAnyH_done (by kernel_rfl) ?_ _
     go_wp2_with fail
     go_meet
     exact ⟨_,rfl,rfl,rfl,rfl,hfin⟩
    exact AllReadyH.nil
   exact AllReadyH.nil
  refine AllReadyH.cons rfl (fun K hK=>?_) ?_
  ·go_simp
   refine hK.out _ _ ⟨hHeld.1.alloc hHeld.1.size _,hHeld.2.below ((Below.refl _ _).alloc (Nat.le_refl _) _) hHeld.2.lt⟩ (fun hHeld2=>?_)
   obtain ⟨old,hrow,hoz⟩:∃ old:Array Value,(V0.alloc (.cells #[.string ⟨#[]⟩,.string ⟨#[]⟩,.string ⟨#[]⟩,.string ⟨#[]⟩,.string ⟨#[]⟩,.int .u8 0,.int .i64 0,.int .i64 0,.int .i64 0,.int .i64 0,.int .i64 0,.int .i64 0,.int .i64 0] 117)).heap[V0.heap.size]?=some (.cells old 117 (0,0))∧old.size=13:=⟨_,heap_alloc_new _ _,rfl⟩
   have hB:=hHeld.1.size
   clear hK K hHeld
   have hHeld:=hHeld2
   clear hHeld2
   (try simp only [Act.put]);(try simp only [List.setIfInBounds_toArray]);(try simp only [List.set_cons_succ]);(try simp only [List.set_cons_zero])
   generalize (V0.alloc (.cells #[.string ⟨#[]⟩,.string ⟨#[]⟩,.string ⟨#[]⟩,.string ⟨#[]⟩,.string ⟨#[]⟩,.int .u8 0,.int .i64 0,.int .i64 0,.int .i64 0,.int .i64 0,.int .i64 0,.int .i64 0,.int .i64 0] 117))=V6 at *
   generalize V0.heap.size=B at *
   refine wpAnyH_ready (rs:=[1]) (by kernel_rfl) (by simp) ?_
   refine AllReadyH.cons rfl (fun K hK=>?_) ?_
   ·rw [if_pos (by rfl)]
    refine call_at (R:=fun v V=>v=(rawV (rawE e))∧Below V6.heap.size V6 V) 21 rfl 73 #[.agg #[.string (mkS e.name),.int .u8 (e.kind.toNat:Int),.int .i64 e.mode,.int .i64 e.uid,.int .i64 e.gid,.int .i64 e.size,.int .i64 e.sec,.int .i64 e.nano,.string (mkS e.link),.string (mkS e.user),.string (mkS e.group),.int .i64 e.major,.int .i64 e.minor,.string (mkS e.data),.slice ad n cap]] (by kernel_rfl) ((CR.out _).mono (by rintro e V ⟨he,hb⟩;exact ⟨_,he,rfl,hb⟩)) ?_
    rintro _ V7 ⟨rfl,h4⟩
    refine hK.out _ _ ⟨hHeld.1.trans (h4.mono hHeld.1.size),hHeld.2.below h4 hHeld.2.lt⟩ (fun hHeld2=>?_)
    have hrow:=(h4.block _ (Array.getElem?_eq_some_iff.1 hrow).1).trans hrow
    clear hK K hHeld h4
    have hHeld:=hHeld2
    clear hHeld2
    (try simp only [Act.put]);(try simp only [List.setIfInBounds_toArray]);(try simp only [List.set_cons_succ]);(try simp only [List.set_cons_zero])
    refine wpAnyH_ready (rs:=[3]) (by kernel_rfl) (by simp) ?_
    refine AllReadyH.cons rfl (fun K hK=>?_) ?_
    ·rw [if_pos (by rfl)]
     refine call_at (R:=fun v V=>v=.string (mkS SN)∧Below V7.heap.size V7 V) 23 rfl 72 #[.agg #[.string (mkS e.name),.int .u8 (e.kind.toNat:Int),.int .i64 e.mode,.int .i64 e.uid,.int .i64 e.gid,.int .i64 e.size,.int .i64 e.sec,.int .i64 e.nano,.string (mkS e.link),.string (mkS e.user),.string (mkS e.group),.int .i64 e.major,.int .i64 e.minor,.string (mkS e.data),.slice ad n cap]] (by kernel_rfl) ((CS.out _).mono (by rintro e V ⟨he,hb⟩;exact ⟨_,he,rfl,hb⟩)) ?_
     rintro _ V8 ⟨rfl,h4⟩
     refine hK.out _ _ ⟨hHeld.1.trans (h4.mono hHeld.1.size),hHeld.2.below h4 hHeld.2.lt⟩ (fun hHeld2=>?_)
     have hrow:=(h4.block _ (Array.getElem?_eq_some_iff.1 hrow).1).trans hrow
     clear hK K hHeld h4
     have hHeld:=hHeld2
     clear hHeld2
     (try simp only [Act.put]);(try simp only [List.setIfInBounds_toArray]);(try simp only [List.set_cons_succ]);(try simp only [List.set_cons_zero])
     refine wpAnyH_ready (rs:=[9]) (by kernel_rfl) (by simp) ?_
     refine AllReadyH.cons rfl (fun K hK=>?_) AllReadyH.nil
     rw [if_pos (by rfl)]
     refine store_row_no rfl 117 _ _ rfl B #[.string (mkS (rawE e).name),.string (mkS (rawE e).link),.string (mkS (rawE e).user),.string (mkS (rawE e).group),.string (mkS (rawE e).front),.int .u8 ((rawE e).kind.toNat:Int),.int .i64 (rawE e).mode,.int .i64 (rawE e).uid,.int .i64 (rawE e).gid,.int .i64 (rawE e).size,.int .i64 (rawE e).time,.int .i64 (rawE e).major,.int .i64 (rawE e).minor] rfl rfl 117 old hrow (by kernel_rfl) hoz (rawC_one (rawE e)) ?_
     have hfin:PxS w e (.slice ad n cap) B [] e.uid e.gid e.data.length e.sec (World.setRow V8 B #[.string (mkS (rawE e).name),.string (mkS (rawE e).link),.string (mkS (rawE e).user),.string (mkS (rawE e).group),.string (mkS (rawE e).front),.int .u8 ((rawE e).kind.toNat:Int),.int .i64 (rawE e).mode,.int .i64 (rawE e).uid,.int .i64 (rawE e).gid,.int .i64 (rawE e).size,.int .i64 (rawE e).time,.int .i64 (rawE e).major,.int .i64 (rawE e).minor]):=PxS.made HB1.out HR1.out HZ2.out hHeld.1 hHeld.2 hB hrow
     refine hK.out _ _ ⟨below_setRow hHeld.1 hB _,hfin.ent⟩ (fun hHeld2=>?_)
     clear hK K hHeld
     (try simp only [Act.put]);(try simp only [List.setIfInBounds_toArray]);(try simp only [List.set_cons_succ]);(try simp only [List.set_cons_zero])
     refine take_to (i:=10) 7 (.string (mkS SN)) rfl rfl (by kernel_rfl) (by kernel_rfl) (by kernel_rfl) (fun _ _ _ h=>h) (Or.inl ⟨by rfl,fun _ _=>rfl⟩) (by assumption) ?_
     simp only [List.setIfInBounds_toArray,List.set_cons_succ,List.set_cons_zero]
     refine take_to (i:=11) 8 (.string (mkS e.link)) rfl rfl (by kernel_rfl) (by kernel_rfl) (by kernel_rfl) (fun _ _ _ h=>h) (Or.inl ⟨by rfl,fun _ _=>rfl⟩) (by assumption) ?_
     simp only [List.setIfInBounds_toArray,List.set_cons_succ,List.set_cons_zero]
     refine take_to (i:=12) 9 (.string (mkS e.data)) rfl rfl (by kernel_rfl) (by kernel_rfl) (by kernel_rfl) (fun _ _ _ h=>h) (Or.inl ⟨by rfl,fun _ _=>rfl⟩) (by assumption) ?_
     simp only [List.setIfInBounds_toArray,List.set_cons_succ,List.set_cons_zero]
     refine wpAnyH_done (by kernel_rfl) ?_ _
     go_wp2_with fail
     go_meet
     exact ⟨_,rfl,rfl,rfl,rfl,hfin⟩
    exact AllReadyH.nil
   exact AllReadyH.nil
  exact AllReadyH.nil
 case rest =>
  obtain ⟨B,rfl,rfl,rfl,rfl,h⟩:=hcut
  have H1:=Lib.hid h
  clear h HE1 HB1 HR1 HZ2 CR CS
  obtain ⟨c0,c1,c2,c3,c4,c5,c6,c7,c8,c9,c10,c11,c12,c13,c14⟩:=id H1.out.ent
  go_upto_if 29 with (first
   |(go_at_call 74;(with_reducible refine (CP.out _).mono ?_);rintro r vH2 ⟨rfl,g1⟩;have H2:=Lib.hid (H1.out.next g1);clear g1 c0 c1 c2 c3 c4 c5 c6 c7 c8 c9 c10 c11 c12 c13 c14;obtain ⟨c0,c1,c2,c3,c4,c5,c6,c7,c8,c9,c10,c11,c12,c13,c14⟩:=id H2.out.ent)
   | fail)
  go_cut [9] (fun s9 wx=>s9=.string (mkS PD)∧PxS w e (.slice ad n cap) B (LA) e.uid e.gid (PD.length:Int) e.sec wx)
  case first=>as_aux_lemma =>
   cases sp with
   | false =>
    obtain ⟨hA1,hA2⟩:=HA.out.2 rfl
    go_wp2_with fail
    go_meet
    exact ⟨by rw [hA2],by rw [hA1,hA2];exact H2.out⟩
   | true =>
    obtain ⟨hA1,hA2⟩:=HA.out.1 rfl
    rw [← hA2] at KD
    have HA1:=Lib.hid hA1
    clear hA1 hA2
    go_wp2_with (first
     |(go_at_call 76;(with_reducible refine (CT_majorK.out ([]) _ (by have:=HLn.out;(try simp only [List.length_append,List.length_cons,List.length_nil]);omega) H2.out.recs H2.out.size).mono ?_);rintro r vH3 ⟨rfl,g1,g2,g3⟩;have H3:=Lib.hid (H2.out.told g1 g2 g3);clear g1 g2 g3 c0 c1 c2 c3 c4 c5 c6 c7 c8 c9 c10 c11 c12 c13 c14;obtain ⟨c0,c1,c2,c3,c4,c5,c6,c7,c8,c9,c10,c11,c12,c13,c14⟩:=id H3.out.ent)
     |(go_at_call 76;(with_reducible refine (CT_minorK.out ([]++[(majorK,[49])]) _ (by have:=HLn.out;(try simp only [List.length_append,List.length_cons,List.length_nil]);omega) H3.out.recs H3.out.size).mono ?_);rintro r vH4 ⟨rfl,g1,g2,g3⟩;have H4:=Lib.hid (H3.out.told g1 g2 g3);clear g1 g2 g3 c0 c1 c2 c3 c4 c5 c6 c7 c8 c9 c10 c11 c12 c13 c14;obtain ⟨c0,c1,c2,c3,c4,c5,c6,c7,c8,c9,c10,c11,c12,c13,c14⟩:=id H4.out.ent)
     |(go_at_call 77;(with_reducible refine (CIs.out _ H4.out.below).mono ?_);rintro r vH5 ⟨rfl,g1⟩;have H5:=Lib.hid (H4.out.next g1);clear g1 c0 c1 c2 c3 c4 c5 c6 c7 c8 c9 c10 c11 c12 c13 c14;obtain ⟨c0,c1,c2,c3,c4,c5,c6,c7,c8,c9,c10,c11,c12,c13,c14⟩:=id H5.out.ent)
     |(go_at_call 76;(with_reducible refine (CT_realK.out DS ([]++[(majorK,[49])]++[(minorK,[48])]) _ (by have:=HLn.out;(try simp only [List.length_append,List.length_cons,List.length_nil]);omega) H5.out.recs H5.out.size).mono ?_);rintro r vH6 ⟨rfl,g1,g2,g3⟩;have H6:=Lib.hid (H5.out.told g1 g2 g3);clear g1 g2 g3 c0 c1 c2 c3 c4 c5 c6 c7 c8 c9 c10 c11 c12 c13 c14;obtain ⟨c0,c1,c2,c3,c4,c5,c6,c7,c8,c9,c10,c11,c12,c13,c14⟩:=id H6.out.ent)
     |(go_at_call 79;(with_reducible refine (CLn.out _ H6.out.below).mono ?_);rintro r vH7 ⟨rfl,g1⟩;have H7:=Lib.hid (H6.out.next g1);clear g1 c0 c1 c2 c3 c4 c5 c6 c7 c8 c9 c10 c11 c12 c13 c14;obtain ⟨c0,c1,c2,c3,c4,c5,c6,c7,c8,c9,c10,c11,c12,c13,c14⟩:=id H7.out.ent)
     |(go_at_call 78;(with_reducible refine (CFl.out _).mono ?_);rintro r vH8 ⟨rfl,g1⟩;have H8:=Lib.hid (H7.out.next g1);clear g1 c0 c1 c2 c3 c4 c5 c6 c7 c8 c9 c10 c11 c12 c13 c14;obtain ⟨c0,c1,c2,c3,c4,c5,c6,c7,c8,c9,c10,c11,c12,c13,c14⟩:=id H8.out.ent;have k9:=row_cell H8.out.raw 9 _ rfl;have f9:=row_free H8.out.raw 9)
     | fail)
    go_meet
    exact ⟨rfl,by rw [HA1.out];exact H8.out.store rfl⟩
  case rest =>
   obtain ⟨rfl,h⟩:=hcut
   clear H1 HA KD CP CIs CLn CFl CT_majorK CT_minorK CT_realK
   have H1:=Lib.hid h
   clear h
   go_upto_region 10 with fail
   obtain ⟨c0,c1,c2,c3,c4,c5,c6,c7,c8,c9,c10,c11,c12,c13,c14⟩:=id H1.out.ent
   have q4:=fun d os=>cell_regrown c4 d os
   clear c0 c1 c2 c3 c4 c5 c6 c7 c8 c9 c10 c11 c12 c13 c14
   refine wp_region_quiet_below (by kernel_rfl) (by kernel_rfl) ?_
   repeat (go_big_quiet_step (first|(go_at_call 80;with_reducible exact Calls.regrown_of (CM8.out _))|fail))
   refine wpQuiet_nil ?_
   intro _ hw'
   obtain ⟨⟨dq,osq⟩,hw''⟩:=hw'
   subst hw''
   have H2:=Lib.hid (H1.out.next (below_regrown _ dq osq))
   clear q4
   dsimp only at *
   generalize Sort.grow (redrawn _ dq) osq=xH2 at *
   go_upto_if 51 with fail
   go_cut [9] (fun s9 wx=>s9=.string (mkS PD)∧PxS w e (.slice ad n cap) B (LA++LG) e.uid gid (PD.length:Int) e.sec wx)
   case first=>as_aux_lemma =>
    by_cases hg:2097151<e.gid
    ·obtain ⟨hA1,hA2⟩:=HG.out.1 hg
     have HA1:=Lib.hid (And.intro hA1 hA2)
     clear hA1 hA2
     obtain ⟨c0,c1,c2,c3,c4,c5,c6,c7,c8,c9,c10,c11,c12,c13,c14⟩:=id H2.out.ent
     go_wp2_with (first
      |(go_at_call 77;(with_reducible refine (CIg.out _ H2.out.below).mono ?_);rintro r vH3 ⟨rfl,g1⟩;have H3:=Lib.hid (H2.out.next g1);clear g1 c0 c1 c2 c3 c4 c5 c6 c7 c8 c9 c10 c11 c12 c13 c14;obtain ⟨c0,c1,c2,c3,c4,c5,c6,c7,c8,c9,c10,c11,c12,c13,c14⟩:=id H3.out.ent)
      |(go_at_call 76;(with_reducible refine (CT_gidK.out DG (LA) _ (by have:=HLn.out;(try simp only [List.length_append,List.length_cons,List.length_nil]);omega) H3.out.recs H3.out.size).mono ?_);rintro r vH4 ⟨rfl,g1,g2,g3⟩;have H4:=Lib.hid (H3.out.told g1 g2 g3);clear g1 g2 g3 c0 c1 c2 c3 c4 c5 c6 c7 c8 c9 c10 c11 c12 c13 c14;obtain ⟨c0,c1,c2,c3,c4,c5,c6,c7,c8,c9,c10,c11,c12,c13,c14⟩:=id H4.out.ent;have k9:=row_cell H4.out.raw 8 _ rfl;have f9:=row_free H4.out.raw 8)
      | fail)
     go_meet
     exact ⟨rfl,by rw [HA1.out.1,HA1.out.2];exact H4.out.store rfl⟩
    ·obtain ⟨hA1,hA2⟩:=HG.out.2 (by omega)
     go_wp2_with fail
     go_meet
     exact ⟨rfl,by rw [hA1,hA2,List.append_nil];exact H2.out⟩
   case rest =>
    obtain ⟨rfl,h⟩:=hcut
    clear H1 H2 HG CIg CT_gidK
    have H1:=Lib.hid h
    clear h
    go_upto_if 60 with fail
    go_cut [8] (fun s8 wx=>s8=.string (mkS LK)∧PxS w e (.slice ad n cap) B (LA++LG++LL) e.uid gid (PD.length:Int) e.sec wx)
    case first=>as_aux_lemma =>
     by_cases hg:(100:Int)<(e.link.length:Int)
     ·have HA1:=Lib.hid (HL.out.1 hg)
      have KL2:=fun W=>KL W (by omega)
      obtain ⟨c0,c1,c2,c3,c4,c5,c6,c7,c8,c9,c10,c11,c12,c13,c14⟩:=id H1.out.ent
      go_wp2_with (first
       |(go_at_call 76;(with_reducible refine (CT_linkK.out e.link (LA++LG) _ (by have:=HLn.out;(try simp only [List.length_append,List.length_cons,List.length_nil]);omega) H1.out.recs H1.out.size).mono ?_);rintro r vH4 ⟨rfl,g1,g2,g3⟩;have H4:=Lib.hid (H1.out.told g1 g2 g3);clear g1 g2 g3 c0 c1 c2 c3 c4 c5 c6 c7 c8 c9 c10 c11 c12 c13 c14;obtain ⟨c0,c1,c2,c3,c4,c5,c6,c7,c8,c9,c10,c11,c12,c13,c14⟩:=id H4.out.ent)
       | fail)
      go_meet
      exact ⟨rfl,by rw [HA1.out];exact H4.out⟩
     ·obtain ⟨hA1,hA2⟩:=HL.out.2 (by omega)
      go_wp2_with fail
      go_meet
      exact ⟨by rw [hA2],by rw [hA1,List.append_nil];exact H1.out⟩
    case rest =>
     obtain ⟨rfl,h⟩:=hcut
     clear H1 HL KL CT_linkK
     have H1:=Lib.hid h
     clear h
     go_upto_region 16 with fail
     go_cut [10] (fun s10 wx=>s10=.bool bb∧PxS w e (.slice ad n cap) B (LA++LG++LL) e.uid gid (PD.length:Int) e.sec wx)
     case first=>as_aux_lemma =>
      by_cases hn:e.sec<0
      ·have hbb:=HB.out.1 hn
       have hd1:decide (e.sec<0)=true:=decide_eq_true hn
       obtain ⟨c0,c1,c2,c3,c4,c5,c6,c7,c8,c9,c10,c11,c12,c13,c14⟩:=id H1.out.ent
       have q6:=fun d os=>cell_regrown c6 d os
       clear c0 c1 c2 c3 c4 c5 c6 c7 c8 c9 c10 c11 c12 c13 c14
       refine wp_region_quiet_below (by kernel_rfl) (by kernel_rfl) ?_
       repeat (go_big_quiet_step (first|(go_at_call 80;with_reducible exact Calls.regrown_of (CM12.out _))|fail))
       refine wpQuiet_nil ?_
       intro _ hw'
       obtain ⟨⟨dq,osq⟩,hw''⟩:=hw'
       subst hw''
       have H2:=Lib.hid (H1.out.next (below_regrown _ dq osq))
       clear q6
       dsimp only at *
       generalize Sort.grow (redrawn _ dq) osq=xH2 at *
       go_wp2_with fail
       go_meet
       exact ⟨by rw [hbb],H2.out⟩
      ·have hd1:decide (e.sec<0)=false:=decide_eq_false hn
       by_cases hn2:8589934591<e.sec
       ·have hbb:=HB.out.2.1 hn2
        have hd2:decide (8589934591<e.sec)=true:=decide_eq_true hn2
        obtain ⟨c0,c1,c2,c3,c4,c5,c6,c7,c8,c9,c10,c11,c12,c13,c14⟩:=id H1.out.ent
        have q6:=fun d os=>cell_regrown c6 d os
        clear c0 c1 c2 c3 c4 c5 c6 c7 c8 c9 c10 c11 c12 c13 c14
        refine wp_region_quiet_below (by kernel_rfl) (by kernel_rfl) ?_
        repeat (go_big_quiet_step (first|(go_at_call 80;with_reducible exact Calls.regrown_of (CM12.out _))|fail))
        refine wpQuiet_nil ?_
        intro _ hw'
        obtain ⟨⟨dq,osq⟩,hw''⟩:=hw'
        subst hw''
        have H2:=Lib.hid (H1.out.next (below_regrown _ dq osq))
        clear q6
        dsimp only at *
        generalize Sort.grow (redrawn _ dq) osq=xH2 at *
        go_wp2_with fail
        go_meet
        exact ⟨by rw [hbb],H2.out⟩
       ·have hbb:=HB.out.2.2 (by omega) (by omega)
        have hd2:decide (8589934591<e.sec)=false:=decide_eq_false hn2
        obtain ⟨c0,c1,c2,c3,c4,c5,c6,c7,c8,c9,c10,c11,c12,c13,c14⟩:=id H1.out.ent
        have q6:=fun d os=>cell_regrown c6 d os
        clear c0 c1 c2 c3 c4 c5 c6 c7 c8 c9 c10 c11 c12 c13 c14
        refine wp_region_quiet_below (by kernel_rfl) (by kernel_rfl) ?_
        repeat (go_big_quiet_step (first|(go_at_call 80;with_reducible exact Calls.regrown_of (CM12.out _))|fail))
        refine wpQuiet_nil ?_
        intro _ hw'
        obtain ⟨⟨dq,osq⟩,hw''⟩:=hw'
        subst hw''
        have H2:=Lib.hid (H1.out.next (below_regrown _ dq osq))
        clear q6
        dsimp only at *
        generalize Sort.grow (redrawn _ dq) osq=xH2 at *
        go_wp2_with fail
        go_meet
        exact ⟨by rw [hbb],H2.out⟩
     case rest =>
      obtain ⟨rfl,h⟩:=hcut
      clear H1 HB CM12
      have H1:=Lib.hid h
      clear h
      go_upto_region 17 with fail
      go_cut [83] (fun s83 wx=>s83=.bool cb∧PxS w e (.slice ad n cap) B (LA++LG++LL) e.uid gid (PD.length:Int) e.sec wx)
      case first=>as_aux_lemma =>
       obtain ⟨c0,c1,c2,c3,c4,c5,c6,c7,c8,c9,c10,c11,c12,c13,c14⟩:=id H1.out.ent
       cases bb with
       | true =>
        have hc:=HC.out.1 rfl
        go_wp2_with fail
        go_meet
        exact ⟨by rw [hc],H1.out⟩
       | false =>
        by_cases hn:e.nano=0
        ·have hc:=HC.out.2.1 hn rfl
         rw [hn] at c7
         clear hn
         go_wp2_with fail
         go_meet
         exact ⟨by rw [hc],H1.out⟩
        ·have hc:=HC.out.2.2 (by omega)
         have hnb:(e.nano != 0)=true:=by simp [hn]
         go_wp2_with fail
         go_meet
         exact ⟨by rw [hc],H1.out⟩
      case rest =>
       obtain ⟨rfl,h⟩:=hcut
       clear H1 HC
       have H1:=Lib.hid h
       clear h
       go_upto_if 83 with fail
       go_cut [11,12] (fun _ _ wx=>PxS w e (.slice ad n cap) B (LA++LG++LL++LT) e.uid gid (PD.length:Int) e.sec wx)
       case first=>as_aux_lemma =>
        obtain ⟨c0,c1,c2,c3,c4,c5,c6,c7,c8,c9,c10,c11,c12,c13,c14⟩:=id H1.out.ent
        cases cb with
        | true =>
         have HA1:=Lib.hid (HT.out.1 rfl)
         go_wp2_with (first
          |(go_at_call 81;(with_reducible refine (CTx.out _ H1.out.below).mono ?_);rintro r vH3 ⟨rfl,g1⟩;have H3:=Lib.hid (H1.out.next g1);clear g1 c0 c1 c2 c3 c4 c5 c6 c7 c8 c9 c10 c11 c12 c13 c14;obtain ⟨c0,c1,c2,c3,c4,c5,c6,c7,c8,c9,c10,c11,c12,c13,c14⟩:=id H3.out.ent)
          |(go_at_call 76;(with_reducible refine (CT_mtimeK.out TX (LA++LG++LL) _ (by have:=HLn.out;(try simp only [List.length_append,List.length_cons,List.length_nil]);omega) H3.out.recs H3.out.size).mono ?_);rintro r vH4 ⟨rfl,g1,g2,g3⟩;have H4:=Lib.hid (H3.out.told g1 g2 g3);clear g1 g2 g3 c0 c1 c2 c3 c4 c5 c6 c7 c8 c9 c10 c11 c12 c13 c14;obtain ⟨c0,c1,c2,c3,c4,c5,c6,c7,c8,c9,c10,c11,c12,c13,c14⟩:=id H4.out.ent)
          | fail)
         go_meet
         rw [HA1.out]
         exact H4.out
        | false =>
         have hA1:=HT.out.2.1 rfl
         go_wp2_with fail
         go_meet
         rw [hA1,List.append_nil]
         exact H1.out
       case rest =>
        have h:=hcut
        clear H1 CTx CT_mtimeK hcut
        have H1:=Lib.hid h
        clear h
        go_upto_if 96 with fail
        go_cut [10] (fun s10 wx=>PxS w e (.slice ad n cap) B (LA++LG++LL++LT) e.uid gid (PD.length:Int) sec wx)
        case first=>as_aux_lemma =>
         cases bb with
         | true =>
          have hA1:=HT.out.2.2.1 rfl
          have k9:=row_cell H1.out.raw 10 _ rfl
          have f9:=row_free H1.out.raw 10
          go_wp2_with fail
          go_meet
          rw [hA1]
          exact H1.out.store rfl
         | false =>
          have hA1:=HT.out.2.2.2 rfl
          go_wp2_with fail
          go_meet
          rw [hA1]
          exact H1.out
        case rest =>
         have h:=hcut
         clear H1 HT hcut
         have H1:=Lib.hid h
         clear h
         obtain ⟨c0,c1,c2,c3,c4,c5,c6,c7,c8,c9,c10,c11,c12,c13,c14⟩:=id H1.out.ent
         go_upto_if 105 with (first
          |(go_at_call 82;(with_reducible refine (CSp.out _).mono ?_);rintro r vH2 ⟨rfl,g1⟩;have H2:=Lib.hid (H1.out.next g1);clear g1 c0 c1 c2 c3 c4 c5 c6 c7 c8 c9 c10 c11 c12 c13 c14;obtain ⟨c0,c1,c2,c3,c4,c5,c6,c7,c8,c9,c10,c11,c12,c13,c14⟩:=id H2.out.ent)
          | fail)
         go_cut [7] (fun s7 wx=>s7=.string (mkS PN)∧PxS w e (.slice ad n cap) B (LA++LG++LL++LT++LP) e.uid gid (PD.length:Int) sec wx)
         case first=>as_aux_lemma =>
          cases ft with
          | true =>
           obtain ⟨hA1,hA2⟩:=HF.out.1 rfl
           go_wp2_with fail
           go_meet
           exact ⟨by rw [hA2],by rw [hA1,List.append_nil];exact H2.out⟩
          | false =>
           obtain ⟨hA1,hA2⟩:=HF.out.2 rfl
           have HA1:=Lib.hid (And.intro hA1 hA2)
           clear hA1 hA2
           go_wp2_with (first
            |(go_at_call 76;(with_reducible refine (CT_pathK.out SN (LA++LG++LL++LT) _ (by have:=HLn.out;(try simp only [List.length_append,List.length_cons,List.length_nil]);omega) H2.out.recs H2.out.size).mono ?_);rintro r vH4 ⟨rfl,g1,g2,g3⟩;have H4:=Lib.hid (H2.out.told g1 g2 g3);clear g1 g2 g3 c0 c1 c2 c3 c4 c5 c6 c7 c8 c9 c10 c11 c12 c13 c14;obtain ⟨c0,c1,c2,c3,c4,c5,c6,c7,c8,c9,c10,c11,c12,c13,c14⟩:=id H4.out.ent)
            | fail)
           go_meet
           exact ⟨by rw [HA1.out.2];rfl,by rw [HA1.out.1];exact H4.out⟩
         case rest =>
          obtain ⟨rfl,h⟩:=hcut
          clear H1 HF CSp CT_pathK
          have H1:=Lib.hid h
          clear h
          go_upto_region 28 with fail
          obtain ⟨c0,c1,c2,c3,c4,c5,c6,c7,c8,c9,c10,c11,c12,c13,c14⟩:=id H1.out.ent
          have q3:=fun d os=>cell_regrown c3 d os
          clear c0 c1 c2 c3 c4 c5 c6 c7 c8 c9 c10 c11 c12 c13 c14
          refine wp_region_quiet_below (by kernel_rfl) (by kernel_rfl) ?_
          repeat (go_big_quiet_step (first|(go_at_call 80;with_reducible exact Calls.regrown_of (CM8.out _))|fail))
          refine wpQuiet_nil ?_
          intro _ hw'
          obtain ⟨⟨dq,osq⟩,hw''⟩:=hw'
          subst hw''
          have H2:=Lib.hid (H1.out.next (below_regrown _ dq osq))
          clear q3
          dsimp only at *
          generalize Sort.grow (redrawn _ dq) osq=xH2 at *
          go_upto_if 112 with fail
          go_cut [9] (fun s9 wx=>s9=.string (mkS PD)∧PxS w e (.slice ad n cap) B (LA++LG++LL++LT++LP++LU) uid gid (PD.length:Int) sec wx)
          case first=>as_aux_lemma =>
           by_cases hg:2097151<e.uid
           ·obtain ⟨hA1,hA2⟩:=HU.out.1 hg
            have HA1:=Lib.hid (And.intro hA1 hA2)
            clear hA1 hA2
            obtain ⟨c0,c1,c2,c3,c4,c5,c6,c7,c8,c9,c10,c11,c12,c13,c14⟩:=id H2.out.ent
            go_wp2_with (first
             |(go_at_call 77;(with_reducible refine (CIu.out _ H2.out.below).mono ?_);rintro r vH3 ⟨rfl,g1⟩;have H3:=Lib.hid (H2.out.next g1);clear g1 c0 c1 c2 c3 c4 c5 c6 c7 c8 c9 c10 c11 c12 c13 c14;obtain ⟨c0,c1,c2,c3,c4,c5,c6,c7,c8,c9,c10,c11,c12,c13,c14⟩:=id H3.out.ent)
             |(go_at_call 76;(with_reducible refine (CT_uidK.out DU (LA++LG++LL++LT++LP) _ (by have:=HLn.out;(try simp only [List.length_append,List.length_cons,List.length_nil]);omega) H3.out.recs H3.out.size).mono ?_);rintro r vH4 ⟨rfl,g1,g2,g3⟩;have H4:=Lib.hid (H3.out.told g1 g2 g3);clear g1 g2 g3 c0 c1 c2 c3 c4 c5 c6 c7 c8 c9 c10 c11 c12 c13 c14;obtain ⟨c0,c1,c2,c3,c4,c5,c6,c7,c8,c9,c10,c11,c12,c13,c14⟩:=id H4.out.ent;have k9:=row_cell H4.out.raw 7 _ rfl;have f9:=row_free H4.out.raw 7)
             | fail)
            go_meet
            exact ⟨rfl,by rw [HA1.out.1,HA1.out.2];exact H4.out.store rfl⟩
           ·obtain ⟨hA1,hA2⟩:=HU.out.2 (by omega)
            go_wp2_with fail
            go_meet
            exact ⟨rfl,by rw [hA1,hA2,List.append_nil];exact H2.out⟩
          case rest =>
           obtain ⟨rfl,h⟩:=hcut
           clear H1 H2 HU CIu CT_uidK
           have H1:=Lib.hid h
           clear h
           rw [HR.out] at H1
           obtain ⟨ad2,cap2,cr,hP2⟩:=H1.out.recs.slice
           have CWr2:=Lib.hid (CWr.out ad2 cap2 _ H1.out.below hP2)
           clear hP2 CWr HR
           go_wp2_with (first
            |(go_at_call 83;(with_reducible refine CWr2.out.mono ?_);rintro r y2 ⟨rfl,g1⟩;have H2:=Lib.hid (H1.out.next g1);clear g1;have r0:=row_cell H2.out.raw 0 (.string (mkS [])) rfl;have r1:=row_cell H2.out.raw 1 (.string (mkS [])) rfl;have r2:=row_cell H2.out.raw 2 (.string (mkS e.user)) rfl;have r3:=row_cell H2.out.raw 3 (.string (mkS e.group)) rfl;have r4:=row_cell H2.out.raw 4 (.string (mkS [])) rfl;have r5:=row_cell H2.out.raw 5 (.int .u8 (e.kind.toNat:Int)) rfl;have r6:=row_cell H2.out.raw 6 (.int .i64 e.mode) rfl;have r7:=row_cell H2.out.raw 7 (.int .i64 uid) rfl;have r8:=row_cell H2.out.raw 8 (.int .i64 gid) rfl;have r9:=row_cell H2.out.raw 9 (.int .i64 (PD.length:Int)) rfl;have r10:=row_cell H2.out.raw 10 (.int .i64 sec) rfl;have r11:=row_cell H2.out.raw 11 (.int .i64 e.major) rfl;have r12:=row_cell H2.out.raw 12 (.int .i64 e.minor) rfl)
            |(go_at_call 71;(with_reducible refine (CW2.out _).mono ?_);rintro r y3 ⟨rfl,g1⟩;have H3:=Lib.hid (H2.out.next g1).below;clear g1)
            | fail)
           go_ret2
           exact ⟨rfl,H3.out⟩
end Go.Proofs.YtdjcjaidklgamaaGreatDoor
end
set_option linter.unusedSimpArgs false
set_option linter.unusedVariables false
section
namespace Go.Proofs.YtdjcjaidklgamaaGreatDoor
open Go.RowKit Go.Joins
set_option linter.unusedVariables false
set_option linter.unusedSimpArgs false
structure Small (e:EntL):Prop where
 texts:e.name.length+e.link.length+e.user.length+e.group.length≤700
 data:e.data.length≤900
 map:e.map.length≤30
set_option maxHeartbeats 4000000 in
theorem large_keep (e:EntL) (ho:EntOk e) (ad:Option Addr) (cap:Nat) :
  ∃ b:Bool,(b=false→Small e)∧∀ w,Calls Tryz.prog 18 #[entV e (.slice ad e.map.length cap)] w fun r w'=>r=.returned (.bool b)∧Below w.heap.size w w':=by
 obtain ⟨z0,z1,z2,z3,z4⟩:=ho.texts
 have zm:=ho.map
 have hr:=reachBytes_lt
 have s0:=mkS_size e.name
 have s1:=mkS_size e.link
 have s2:=mkS_size e.user
 have s3:=mkS_size e.group
 have s4:=mkS_size e.data
 unfold maxLen at zm
 clear ho
 have key:∀ b:Bool,(b=false→Small e)→(∀ w,Calls Tryz.prog 18 #[entV e (.slice ad e.map.length cap)] w fun r w'=>r=.returned (.bool b)∧Below w.heap.size w w')→∃ b:Bool,(b=false→Small e)∧∀ w,Calls Tryz.prog 18 #[entV e (.slice ad e.map.length cap)] w fun r w'=>r=.returned (.bool b)∧Below w.heap.size w w':=fun b h1 h2=>⟨b,h1,h2⟩
 have i0:(e.name.length:Int)≤200000000000000:=by omega
 have i1:(e.link.length:Int)≤200000000000000:=by omega
 have i2:(e.user.length:Int)≤200000000000000:=by omega
 have i3:(e.group.length:Int)≤200000000000000:=by omega
 have i4:(e.data.length:Int)≤200000000000000:=by omega
 by_cases h1:(700:Int)<(e.name.length:Int)+e.link.length+e.user.length+e.group.length
 ·refine key true (fun h=>by cases h) fun w=>?_
  clear key
  unfold entV
  go_enter Tryz.func18,Tryz.ntmps18
  go_wp2
  go_ret
  exact ⟨rfl,below_alloc1 _ _⟩
 by_cases h2:(900:Int)<(e.data.length:Int)
 ·refine key true (fun h=>by cases h) fun w=>?_
  clear key
  unfold entV
  go_enter Tryz.func18,Tryz.ntmps18
  go_wp2
  go_ret
  exact ⟨rfl,below_alloc1 _ _⟩
 ·refine key (decide (30<e.map.length)) (fun h=>⟨by omega,by omega,by simpa using h⟩) fun w=>?_
  clear key
  unfold entV
  generalize e.map.length=n at *
  go_enter Tryz.func18,Tryz.ntmps18
  go_wp2
  go_ret
  exact ⟨by first|rfl|(simp;omega),below_alloc1 _ _⟩
theorem powLaid_of {W : World} (h : Lib.VarReads Tryz.prog W "internal/strconv.uint64pow10" (Lib.tabData .u64 Lib.pow10Tab)) : Px.PowLaid W := Px.powLaid_of h
theorem Small.held {e:EntL} (h:Small e) (ho:EntOk e):Held e:=by
 have h1:=h.texts
 have h2:=h.data
 exact ⟨ho.ints,by omega,by omega,by omega,by omega,by omega⟩
theorem paxData_le {e:EntL} (hr:rightE e=true) (hdl:e.data.length≤5000):(paxData e).length≤7000:=by
 unfold paxData
 cases hsp:sparseE e with
 | true =>
  have hk48:e.kind=48:=by
   by_cases hh:e.kind=48
   ·exact hh
   ·have:=(right_other hr hh).2.2.2;rw [hsp] at this;cases this
  obtain ⟨⟨z1,z2⟩,hmr⟩:=right_file hr hk48
  obtain ⟨hm1,hm2⟩:=mapRight_parts (by omega) (hmr hsp).1
  have h1:=fillL_le (linesL e.map)
  have h2:=linesT_len (l:=e.map) (fun p hp=>by have:=hm2 p hp;omega) (by omega) e.map.length
  rw [linesT_all] at h2
  rw [if_pos rfl,List.length_append]
  omega
 | false =>
  rw [if_neg (by simp)]
  omega
theorem pax_parts {e:EntL} (hr:rightE e=true) (hdl:e.data.length≤5000):∃ X,paxX e=(X,0)∧paxF e=(extF (recsE e)++X,0):=by
 have h:=room_pax hr (by have:=paxData_le hr hdl;omega)
 unfold paxF at h ⊢
 by_cases h1:(paxX e).2≠0
 ·rw [if_pos h1] at h
  exact absurd h (by decide)
 ·refine ⟨(paxX e).1,Prod.ext rfl (Classical.not_not.1 h1),?_⟩
  rw [if_neg h1]
theorem write_3 (e:EntL) (ad:Option Addr) (cap:Nat) (ho:EntOk e) (hs:Small e) (hc:e.map.length≤cap) (w:World) (hM:PiecesAt w ad e.map) :
  Calls Tryz.prog 20 #[.int .i64 3,entV e (.slice ad e.map.length cap)] w fun r w'=>r=.returned (.tuple #[.string (mkS (eWriteF 3 e).1),errV (eWriteF 3 e).2])∧Below w.heap.size w w':=by
 have hd:=hs.data
 cases hr:rightE e with
 | true =>
  have h:eWriteF 3 e=gnuF e:=by unfold eWriteF;rw [if_neg (by rw [hr];simp),if_pos rfl]
  rw [h]
  exact mw_gnu e ad cap ho hr w (gnuF e) hM fun W hb=>writeGnu_any e hr ad cap (hs.held ho) (by omega) hc W (hM.below hb)
 | false =>
  have h:eWriteF 3 e=([],1):=by unfold eWriteF;rw [if_pos (.inr (.inr hr))]
  rw [h]
  exact mw_arg 3 e ad cap ho (.inr (.inr hr)) w hM
theorem write_4 (e:EntL) (ad:Option Addr) (cap:Nat) (ho:EntOk e) (hs:Small e) (hc:e.map.length≤cap) (w:World) (hp:Px.PowLaid w) (hM:PiecesAt w ad e.map) :
  Calls Tryz.prog 20 #[.int .i64 4,entV e (.slice ad e.map.length cap)] w fun r w'=>r=.returned (.tuple #[.string (mkS (eWriteF 4 e).1),errV (eWriteF 4 e).2])∧Below w.heap.size w w':=by
 have hd:=hs.data
 cases hr:rightE e with
 | true =>
  obtain ⟨X,hX,hF⟩:=pax_parts hr (by omega)
  have h:eWriteF 4 e=(extF (recsE e)++X,0):=by unfold eWriteF;rw [if_neg (by rw [hr];simp),if_neg (by decide),if_pos rfl,hF]
  rw [h]
  exact mw_pax e ad cap ho hr w (extF (recsE e)++X,0) hM fun W hb=>writePax_room e hr ad cap (hs.held ho) (by omega) hc W (hp.below hb) (hM.below hb) X hX
 | false =>
  have h:eWriteF 4 e=([],1):=by unfold eWriteF;rw [if_pos (.inr (.inr hr))]
  rw [h]
  exact mw_arg 4 e ad cap ho (.inr (.inr hr)) w hM
theorem write_12 (d:Nat) (hd:d=1∨d=2) (e:EntL) (ad:Option Addr) (cap:Nat) (ho:EntOk e) (hs:Small e) (w:World) (hM:PiecesAt w ad e.map) :
  Calls Tryz.prog 20 #[.int .i64 (d:Int),entV e (.slice ad e.map.length cap)] w fun r w'=>r=.returned (.tuple #[.string (mkS (eWriteF d e).1),errV (eWriteF d e).2])∧Below w.heap.size w w':=by
 cases hr:rightE e with
 | true =>
  have h:eWriteF d e=oldF d e:=by unfold eWriteF;rw [if_neg (by rw [hr];rintro (h|h|h);omega;omega;cases h),if_neg (by omega),if_neg (by omega),Int.toNat_natCast]
  rw [h]
  exact mw_old (d:Int) (by omega) e ad cap ho hr w (oldF d e) hM fun W hb=>writeOld_any d hd e (kind_nz hr) ad cap (hs.held ho) W
 | false =>
  have h:eWriteF d e=([],1):=by unfold eWriteF;rw [if_pos (.inr (.inr hr))]
  rw [h]
  exact mw_arg (d:Int) e ad cap ho (.inr (.inr hr)) w hM
theorem memWrite_all (d:Int) (e:EntL) (ad:Option Addr) (cap:Nat) (ho:EntOk e) (hs:Small e) (hc:e.map.length≤cap) (w:World) (hp:Px.PowLaid w) (hM:PiecesAt w ad e.map) :
  Calls Tryz.prog 20 #[.int .i64 d,entV e (.slice ad e.map.length cap)] w fun r w'=>r=.returned (.tuple #[.string (mkS (eWriteF d e).1),errV (eWriteF d e).2])∧Below w.heap.size w w':=by
 by_cases h:d<1∨4<d
 ·have h2:eWriteF d e=([],1):=by unfold eWriteF;rw [if_pos (h.imp id .inl)]
  rw [h2]
  exact mw_arg d e ad cap ho (h.imp id .inl) w hM
 ·obtain rfl|rfl|rfl|rfl:d=1∨d=2∨d=3∨d=4:=by omega
  ·exact write_12 1 (.inl rfl) e ad cap ho hs w hM
  ·exact write_12 2 (.inr rfl) e ad cap ho hs w hM
  ·exact write_3 e ad cap ho hs hc w hM
  ·exact write_4 e ad cap ho hs hc w hp hM
end Go.Proofs.YtdjcjaidklgamaaGreatDoor
end
