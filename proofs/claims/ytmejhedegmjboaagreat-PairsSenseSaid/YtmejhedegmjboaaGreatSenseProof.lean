/- PairsSense is true: the scheme of the terms and bounds that are told says the same, by no more variables. Condition: none but those of the statement. -/
import Derived.Test.YtmejhedegmjboaaGreatRows
import Derived.Test.YtmejhedegmjboaaGreatPaF
import Derived.Test.YtmejhedegmjboaaGreatPaLv
import Derived.Test.YtmejhedegmjboaaGreatPaQ
namespace Go.Proofs.YtmejhedegmjboaaGreat.pairsSense
open Go.ChangeShapes Go.WideShapes Go.ChangeAt Go.RowKit
theorem box5 {w:World}{g:Nat}{t:TypeId}{b0 b1 b2 b3 b4:Value}(h:w.heap[g]?=some (.cells #[b0,b1,b2,b3,b4] t (0,0)))(a0 a1 a2 a3 a4:Value):
  (((((w.setCell ⟨g,0,none⟩ a0).setCell ⟨g,1,none⟩ a1).setCell ⟨g,2,none⟩ a2).setCell ⟨g,3,none⟩ a3).setCell ⟨g,4,none⟩ a4).heap[g]?=some (.cells #[a0,a1,a2,a3,a4] t (0,0)):=by
 have:=set_blk (i:=4) (set_blk (i:=3) (set_blk (i:=2) (set_blk (i:=1) (set_blk (i:=0) h a0) a1) a2) a3) a4
 rw[this]
 simp
theorem off5 (w:World)(g:Nat)(a0 a1 a2 a3 a4:Value): ∀q,q≠g→(((((w.setCell ⟨g,0,none⟩ a0).setCell ⟨g,1,none⟩ a1).setCell ⟨g,2,none⟩ a2).setCell ⟨g,3,none⟩ a3).setCell ⟨g,4,none⟩ a4).heap[q]?=w.heap[q]?:=by
 intro q hq
 have off:=fun (W:World) (k:Nat) (u:Value)=>Below.heap_setCell W ⟨g,k,none⟩ u q hq
 rw[off,off,off,off,off]
theorem bel5 {B:Nat}{w0 w:World}{g:Nat}(h:Below B w0 w)(hg:B≤g)(a0 a1 a2 a3 a4:Value):
  Below B w0 (((((w.setCell ⟨g,0,none⟩ a0).setCell ⟨g,1,none⟩ a1).setCell ⟨g,2,none⟩ a2).setCell ⟨g,3,none⟩ a3).setCell ⟨g,4,none⟩ a4):=
 below_set (below_set (below_set (below_set (below_set h hg _) hg _) hg _) hg _) hg _
def NoBool (cs:Array Value):Prop:= ∀(i:Nat) (b:Bool),cs[i]?≠some (.bool b)
theorem no5 {k1 k2:Int}{X Y Z:Option Addr}{a b c d e f:Nat}:NoBool #[.int .i64 k1,.int .i64 k2,.slice X a b,.slice Y c d,.slice Z e f]:=by
 intro i q h
 match i,h with
 |0,h=>cases h
 |1,h=>cases h
 |2,h=>cases h
 |3,h=>cases h
 |4,h=>cases h
 |k+5,h=>simp at h
def FirstBool {α:Type}(enc:α→List Value):Prop:= ∀x,∃b,(enc x)[0]?=some (.bool b)
theorem bdc_first:FirstBool Bo.bdc:=fun x=>⟨x.av,rfl⟩
theorem rs_off {α:Type}{enc:α→List Value}{sz:Nat}{w w':World}{A:Option Addr}{n c g:Nat}{l:List α}{cs:Array Value}{t:TypeId}(he:FirstBool enc)(h:Rs enc sz w w.heap.size A n c l)(hg:w.heap[g]?=some (.cells cs t (0,0)))(hno:NoBool cs)
  (hk: ∀q,q≠g→w'.heap[q]?=w.heap[q]?) (hs:w.heap.size≤w'.heap.size):Rs enc sz w' w'.heap.size A n c l:=by
 refine⟨h.len,h.cap,h.top,h.none0,fun h0=> ?_⟩
 obtain⟨b,o,e,hb,hc⟩:=h.spot h0
 have h1:0 < l.length:=by rw[h.len];exact h0
 obtain⟨x,hx⟩:=he l[0]
 have hf:=hc 0 h1 0 _ hx
 have n1:b≠g:=by
  rintro rfl
  rw[cell_blk hg] at hf
  exact hno _ _ hf
 exact⟨b,o,e,Nat.lt_of_lt_of_le hb hs,fun j hj i u hu=>(World.cell?_of_block (hk b n1)).trans (hc j hj i u hu)⟩
set_option maxRecDepth 100000 in
set_option maxHeartbeats 16000000 in
theorem walk (s:Sch)(A:Option Addr)(n c:Nat)(A1:Option Addr)(n1 c1:Nat)(A2:Option Addr)(n2 c2:Nat)(A3:Option Addr)(n3 c3:Nat)(k:Int)(rows:List Nat)(w:World)(h:SchAt w s A n c A1 n1 c1 A2 n2 c2)(hr:Rd La.nm w w.heap.size A3 n3 c3 rows)(hrf:La.Fit rows):
  Calls Tryz.prog 4 #[zV A3 n3 c3 k,schV s A n c A1 n1 c1 A2 n2 c2] w fun e w'=>e= .returned (.bool true)∧Below w.heap.size w w':=by
 have HSA:Hid (∀W,Below w.heap.size w W→SchAt W s A n c A1 n1 c1 A2 n2 c2):=Lib.hid fun W hW=>h.keep hW
 have HR:Hid (∀W,Below w.heap.size w W→Rd La.nm W W.heap.size A3 n3 c3 rows):=Lib.hid fun W hW=>hr.at_size (Nat.le_refl _) hW
 have HRF:=Lib.hid hrf
 have hlen1:=h.l.len
 have HGC:Hid (∀W:World,Calls Tryz.prog 17 #[schV s A n c A1 n1 c1 A2 n2 c2] W fun e w'=>TellsB e (fun r=>r=false→n≤60∧(n1+n2≤9223372036854775807→n1+n2≤80))∧Below W.heap.size W w'):=Lib.hid fun W=>great_any s A n c A1 n1 c1 A2 n2 c2 W (by have:=h.l.cap;have:=h.l.top;unfold maxLen at this;omega) (by have:=h.e.cap;have:=h.e.top;unfold maxLen at this;omega)
 have HPC:Hid (∀W,Below w.heap.size w W→Calls Tryz.prog 10 #[zV A3 n3 c3 k] W fun e w'=> ∃a b,e= .returned (.tuple #[.iface 74 (.pointer a),.iface 77 (.pointer b)])∧Both w' a b (laOf rows) (efOf k)∧Below W.heap.size W w'):=Lib.hid fun W hW=>of_sorts A3 n3 c3 k rows W (HR.out W hW) hrf
 have HOC:Hid (∀(a b:Option Addr) (W:World),Below w.heap.size w W→Both W a b (laOf rows) (efOf k)→Calls Tryz.prog 18 #[schV s A n c A1 n1 c1 A2 n2 c2,.iface 74 (.pointer a),.iface 77 (.pointer b)] W fun e w'=> ∃x p q,e= .returned (.tuple #[Q4.v p,Q4.v q,.int .i64 x])∧OfIs (laOf rows) (efOf k) s w' x p q∧Below W.heap.size W w'):=Lib.hid fun a b W hW hbo=>senOf_any s A n c A1 n1 c1 A2 n2 c2 a b _ _ W (HSA.out W hW) hbo (laOf_ok _) (efOf_ok _)
 clear hlen1
 obtain⟨x,hx⟩: ∃x,w.alloc (.cells #[.slice A3 n3 c3,.int .i64 k] 24)=x:=⟨_,rfl⟩
 obtain⟨y,hy⟩: ∃y,x.alloc (.cells #[.int .i64 s.lv,.int .i64 s.ev,.slice A n c,.slice A1 n1 c1,.slice A2 n2 c2] 49)=y:=⟨_,rfl⟩
 have b0:Below w.heap.size w x:=hx▸(Below.refl _ _).alloc (Nat.le_refl _) _
 have sx:x.heap.size=w.heap.size+1:=by rw[← hx,World.size_alloc]
 have b1:Below x.heap.size x y:=hy▸(Below.refl _ _).alloc (Nat.le_refl _) _
 have k0:y.heap[w.heap.size]?=some (.cells #[.slice A3 n3 c3,.int .i64 k] 24 (0,0)):=(b1.block _ (by rw[sx];omega)).trans (hx▸heap_alloc_new w _)
 have hbx:Box y (w.heap.size+1) s.lv s.ev A n c A1 n1 c1 A2 n2 c2:=by rw[← sx, ← hy];exact Box.new x s.lv s.ev A n c A1 n1 c1 A2 n2 c2
 have hb:Below w.heap.size w y:=b0.trans (b1.mono b0.size)
 have s0:=(cell_blk (i:=0) k0).trans rfl
 have s1:=(cell_blk (i:=1) k0).trans rfl
 have HB:=Lib.hid hb
 have HBX:=Lib.hid hbx
 have HS0:=Lib.hid s0
 have HS1:=Lib.hid s1
 have z0:=hbx.z0
 have z1:=hbx.z1
 have z2:=hbx.z2
 have z3:=hbx.z3
 have z4:=hbx.z4
 clear b0 b1 sx k0 hb hbx h hr hrf s1
 subst hx
 unfold schV at HGC HOC ⊢
 unfold zV at HPC ⊢
 go_enter Tryz.func4,Tryz.ntmps4
 go_wp2_with fail
 clear hy
 refine(HGC.out _).mono ?_
 rintro e w1 ⟨⟨gr,rfl,hgr⟩,hv⟩
 have HGR:=Lib.hid hgr
 have HV1:=Lib.hid hv
 replace s0:=cell_old s0 hv
 clear hv hgr z0 z1 z2 z3 z4 HGC
 cases gr with
 |true=>
  have HBZ:=Lib.hid (HB.out.trans (HV1.out.mono HB.out.size))
  go_wp2_with fail
  refine(lives_any _).mono ?_
  rintro e wz ⟨rfl,hv⟩
  have HZ:=Lib.hid (HBZ.out.trans (hv.mono HBZ.out.size))
  clear hv
  go_wp2_with fail
  go_ret
  exact⟨rfl,HZ.out⟩
 |false=>
 by_cases hbig:100 < n3
 ·have hbig':(100:Int) < (n3:Int):=by omega
  have HBZ:=Lib.hid (HB.out.trans (HV1.out.mono HB.out.size))
  clear hbig
  go_wp2_with fail
  refine(lives_any _).mono ?_
  rintro e wz ⟨rfl,hv⟩
  have HZ:=Lib.hid (HBZ.out.trans (hv.mono HBZ.out.size))
  clear hv
  go_wp2_with fail
  go_ret
  exact⟨rfl,HZ.out⟩
 have hbig': ¬(100:Int) < (n3:Int):=by omega
 have s1:=cell_old HS1.out HV1.out
 have hcp:=HPC.out w1 (HB.out.trans (HV1.out.mono HB.out.size))
 have HCP:=Lib.hid hcp
 clear hcp hbig HPC
 go_wp2_with fail
 refine HCP.out.mono ?_
 rintro e w2 ⟨a,b,rfl,hbo,hv⟩
 have HV2:=Lib.hid (HV1.out.trans (hv.mono HV1.out.size))
 have HBO2:=Lib.hid hbo
 have hbx:=HBX.out.keep HV2.out
 have z0:=hbx.z0
 have z1:=hbx.z1
 have z2:=hbx.z2
 have z3:=hbx.z3
 have z4:=hbx.z4
 have hco:=HOC.out a b w2 (HB.out.trans (HV2.out.mono HB.out.size)) hbo
 have HCO:=Lib.hid hco
 clear hv hbo hbx hco hbig' s0 s1 HCP HOC HV1
 go_wp2_with fail
 refine HCO.out.mono ?_
 rintro e w3 ⟨er,p,q,rfl,hof,hv⟩
 have HV3:=Lib.hid (HV2.out.trans (hv.mono HV2.out.size))
 have HBO3:=Lib.hid (HBO2.out.keep hv)
 clear hv z0 z1 z2 z3 z4 HCO HBO2 HV2
 obtain⟨B1,m1,d1,B2,m2,d2,B3,m3,d3,B4,m4,d4⟩:=p
 obtain⟨C1,k1,f1,C2,k2,f2,C3,k3,f3,C4,k4,f4⟩:=q
 simp only[Q4.v,senV]
 have h8:=B8.new w3 B1 m1 d1 B2 m2 d2 B3 m3 d3 B4 m4 d4 C1 k1 f1 C2 k2 f2 C3 k3 f3 C4 k4 f4
 have hal:=two_below w3 (.cells #[.slice B1 m1 d1,.slice B2 m2 d2,.slice B3 m3 d3,.slice B4 m4 d4] 28) (.cells #[.slice C1 k1 f1,.slice C2 k2 f2,.slice C3 k3 f3,.slice C4 k4 f4] 28)
 obtain⟨wa,hwa⟩: ∃wa,(w3.alloc (.cells #[.slice B1 m1 d1,.slice B2 m2 d2,.slice B3 m3 d3,.slice B4 m4 d4] 28)).alloc (.cells #[.slice C1 k1 f1,.slice C2 k2 f2,.slice C3 k3 f3,.slice C4 k4 f4] 28)=wa:=⟨_,rfl⟩
 rw[hwa] at h8 hal
 have HVA:=Lib.hid (HV3.out.trans (hal.mono HV3.out.size))
 have HBA:=Lib.hid (HB.out.trans (HVA.out.mono HB.out.size))
 have HBOA:=Lib.hid (HBO3.out.keep hal)
 have H8:=Lib.hid h8
 rcases hof with⟨hne0,-,-,-⟩|⟨rfl,ql,qe,lo,hi,lo',hi',hok,hp,hq⟩
 ·have hne:(er !=0)=true:=by simpa using hne0
  clear hne0 h8 hal
  go_wp2_with fail
  clear hwa
  refine(lives_any _).mono ?_
  rintro e wz ⟨rfl,hv⟩
  have HZ:=Lib.hid (HBA.out.trans (hv.mono HBA.out.size))
  clear hv
  go_wp2_with fail
  go_ret
  exact⟨rfl,HZ.out⟩
 have HOK:=Lib.hid hok
 replace hp:SenAt w3 (senS (laOf rows) lo hi (rcB ql s.l) (labB s.b)) B1 m1 d1 B2 m2 d2 B3 m3 d3 B4 m4 d4:=hp
 replace hq:SenAt w3 (senS (efOf k) lo' hi' (rcB qe s.e) (effB s.b)) C1 k1 f1 C2 k2 f2 C3 k3 f3 C4 k4 f4:=hq
 have HP:=Lib.hid (hp.keep hal)
 have HQ:=Lib.hid (hq.keep hal)
 obtain⟨k1',k2',k3',k4',k5'⟩:=Sch.check_is.1 HOK.out.chk
 rw[HOK.out.lv] at k4'
 rw[HOK.out.ev] at k5'
 have HCK:=Lib.hid k1'
 have HLV:Hid (((I.trmN (laOf rows) (zS (laOf rows) ql s.l lo hi (labB s.b)):Nat):Int)≤s.lv):=Lib.hid (by rw[HOK.out.lv];exact Int.ofNat_le.2 (sen_few HOK.out.gl (labB_le s.b) k4'))
 have HEV:Hid (((I.trmN (efOf k) (zS (efOf k) qe s.e lo' hi' (effB s.b)):Nat):Int)≤s.ev):=Lib.hid (by rw[HOK.out.ev];exact Int.ofNat_le.2 (sen_few HOK.out.ge (effB_le s.b) k5'))
 have HU1:Hid (∀t∈I.trmL (laOf rows) (zS (laOf rows) ql s.l lo hi (labB s.b)),U64 t.2):=Lib.hid (u64_tr HOK.out.gl (labB_le s.b) k4')
 have HU2:Hid (∀t∈I.trmL (efOf k) (zS (efOf k) qe s.e lo' hi' (effB s.b)),U64 t.2):=Lib.hid (u64_tr HOK.out.ge (effB_le s.b) k5')
 have HT1:Hid ((I.trmL (laOf rows) (zS (laOf rows) ql s.l lo hi (labB s.b))).length=(labB s.b).length):=Lib.hid (trmL_len (labB_le s.b))
 have HT2:Hid ((I.trmL (efOf k) (zS (efOf k) qe s.e lo' hi' (effB s.b))).length=(effB s.b).length):=Lib.hid (trmL_len (effB_le s.b))
 have HF1:Hid (∀x∈I.bds (laOf rows) (zS (laOf rows) ql s.l lo hi (labB s.b)),x.Fit):=Lib.hid (bds_fit HOK.out.gl (labB_le s.b) k4')
 have HF2:Hid (∀x∈I.bds (efOf k) (zS (efOf k) qe s.e lo' hi' (effB s.b)),x.Fit):=Lib.hid (bds_fit HOK.out.ge (effB_le s.b) k5')
 have HPR:Hid (∀(W:World) (x:Int) (p q:Q4),(I.bds (laOf rows) (zS (laOf rows) ql s.l lo hi (labB s.b))).length≤256→(I.bds (efOf k) (zS (efOf k) qe s.e lo' hi' (effB s.b))).length≤256→OfIs (laOf rows) (efOf k) ⟨(I.trmN (laOf rows) (zS (laOf rows) ql s.l lo hi (labB s.b)):Nat),(I.trmN (efOf k) (zS (efOf k) qe s.e lo' hi' (effB s.b)):Nat),putB s.b (I.trmL (laOf rows) (zS (laOf rows) ql s.l lo hi (labB s.b))) (I.trmL (efOf k) (zS (efOf k) qe s.e lo' hi' (effB s.b))),I.bds (laOf rows) (zS (laOf rows) ql s.l lo hi (labB s.b)),I.bds (efOf k) (zS (efOf k) qe s.e lo' hi' (effB s.b))⟩ W x p q→
   x=0∧ ∃z z':Sen,SenIn W z p∧SenIn W z' q∧(z.lo=(senS (laOf rows) lo hi (rcB ql s.l) (labB s.b)).lo∧z.hi=(senS (laOf rows) lo hi (rcB ql s.l) (labB s.b)).hi∧z.be=(senS (laOf rows) lo hi (rcB ql s.l) (labB s.b)).be)∧
   (z'.lo=(senS (efOf k) lo' hi' (rcB qe s.e) (effB s.b)).lo∧z'.hi=(senS (efOf k) lo' hi' (rcB qe s.e) (effB s.b)).hi∧z'.be=(senS (efOf k) lo' hi' (rcB qe s.e) (effB s.b)).be)):=Lib.hid fun W x p q b1 b2 h=>pr_of HOK.out b1 b2 h
 have hl1:m1≤300:=by rw[← HP.out.rp.len];exact Nat.le_trans (labB_len s.b) (by decide)
 have hl2:k1≤300:=by rw[← HQ.out.rp.len];exact Nat.le_trans (effB_len s.b) (by decide)
 have HL1:=Lib.hid hl1
 have HL2:=Lib.hid hl2
 have HI1:Hid (I.SenAt wa (zS (laOf rows) ql s.l lo hi (labB s.b)) B1 m1 d1 B2 m2 d2 B3 m3 d3 B4 m4 d4):=Lib.hid HP.out.toI
 have HI2:Hid (I.SenAt wa (zS (efOf k) qe s.e lo' hi' (effB s.b)) C1 k1 f1 C2 k2 f2 C3 k3 f3 C4 k4 f4):=Lib.hid HQ.out.toI
 have HSO:=Lib.hid (laOf_ok rows)
 have HXO:=Lib.hid (efOf_ok k)
 clear hp hq hal hok hl1 hl2 k1' k2' k3' k4' k5' HOK
 generalize (zS (laOf rows) ql s.l lo hi (labB s.b))=zl at*
 generalize (zS (efOf k) qe s.e lo' hi' (effB s.b))=ze at*
 generalize senS (laOf rows) lo hi (rcB ql s.l) (labB s.b)=sl at*
 generalize senS (efOf k) lo' hi' (rcB qe s.e) (effB s.b)=se at*
 generalize laOf rows=S at*
 generalize efOf k=X at*
 have hbd1:I.bdsAns S zl (I.trmL S zl) (I.trmN S zl:Int)=I.bds S zl:=by unfold I.bdsAns;rw[if_pos ⟨rfl,rfl⟩]
 have hbd2:I.bdsAns X ze (I.trmL X ze) (I.trmN X ze:Int)=I.bds X ze:=by unfold I.bdsAns;rw[if_pos ⟨rfl,rfl⟩]
 have HOF1:Hid (∀W,Below wa.heap.size wa W→Calls Tryz.prog 19 #[.iface 74 (.pointer a),senV B1 m1 d1 B2 m2 d2 B3 m3 d3 B4 m4 d4] W fun e w'=> ∃A N c,e= .returned (.tuple #[.slice A N c,.int .i64 (I.trmN S zl:Int)])∧w'.ownsRow W.heap.size 62 2 (.slice A N c) N ((I.trmL S zl).flatMap tmc)∧Below W.heap.size W w'):=Lib.hid fun W hW=>I.pairsOf_any _ S zl B1 m1 d1 B2 m2 d2 B3 m3 d3 B4 m4 d4 W (HBOA.out.keep hW).sl.into (HI1.out.keep hW) (by have:=HL1.out;omega)
 have HOF2:Hid (∀W,Below wa.heap.size wa W→Calls Tryz.prog 19 #[.iface 77 (.pointer b),senV C1 k1 f1 C2 k2 f2 C3 k3 f3 C4 k4 f4] W fun e w'=> ∃A N c,e= .returned (.tuple #[.slice A N c,.int .i64 (I.trmN X ze:Int)])∧w'.ownsRow W.heap.size 62 2 (.slice A N c) N ((I.trmL X ze).flatMap tmc)∧Below W.heap.size W w'):=Lib.hid fun W hW=>I.pairsOf_any _ X ze C1 k1 f1 C2 k2 f2 C3 k3 f3 C4 k4 f4 W (HBOA.out.keep hW).sx.into (HI2.out.keep hW) (by have:=HL2.out;omega)
 have HBD1:Hid (∀(A:Option Addr) (N c:Nat) (W:World),Below wa.heap.size wa W→Rs tmc 2 W W.heap.size A N c (I.trmL S zl)→Calls Tryz.prog 14 #[.iface 74 (.pointer a),senV B1 m1 d1 B2 m2 d2 B3 m3 d3 B4 m4 d4,.slice A N c,.int .i64 (I.trmN S zl:Int)] W fun e w'=> ∃A' N' c',e= .returned (.slice A' N' c')∧w'.ownsRow W.heap.size 69 4 (.slice A' N' c') N' ((I.bds S zl).flatMap Bo.bdc)∧Below W.heap.size W w'):=Lib.hid fun A N c W hW hrs=>by
  have h:=I.pairsBounds_any (.iface 74 (.pointer a)) S HSO.out zl B1 m1 d1 B2 m2 d2 B3 m3 d3 B4 m4 d4 A N c _ (I.trmN S zl:Int) W (HBOA.out.keep hW).sl.into (HI1.out.keep hW) HL1.out hrs
  rwa [hbd1] at h
 have HBD2:Hid (∀(A:Option Addr) (N c:Nat) (W:World),Below wa.heap.size wa W→Rs tmc 2 W W.heap.size A N c (I.trmL X ze)→Calls Tryz.prog 14 #[.iface 77 (.pointer b),senV C1 k1 f1 C2 k2 f2 C3 k3 f3 C4 k4 f4,.slice A N c,.int .i64 (I.trmN X ze:Int)] W fun e w'=> ∃A' N' c',e= .returned (.slice A' N' c')∧w'.ownsRow W.heap.size 69 4 (.slice A' N' c') N' ((I.bds X ze).flatMap Bo.bdc)∧Below W.heap.size W w'):=Lib.hid fun A N c W hW hrs=>by
  have h:=I.pairsBounds_any (.iface 77 (.pointer b)) X HXO.out ze C1 k1 f1 C2 k2 f2 C3 k3 f3 C4 k4 f4 A N c _ (I.trmN X ze:Int) W (HBOA.out.keep hW).sx.into (HI2.out.keep hW) HL2.out hrs
  rwa [hbd2] at h
 clear hbd1 hbd2 HI1 HI2 HL1 HL2
 generalize I.trmL S zl=tl1 at*
 generalize I.trmN S zl=nl1 at*
 generalize I.bds S zl=bl1 at*
 generalize I.trmL X ze=tl2 at*
 generalize I.trmN X ze=nl2 at*
 generalize I.bds X ze=bl2 at*
 have HKP:Hid (∀W,Below wa.heap.size wa W→KpR W w3.heap.size (w.heap.size+1) B1 m1 d1 B2 m2 d2 B3 m3 d3 B4 m4 d4 C1 k1 f1 C2 k2 f2 C3 k3 f3 C4 k4 f4 A n c):=Lib.hid fun W hW=>by
  have h:=H8.out.keep hW
  exact⟨h.p0,h.p1,h.p2,h.p3,h.q0,h.q1,h.q2,h.q3,(HBX.out.keep (HVA.out.trans (hW.mono HVA.out.size))).z2⟩
 have HBXA:Hid (∀W,Below wa.heap.size wa W→Box W (w.heap.size+1) s.lv s.ev A n c A1 n1 c1 A2 n2 c2):=Lib.hid fun W hW=>HBX.out.keep (HVA.out.trans (hW.mono HVA.out.size))
 have t0:=h8.p0
 have t1:=h8.p1
 have t2:=h8.p2
 have t3:=h8.p3
 clear h8
 unfold senV at HOF1 HOF2 HBD1 HBD2
 go_wp2_with fail
 clear hwa
 refine(HOF1.out wa (Below.refl _ _)).mono ?_
 rintro e w4 ⟨T1,N1,g1,rfl,ho,hv⟩
 have HT41:=Lib.hid (Rs.of_own tmc_len (by decide) ho)
 have HV4:=Lib.hid hv
 have h84:=H8.out.keep hv
 have t4:=h84.q0
 have t5:=h84.q1
 have t6:=h84.q2
 have t7:=h84.q3
 clear ho hv HOF1 t0 t1 t2 t3 h84
 go_wp2_with fail
 refine(HOF2.out w4 HV4.out).mono ?_
 rintro e w5 ⟨T2,N2,g2,rfl,ho,hv⟩
 have HT52:=Lib.hid (Rs.of_own tmc_len (by decide) ho)
 have HT51:=Lib.hid (HT41.out.at_size (Nat.le_refl _) hv)
 have HV5:=Lib.hid (HV4.out.trans (hv.mono HV4.out.size))
 clear ho hv HOF2 t4 t5 t6 t7 HT41 HV4
 go_upto_region 9 with fail
 go_cut [14] (fun s14 wx=> ∃(bt:Nat) (L1:Option Addr) (j1 x1:Nat) (L2:Option Addr) (j2 x2:Nat),s14= .pointer (some ⟨bt,0,none⟩)∧wx.heap[bt]?=some (.cells #[.int .i64 (nl1:Int),.int .i64 (nl2:Int),.slice none 0 0,.slice L1 j1 x1,.slice L2 j2 x2] 49 (0,0))∧Below w5.heap.size w5 wx∧w5.heap.size≤bt∧Rs Bo.bdc 4 wx wx.heap.size L1 j1 x1 bl1∧Rs Bo.bdc 4 wx wx.heap.size L2 j2 x2 bl2)
 case first=>
  have hkp:=HKP.out _ HV5.out.drew
  refine Bo.wp_region_two [0,1,2,3,4,5,7,8,9,10] 6 11 13 _ _ _ [12,13,14] [11,12,14] [6,11,12,14] [6,11,13,14] 15 (fun W=>KpR W w3.heap.size (w.heap.size+1) B1 m1 d1 B2 m2 d2 B3 m3 d3 B4 m4 d4 C1 k1 f1 C2 k2 f2 C3 k3 f3 C4 k4 f4 A n c) (by kernel_rfl) (by kernel_rfl) rfl rfl rfl rfl rfl rfl (by kernel_rfl) (by kernel_rfl) (by kernel_rfl) (by kernel_rfl) (by kernel_rfl) (by kernel_rfl) (by kernel_rfl) (by kernel_rfl) (by kernel_rfl) (fun _ _ _ _ _ h=>h) hkp ?_
  simp only[steps,List.getElem?_cons_zero,List.getElem?_cons_succ]
  clear hkp
  repeat(
   refine Bo.soft_yes (v:= ?_) rfl ?_ ?_
   rotate_left
   (focus(rintro w' ⟨x0,x1,x2,x3,x4,x5,x6,x7,x8⟩;go_simp;try with_reducible rfl))
   simp only[Act.put,List.setIfInBounds_toArray,List.set_cons_zero,List.set_cons_succ])
  have HBD:=Lib.hid ((Below.refl w5.heap.size w5).drew)
  generalize World.drew _=wd at*
  refine Bo.soft_end ⟨?_,?_⟩
  ·go_simp
   refine(HBD1.out T1 N1 g1 wd (HV5.out.trans (HBD.out.mono HV5.out.size)) (HT51.out.at_size (Nat.le_refl _) HBD.out)).mono ?_
   rintro e wb ⟨L1,j1,x1,rfl,ho,hv⟩
   have HL1:=Lib.hid (Rs.of_own Bo.bdc_len (by decide) ho)
   have HVV:=Lib.hid hv
   have HB6:=Lib.hid (HBD.out.trans (hv.mono HBD.out.size))
   clear ho hv HBD1
   refine⟨HKP.out _ (HV5.out.trans (HB6.out.mono HV5.out.size)),?_,?_⟩
   ·go_simp
    refine(HBD2.out T2 N2 g2 wb (HV5.out.trans (HB6.out.mono HV5.out.size)) (HT52.out.at_size (Nat.le_refl _) HB6.out)).mono ?_
    rintro e wc ⟨L2,j2,x2,rfl,ho,hv⟩
    have HL2:=Lib.hid (Rs.of_own Bo.bdc_len (by decide) ho)
    have HVV:=Lib.hid hv
    have HB7:=Lib.hid (HB6.out.trans (hv.mono HB6.out.size))
    clear ho hv HBD2
    replace HL1:=Lib.hid (HL1.out.at_size (Nat.le_refl _) HVV.out)
    refine⟨HKP.out _ (HV5.out.trans (HB7.out.mono HV5.out.size)),?_⟩
    try simp only[Act.put,List.setIfInBounds_toArray,List.set_cons_zero,List.set_cons_succ]
    refine ord_yes (v:= .agg #[.int .i64 (nl1:Int),.int .i64 (nl2:Int),.slice none 0 0,.slice L1 j1 x1,.slice L2 j2 x2]) rfl rfl (fun w' _=>by go_simp) ?_
    simp only[Act.put,List.setIfInBounds_toArray,List.set_cons_zero,List.set_cons_succ]
    have HAL:=Lib.hid (show Below wc.heap.size wc (wc.alloc (.cells #[.int .i64 0,.int .i64 0,.slice none 0 0,.slice none 0 0,.slice none 0 0] 49)) from(Below.refl _ _).alloc (Nat.le_refl _) _)
    have HKN:=Lib.hid (heap_alloc_new wc (.cells #[.int .i64 0,.int .i64 0,.slice none 0 0,.slice none 0 0,.slice none 0 0] 49))
    have HB8:=Lib.hid (HB7.out.trans (HAL.out.mono HB7.out.size))
    have HLE:=Lib.hid (show w5.heap.size≤wc.heap.size from HB7.out.size)
    refine ord_hard rfl rfl (fun K hK=> ?_)
    go_simp
    refine hK.out _ _ (fun _=>HKP.out _ (HV5.out.trans (HB8.out.mono HV5.out.size))) ?_
    clear hK K
    try simp only[Act.put,List.setIfInBounds_toArray,List.set_cons_zero,List.set_cons_succ]
    replace HL1:=Lib.hid (HL1.out.at_size (Nat.le_refl _) HAL.out)
    replace HL2:=Lib.hid (HL2.out.at_size (Nat.le_refl _) HAL.out)
    generalize wc.alloc (.cells #[.int .i64 0,.int .i64 0,.slice none 0 0,.slice none 0 0,.slice none 0 0] 49)=wn at*
    obtain⟨bt,hbt⟩: ∃b,wc.heap.size=b:=⟨_,rfl⟩
    rw[hbt] at HKN HAL HLE
    try simp only[hbt]
    clear hbt
    have e0:wn.cell? ⟨bt,0,none⟩=some (.int .i64 0):=(cell_blk (i:=0) HKN.out).trans rfl
    have e1:wn.cell? ⟨bt,1,none⟩=some (.int .i64 0):=(cell_blk (i:=1) HKN.out).trans rfl
    have e2:wn.cell? ⟨bt,2,none⟩=some (.slice none 0 0):=(cell_blk (i:=2) HKN.out).trans rfl
    have e3:wn.cell? ⟨bt,3,none⟩=some (.slice none 0 0):=(cell_blk (i:=3) HKN.out).trans rfl
    have e4:wn.cell? ⟨bt,4,none⟩=some (.slice none 0 0):=(cell_blk (i:=4) HKN.out).trans rfl
    have y0:wn.frozen? ⟨bt,0,none⟩=false:=frozen_blk HKN.out
    have y1:wn.frozen? ⟨bt,1,none⟩=false:=frozen_blk HKN.out
    have y2:wn.frozen? ⟨bt,2,none⟩=false:=frozen_blk HKN.out
    have y3:wn.frozen? ⟨bt,3,none⟩=false:=frozen_blk HKN.out
    have y4:wn.frozen? ⟨bt,4,none⟩=false:=frozen_blk HKN.out
    obtain⟨wt,hwt⟩: ∃wt,(((((wn).setCell ⟨bt,0,none⟩ (.int .i64 (nl1:Int))).setCell ⟨bt,1,none⟩ (.int .i64 (nl2:Int))).setCell ⟨bt,2,none⟩ (.slice none 0 0)).setCell ⟨bt,3,none⟩ (.slice L1 j1 x1)).setCell ⟨bt,4,none⟩ (.slice L2 j2 x2)=wt:=⟨_,rfl⟩
    have HKT:Hid (wt.heap[bt]?=some (.cells #[.int .i64 (nl1:Int),.int .i64 (nl2:Int),.slice none 0 0,.slice L1 j1 x1,.slice L2 j2 x2] 49 (0,0))):=Lib.hid (by rw[← hwt];exact box5 HKN.out _ _ _ _ _)
    have HOF:Hid (∀q,q≠bt→wt.heap[q]?=wn.heap[q]?):=Lib.hid (by rw[← hwt];exact off5 _ _ _ _ _ _ _)
    have HBT:Hid (Below w5.heap.size w5 wt):=Lib.hid (by rw[← hwt];exact bel5 HB8.out HLE.out _ _ _ _ _)
    have HSZ:Hid (wn.heap.size≤wt.heap.size):=Lib.hid (by rw[← hwt];exact(bel5 (Below.refl bt wn) (Nat.le_refl _) _ _ _ _ _).size)
    refine ord_hard rfl rfl (fun K hK=> ?_)
    go_simp
    generalize hwq:World.setCell (World.setCell (World.setCell (World.setCell (World.setCell _ _ _) _ _) _ _) _ _) _ _=wq
    obtain rfl:wt=wq:=hwt.symm.trans hwq
    clear hwq
    refine hK.out _ _ (fun _=>HKP.out _ (HV5.out.trans (HBT.out.mono HV5.out.size))) ?_
    clear hK K e0 e1 e2 e3 e4 y0 y1 y2 y3 y4 hwt
    try simp only[Act.put,List.setIfInBounds_toArray,List.set_cons_zero,List.set_cons_succ]
    refine ord_end ?_
    have HR1:=Lib.hid (rs_off bdc_first HL1.out HKN.out no5 HOF.out HSZ.out)
    have HR2:=Lib.hid (rs_off bdc_first HL2.out HKN.out no5 HOF.out HSZ.out)
    go_wp2_with fail
    go_meet
    exact⟨bt,L1,j1,x1,L2,j2,x2,rfl,HKT.out,HBT.out,HLE.out,HR1.out,HR2.out⟩
   ·go_simp
    have HAL:=Lib.hid (show Below wb.heap.size wb (wb.alloc (.cells #[.int .i64 0,.int .i64 0,.slice none 0 0,.slice none 0 0,.slice none 0 0] 49)) from(Below.refl _ _).alloc (Nat.le_refl _) _)
    have HKN:=Lib.hid (heap_alloc_new wb (.cells #[.int .i64 0,.int .i64 0,.slice none 0 0,.slice none 0 0,.slice none 0 0] 49))
    have HB7:=Lib.hid (HB6.out.trans (HAL.out.mono HB6.out.size))
    have HLE:=Lib.hid (show w5.heap.size≤wb.heap.size from HB6.out.size)
    refine⟨HKP.out _ (HV5.out.trans (HB7.out.mono HV5.out.size)),?_⟩
    try simp only[Act.put,List.setIfInBounds_toArray,List.set_cons_zero,List.set_cons_succ]
    replace HL1:=Lib.hid (HL1.out.at_size (Nat.le_refl _) HAL.out)
    generalize wb.alloc (.cells #[.int .i64 0,.int .i64 0,.slice none 0 0,.slice none 0 0,.slice none 0 0] 49)=wm at*
    obtain⟨bt,hbt⟩: ∃b,wb.heap.size=b:=⟨_,rfl⟩
    rw[hbt] at HKN HAL HLE
    try simp only[hbt]
    clear hbt
    refine ord_hard rfl rfl (fun K hK=> ?_)
    go_simp
    refine(HBD2.out T2 N2 g2 wm (HV5.out.trans (HB7.out.mono HV5.out.size)) (HT52.out.at_size (Nat.le_refl _) HB7.out)).mono ?_
    rintro e wn ⟨L2,j2,x2,rfl,ho,hv⟩
    have HL2:=Lib.hid (Rs.of_own Bo.bdc_len (by decide) ho)
    have HVV:=Lib.hid hv
    have HB8:=Lib.hid (HB7.out.trans (hv.mono HB7.out.size))
    clear ho hv HBD2
    refine hK.out _ _ (fun _=>HKP.out _ (HV5.out.trans (HB8.out.mono HV5.out.size))) ?_
    clear hK K
    try simp only[Act.put,List.setIfInBounds_toArray,List.set_cons_zero,List.set_cons_succ]
    replace HL1:=Lib.hid (HL1.out.at_size (Nat.le_refl _) HVV.out)
    replace HKN:=Lib.hid ((HVV.out.block bt (lt_blk HKN.out)).trans HKN.out)
    refine ord_yes (v:= .agg #[.int .i64 (nl1:Int),.int .i64 (nl2:Int),.slice none 0 0,.slice L1 j1 x1,.slice L2 j2 x2]) rfl rfl (fun w' _=>by go_simp) ?_
    simp only[Act.put,List.setIfInBounds_toArray,List.set_cons_zero,List.set_cons_succ]
    have e0:wn.cell? ⟨bt,0,none⟩=some (.int .i64 0):=(cell_blk (i:=0) HKN.out).trans rfl
    have e1:wn.cell? ⟨bt,1,none⟩=some (.int .i64 0):=(cell_blk (i:=1) HKN.out).trans rfl
    have e2:wn.cell? ⟨bt,2,none⟩=some (.slice none 0 0):=(cell_blk (i:=2) HKN.out).trans rfl
    have e3:wn.cell? ⟨bt,3,none⟩=some (.slice none 0 0):=(cell_blk (i:=3) HKN.out).trans rfl
    have e4:wn.cell? ⟨bt,4,none⟩=some (.slice none 0 0):=(cell_blk (i:=4) HKN.out).trans rfl
    have y0:wn.frozen? ⟨bt,0,none⟩=false:=frozen_blk HKN.out
    have y1:wn.frozen? ⟨bt,1,none⟩=false:=frozen_blk HKN.out
    have y2:wn.frozen? ⟨bt,2,none⟩=false:=frozen_blk HKN.out
    have y3:wn.frozen? ⟨bt,3,none⟩=false:=frozen_blk HKN.out
    have y4:wn.frozen? ⟨bt,4,none⟩=false:=frozen_blk HKN.out
    obtain⟨wt,hwt⟩: ∃wt,(((((wn).setCell ⟨bt,0,none⟩ (.int .i64 (nl1:Int))).setCell ⟨bt,1,none⟩ (.int .i64 (nl2:Int))).setCell ⟨bt,2,none⟩ (.slice none 0 0)).setCell ⟨bt,3,none⟩ (.slice L1 j1 x1)).setCell ⟨bt,4,none⟩ (.slice L2 j2 x2)=wt:=⟨_,rfl⟩
    have HKT:Hid (wt.heap[bt]?=some (.cells #[.int .i64 (nl1:Int),.int .i64 (nl2:Int),.slice none 0 0,.slice L1 j1 x1,.slice L2 j2 x2] 49 (0,0))):=Lib.hid (by rw[← hwt];exact box5 HKN.out _ _ _ _ _)
    have HOF:Hid (∀q,q≠bt→wt.heap[q]?=wn.heap[q]?):=Lib.hid (by rw[← hwt];exact off5 _ _ _ _ _ _ _)
    have HBT:Hid (Below w5.heap.size w5 wt):=Lib.hid (by rw[← hwt];exact bel5 HB8.out HLE.out _ _ _ _ _)
    have HSZ:Hid (wn.heap.size≤wt.heap.size):=Lib.hid (by rw[← hwt];exact(bel5 (Below.refl bt wn) (Nat.le_refl _) _ _ _ _ _).size)
    refine ord_hard rfl rfl (fun K hK=> ?_)
    go_simp
    generalize hwq:World.setCell (World.setCell (World.setCell (World.setCell (World.setCell _ _ _) _ _) _ _) _ _) _ _=wq
    obtain rfl:wt=wq:=hwt.symm.trans hwq
    clear hwq
    refine hK.out _ _ (fun _=>HKP.out _ (HV5.out.trans (HBT.out.mono HV5.out.size))) ?_
    clear hK K e0 e1 e2 e3 e4 y0 y1 y2 y3 y4 hwt
    try simp only[Act.put,List.setIfInBounds_toArray,List.set_cons_zero,List.set_cons_succ]
    refine ord_end ?_
    have HR1:=Lib.hid (rs_off bdc_first HL1.out HKN.out no5 HOF.out HSZ.out)
    have HR2:=Lib.hid (rs_off bdc_first HL2.out HKN.out no5 HOF.out HSZ.out)
    go_wp2_with fail
    go_meet
    exact⟨bt,L1,j1,x1,L2,j2,x2,rfl,HKT.out,HBT.out,HLE.out,HR1.out,HR2.out⟩
  ·go_simp
   have HAL:=Lib.hid (show Below wd.heap.size wd (wd.alloc (.cells #[.int .i64 0,.int .i64 0,.slice none 0 0,.slice none 0 0,.slice none 0 0] 49)) from(Below.refl _ _).alloc (Nat.le_refl _) _)
   have HKN:=Lib.hid (heap_alloc_new wd (.cells #[.int .i64 0,.int .i64 0,.slice none 0 0,.slice none 0 0,.slice none 0 0] 49))
   have HB6:=Lib.hid (HBD.out.trans (HAL.out.mono HBD.out.size))
   have HLE:=Lib.hid (show w5.heap.size≤wd.heap.size from HBD.out.size)
   refine⟨HKP.out _ (HV5.out.trans (HB6.out.mono HV5.out.size)),?_⟩
   try simp only[Act.put,List.setIfInBounds_toArray,List.set_cons_zero,List.set_cons_succ]
   generalize wd.alloc (.cells #[.int .i64 0,.int .i64 0,.slice none 0 0,.slice none 0 0,.slice none 0 0] 49)=wm at*
   obtain⟨bt,hbt⟩: ∃b,wd.heap.size=b:=⟨_,rfl⟩
   rw[hbt] at HKN HAL HLE
   try simp only[hbt]
   clear hbt
   refine ord_hard rfl rfl (fun K hK=> ?_)
   go_simp
   refine(HBD1.out T1 N1 g1 wm (HV5.out.trans (HB6.out.mono HV5.out.size)) (HT51.out.at_size (Nat.le_refl _) HB6.out)).mono ?_
   rintro e wc ⟨L1,j1,x1,rfl,ho,hv⟩
   have HL1:=Lib.hid (Rs.of_own Bo.bdc_len (by decide) ho)
   have HVV:=Lib.hid hv
   have HB7:=Lib.hid (HB6.out.trans (hv.mono HB6.out.size))
   clear ho hv HBD1
   refine hK.out _ _ (fun _=>HKP.out _ (HV5.out.trans (HB7.out.mono HV5.out.size))) ?_
   clear hK K
   try simp only[Act.put,List.setIfInBounds_toArray,List.set_cons_zero,List.set_cons_succ]
   replace HKN:=Lib.hid ((HVV.out.block bt (lt_blk HKN.out)).trans HKN.out)
   refine ord_hard rfl rfl (fun K hK=> ?_)
   go_simp
   refine(HBD2.out T2 N2 g2 wc (HV5.out.trans (HB7.out.mono HV5.out.size)) (HT52.out.at_size (Nat.le_refl _) HB7.out)).mono ?_
   rintro e wn ⟨L2,j2,x2,rfl,ho,hv⟩
   have HL2:=Lib.hid (Rs.of_own Bo.bdc_len (by decide) ho)
   have HVV:=Lib.hid hv
   have HB8:=Lib.hid (HB7.out.trans (hv.mono HB7.out.size))
   clear ho hv HBD2
   refine hK.out _ _ (fun _=>HKP.out _ (HV5.out.trans (HB8.out.mono HV5.out.size))) ?_
   clear hK K
   try simp only[Act.put,List.setIfInBounds_toArray,List.set_cons_zero,List.set_cons_succ]
   replace HL1:=Lib.hid (HL1.out.at_size (Nat.le_refl _) HVV.out)
   replace HKN:=Lib.hid ((HVV.out.block bt (lt_blk HKN.out)).trans HKN.out)
   refine ord_yes (v:= .agg #[.int .i64 (nl1:Int),.int .i64 (nl2:Int),.slice none 0 0,.slice L1 j1 x1,.slice L2 j2 x2]) rfl rfl (fun w' _=>by go_simp) ?_
   simp only[Act.put,List.setIfInBounds_toArray,List.set_cons_zero,List.set_cons_succ]
   have e0:wn.cell? ⟨bt,0,none⟩=some (.int .i64 0):=(cell_blk (i:=0) HKN.out).trans rfl
   have e1:wn.cell? ⟨bt,1,none⟩=some (.int .i64 0):=(cell_blk (i:=1) HKN.out).trans rfl
   have e2:wn.cell? ⟨bt,2,none⟩=some (.slice none 0 0):=(cell_blk (i:=2) HKN.out).trans rfl
   have e3:wn.cell? ⟨bt,3,none⟩=some (.slice none 0 0):=(cell_blk (i:=3) HKN.out).trans rfl
   have e4:wn.cell? ⟨bt,4,none⟩=some (.slice none 0 0):=(cell_blk (i:=4) HKN.out).trans rfl
   have y0:wn.frozen? ⟨bt,0,none⟩=false:=frozen_blk HKN.out
   have y1:wn.frozen? ⟨bt,1,none⟩=false:=frozen_blk HKN.out
   have y2:wn.frozen? ⟨bt,2,none⟩=false:=frozen_blk HKN.out
   have y3:wn.frozen? ⟨bt,3,none⟩=false:=frozen_blk HKN.out
   have y4:wn.frozen? ⟨bt,4,none⟩=false:=frozen_blk HKN.out
   obtain⟨wt,hwt⟩: ∃wt,(((((wn).setCell ⟨bt,0,none⟩ (.int .i64 (nl1:Int))).setCell ⟨bt,1,none⟩ (.int .i64 (nl2:Int))).setCell ⟨bt,2,none⟩ (.slice none 0 0)).setCell ⟨bt,3,none⟩ (.slice L1 j1 x1)).setCell ⟨bt,4,none⟩ (.slice L2 j2 x2)=wt:=⟨_,rfl⟩
   have HKT:Hid (wt.heap[bt]?=some (.cells #[.int .i64 (nl1:Int),.int .i64 (nl2:Int),.slice none 0 0,.slice L1 j1 x1,.slice L2 j2 x2] 49 (0,0))):=Lib.hid (by rw[← hwt];exact box5 HKN.out _ _ _ _ _)
   have HOF:Hid (∀q,q≠bt→wt.heap[q]?=wn.heap[q]?):=Lib.hid (by rw[← hwt];exact off5 _ _ _ _ _ _ _)
   have HBT:Hid (Below w5.heap.size w5 wt):=Lib.hid (by rw[← hwt];exact bel5 HB8.out HLE.out _ _ _ _ _)
   have HSZ:Hid (wn.heap.size≤wt.heap.size):=Lib.hid (by rw[← hwt];exact(bel5 (Below.refl bt wn) (Nat.le_refl _) _ _ _ _ _).size)
   refine ord_hard rfl rfl (fun K hK=> ?_)
   go_simp
   generalize hwq:World.setCell (World.setCell (World.setCell (World.setCell (World.setCell _ _ _) _ _) _ _) _ _) _ _=wq
   obtain rfl:wt=wq:=hwt.symm.trans hwq
   clear hwq
   refine hK.out _ _ (fun _=>HKP.out _ (HV5.out.trans (HBT.out.mono HV5.out.size))) ?_
   clear hK K e0 e1 e2 e3 e4 y0 y1 y2 y3 y4 hwt
   try simp only[Act.put,List.setIfInBounds_toArray,List.set_cons_zero,List.set_cons_succ]
   refine ord_end ?_
   have HR1:=Lib.hid (rs_off bdc_first HL1.out HKN.out no5 HOF.out HSZ.out)
   have HR2:=Lib.hid (rs_off bdc_first HL2.out HKN.out no5 HOF.out HSZ.out)
   go_wp2_with fail
   go_meet
   exact⟨bt,L1,j1,x1,L2,j2,x2,rfl,HKT.out,HBT.out,HLE.out,HR1.out,HR2.out⟩
 obtain⟨bt,L1,j1,x1,L2,j2,x2,rfl,hkt,hb6,hle,hr1,hr2⟩:=hcut
 have HKT:=Lib.hid hkt
 have HB6:=Lib.hid hb6
 have HLE:=Lib.hid hle
 have HR1:=Lib.hid hr1
 have HR2:=Lib.hid hr2
 have HB6A:Hid (Below wa.heap.size wa wc):=Lib.hid (HV5.out.trans (hb6.mono HV5.out.size))
 have hbx:=HBXA.out _ HB6A.out
 have z2:=hbx.z2
 have hsc:=HSA.out wc (HBA.out.trans (HB6A.out.mono HBA.out.size))
 have HPT:=Lib.hid (put_rs A T1 T2 n c N1 g1 N2 g2 s.b _ _ wc hsc.b hsc.bf (HT51.out.at_size (Nat.le_refl _) HB6.out) (HT52.out.at_size (Nat.le_refl _) HB6.out) HCK.out HT1.out HT2.out)
 clear hkt hb6 hle hr1 hr2 hbx hsc HBD1 HBD2 HT51 HT52
 go_wp2_with fail
 refine HPT.out.mono ?_
 rintro e w7 ⟨A',n',c',rfl,hns,hv⟩
 have HV7:=Lib.hid hv
 have hbl:bt < wc.heap.size:=lt_blk HKT.out
 have hk7:=(hv.block _ hbl).trans HKT.out
 have hk8:=set_blk (i:=2) hk7 (.slice A' n' c')
 have i2:w7.cell? ⟨bt,2,none⟩=some (.slice none 0 0):=(cell_blk (i:=2) hk7).trans rfl
 have i3:w7.frozen? ⟨bt,2,none⟩=false:=frozen_blk hk7
 have HO8:=Lib.hid (ownsRow_setCell_below hns (a:=⟨bt,2,none⟩) hbl (.slice A' n' c'))
 have hof: ∀q,q≠bt→(w7.setCell ⟨bt,2,none⟩ (.slice A' n' c')).heap[q]?=w7.heap[q]?:=fun q hq=>Below.heap_setCell w7 ⟨bt,2,none⟩ _ q hq
 have hsz:w7.heap.size≤(w7.setCell ⟨bt,2,none⟩ (.slice A' n' c')).heap.size:=((Below.refl bt w7).setCell (p:=⟨bt,2,none⟩) (Nat.le_refl _) _).size
 have HR18:=Lib.hid (rs_off bdc_first (HR1.out.at_size (Nat.le_refl _) hv) hk7 no5 hof hsz)
 have HR28:=Lib.hid (rs_off bdc_first (HR2.out.at_size (Nat.le_refl _) hv) hk7 no5 hof hsz)
 have HB8A:Hid (Below wa.heap.size wa (w7.setCell ⟨bt,2,none⟩ (.slice A' n' c'))):=Lib.hid ((HB6A.out.trans (hv.mono HB6A.out.size)).setCell (p:=⟨bt,2,none⟩) (Nat.le_trans HV5.out.size HLE.out) _)
 have hbx:=HBXA.out _ HB8A.out
 have z0:=hbx.z0
 have z1:=hbx.z1
 have y0:=(cell_blk (i:=0) hk8).trans rfl
 have y1:=(cell_blk (i:=1) hk8).trans rfl
 have y2:=(cell_blk (i:=2) hk8).trans rfl
 have y3:=(cell_blk (i:=3) hk8).trans rfl
 have y4:=(cell_blk (i:=4) hk8).trans rfl
 have g1: ¬s.lv < (nl1:Int):=by have:=HLV.out;omega
 have g2: ¬s.ev < (nl2:Int):=by have:=HEV.out;omega
 clear hns hv hbl hk7 hk8 hof hsz hbx z2 HPT HR1 HR2 HKT
 by_cases h256:256 < j1
 ·have h256':(256:Int) < (j1:Int):=by omega
  go_wp2_with fail
  refine(lives_any _).mono ?_
  rintro e wz ⟨rfl,hv⟩
  have HZ:=Lib.hid ((HBA.out.trans (HB8A.out.mono HBA.out.size)).trans (hv.mono (HBA.out.trans (HB8A.out.mono HBA.out.size)).size))
  clear hv
  go_wp2_with fail
  go_ret
  exact⟨rfl,HZ.out⟩
 have h256': ¬(256:Int) < (j1:Int):=by omega
 by_cases h257:256 < j2
 ·have h257':(256:Int) < (j2:Int):=by omega
  go_wp2_with fail
  refine(lives_any _).mono ?_
  rintro e wz ⟨rfl,hv⟩
  have HZ:=Lib.hid ((HBA.out.trans (HB8A.out.mono HBA.out.size)).trans (hv.mono (HBA.out.trans (HB8A.out.mono HBA.out.size)).size))
  clear hv
  go_wp2_with fail
  go_ret
  exact⟨rfl,HZ.out⟩
 have h257': ¬(256:Int) < (j2:Int):=by omega
 have HB1L:Hid (bl1.length≤256):=Lib.hid (by rw[HR18.out.len];omega)
 have HB2L:Hid (bl2.length≤256):=Lib.hid (by rw[HR28.out.len];omega)
 have HBC8:Hid (Below w.heap.size w (w7.setCell ⟨bt,2,none⟩ (.slice A' n' c'))):=Lib.hid (HBA.out.trans (HB8A.out.mono HBA.out.size))
 have HBO8:=Lib.hid (HBOA.out.keep HB8A.out)
 have HP8:=Lib.hid (HP.out.keep HB8A.out)
 have HQ8:=Lib.hid (HQ.out.keep HB8A.out)
 have H88:=Lib.hid (H8.out.keep HB8A.out)
 clear h256 h257
 go_upto_region 16 with fail
 generalize w7.setCell ⟨bt,2,none⟩ (.slice A' n' c')=w8 at*
 have hs8:=HSA.out w8 HBC8.out
 have hs9:SchAt w8 ⟨(nl1:Int),(nl2:Int),putB s.b tl1 tl2,bl1,bl2⟩ A' n' c' L1 j1 x1 L2 j2 x2:=
  ⟨Rs.of_own ndc_len (by decide) HO8.out,fits_putB _ _ hs8.bf,tfits_putE _ _ (tfits_putL _ _ hs8.bt HU1.out) HU2.out,HR18.out,HF1.out,HR28.out,HF2.out⟩
 have HOF:=Lib.hid (senOf_any _ _ _ _ _ _ _ _ _ _ a b _ _ w8 hs9 HBO8.out HSO.out HXO.out)
 clear hs8 hs9 HO8 HR18 HR28 HU1 HU2 HF1 HF2 g1 g2 h256' h257' i2 i3 z0 z1
 unfold schV at HOF
 go_wp2_with fail
 clear y0 y1 y2 y3 y4
 refine HOF.out.mono ?_
 rintro e w9 ⟨x2',p',q',rfl,hof',hv⟩
 obtain⟨rfl,zz,zz',hp',hq',⟨e1,e2,e3⟩,e4,e5,e6⟩:=HPR.out _ _ _ _ HB1L.out HB2L.out hof'
 obtain⟨D1,l1,i1,D2,l2,i2,D3,l3,i3,D4,l4,i4⟩:=p'
 obtain⟨E1,h1,g1',E2,h2,g2',E3,h3,g3',E4,h4,g4'⟩:=q'
 simp only[Q4.v,senV]
 replace hp':SenAt w9 _ D1 l1 i1 D2 l2 i2 D3 l3 i3 D4 l4 i4:=hp'
 replace hq':SenAt w9 _ E1 h1 g1' E2 h2 g2' E3 h3 g3' E4 h4 g4':=hq'
 have hal:=two_below w9 (.cells #[.slice D1 l1 i1,.slice D2 l2 i2,.slice D3 l3 i3,.slice D4 l4 i4] 28) (.cells #[.slice E1 h1 g1',.slice E2 h2 g2',.slice E3 h3 g3',.slice E4 h4 g4'] 28)
 have h9:=B8.new w9 D1 l1 i1 D2 l2 i2 D3 l3 i3 D4 l4 i4 E1 h1 g1' E2 h2 g2' E3 h3 g3' E4 h4 g4'
 have hva:=hv.trans (hal.mono hv.size)
 have hpp:=HP8.out.keep hva
 have hqq:=HQ8.out.keep hva
 have hp9:=hp'.keep hal
 have hq9:=hq'.keep hal
 have ff2:=hp9.rl
 rw[e1] at ff2
 have ff3:=hp9.rh
 rw[e2] at ff3
 have ff4:=hp9.rb
 rw[e3] at ff4
 have ff5:=hq9.rl
 rw[e4] at ff5
 have ff6:=hq9.rh
 rw[e5] at ff6
 have ff7:=hq9.rb
 rw[e6] at ff7
 obtain rfl:m2=l2:=hpp.rl.len.symm.trans ff2.len
 obtain rfl:m3=l3:=hpp.rh.len.symm.trans ff3.len
 obtain rfl:m4=l4:=hpp.rb.len.symm.trans ff4.len
 obtain rfl:k2=h2:=hqq.rl.len.symm.trans ff5.len
 obtain rfl:k3=h3:=hqq.rh.len.symm.trans ff6.len
 obtain rfl:k4=h4:=hqq.rb.len.symm.trans ff7.len
 have HZ1:=Lib.hid (sameZ_any _ _ _ B1 m1 d1 B2 m2 d2 B3 m3 d3 B4 m4 d4 D1 l1 i1 D2 i2 D3 i3 D4 i4 _ hpp.rl hpp.rh hpp.rb ff2 ff3 ff4)
 have HZ2:Hid (∀W,Below ((w9.alloc (.cells #[.slice D1 l1 i1,.slice D2 m2 i2,.slice D3 m3 i3,.slice D4 m4 i4] 28)).alloc (.cells #[.slice E1 h1 g1',.slice E2 k2 g2',.slice E3 k3 g3',.slice E4 k4 g4'] 28)).heap.size ((w9.alloc (.cells #[.slice D1 l1 i1,.slice D2 m2 i2,.slice D3 m3 i3,.slice D4 m4 i4] 28)).alloc (.cells #[.slice E1 h1 g1',.slice E2 k2 g2',.slice E3 k3 g3',.slice E4 k4 g4'] 28)) W→Calls Tryz.prog 21 #[senV C1 k1 f1 C2 k2 f2 C3 k3 f3 C4 k4 f4,senV E1 h1 g1' E2 k2 g2' E3 k3 g3' E4 k4 g4'] W fun e w'=>e= .returned (.bool true)∧Below W.heap.size W w'):=Lib.hid fun W hW=>
  sameZ_any _ _ _ C1 k1 f1 C2 k2 f2 C3 k3 f3 C4 k4 f4 E1 h1 g1' E2 g2' E3 g3' E4 g4' W (hqq.keep hW).rl (hqq.keep hW).rh (hqq.keep hW).rb (ff5.at_size (Nat.le_refl _) hW) (ff6.at_size (Nat.le_refl _) hW) (ff7.at_size (Nat.le_refl _) hW)
 have h8:=H88.out.keep hva
 have t0:=h8.p0
 have t1:=h8.p1
 have t2:=h8.p2
 have t3:=h8.p3
 have u0:=h9.p0
 have u1:=h9.p1
 have u2:=h9.p2
 have u3:=h9.p3
 have HBZ:=Lib.hid (HBC8.out.trans (hva.mono HBC8.out.size))
 have H8Z:=Lib.hid h8
 have H9Z:=Lib.hid h9
 unfold senV at HZ1 HZ2
 clear hof' hv hp' hq' hal h9 e1 e2 e3 e4 e5 e6 hva hpp hqq hp9 hq9 ff2 ff3 ff4 ff5 ff6 ff7 h8 HOF HP8 HQ8 H88 HBO8 HBC8
 go_wp2_with fail
 generalize (w9.alloc (.cells #[.slice D1 l1 i1,.slice D2 m2 i2,.slice D3 m3 i3,.slice D4 m4 i4] 28)).alloc (.cells #[.slice E1 h1 g1',.slice E2 k2 g2',.slice E3 k3 g3',.slice E4 k4 g4'] 28)=wz at*
 refine HZ1.out.mono ?_
 rintro e w10 ⟨rfl,hv⟩
 have HV10:=Lib.hid hv
 have h8:=H8Z.out.keep hv
 have h9:=H9Z.out.keep hv
 have v0:=h8.q0
 have v1:=h8.q1
 have v2:=h8.q2
 have v3:=h8.q3
 have x0:=h9.q0
 have x1:=h9.q1
 have x2:=h9.q2
 have x3:=h9.q3
 clear hv h8 h9 HZ1 t0 t1 t2 t3 u0 u1 u2 u3
 go_wp2_with fail
 refine(HZ2.out _ HV10.out).mono ?_
 rintro e w11 ⟨rfl,hv⟩
 have HB11:=Lib.hid (HBZ.out.trans ((HV10.out.trans (hv.mono HV10.out.size)).mono HBZ.out.size))
 clear hv HZ2 v0 v1 v2 v3 x0 x1 x2 x3
 go_wp2_with fail
 refine(lives_any _).mono ?_
 rintro e wz' ⟨rfl,hv⟩
 have HZ:=Lib.hid (HB11.out.trans (hv.mono HB11.out.size))
 clear hv
 go_wp2_with fail
 go_ret
 exact⟨rfl,HZ.out⟩
theorem own:ownKnob Tryz.prog.godebug=none:=by kernel_rfl
theorem laidOut:laidOutB Tryz.prog=true:=by kernel_rfl
set_option maxRecDepth 100000 in
theorem lifted (os:Os)(started:os.Started)(H:Type)(enc:TypeId×Value→H):
  ReturnsInHanded {} Tryz.checked os 4 .any (Rows.pairsSenseSpec.pre6 enc Tryz.prog Tryz.f4 Rows.pairsSenseRow.domain false) (Rows.pairsSenseSpec.post enc Tryz.prog Tryz.f4 false true false false):=by
 refine returnsInHanded_of_change (C:=Tryz.checked) own started (by kernel_rfl) Tryz.func4
  (ChangeSpec.witness6 (enc:=enc) (C:=Tryz.checked) false ⟨#[],#[.agg #[.slice none 0 0,.int .i64 0],.agg #[.int .i64 0,.int .i64 0,.slice none 0 0,.slice none 0 0,.slice none 0 0]],[]⟩ 8 (by kernel_rfl) (by kernel_rfl) (by kernel_rfl) (by kernel_rfl)) ?_
 intro W base args ds gs before hval0 hW hcnd _
 have hval: ∀(j:Nat) t v,Tryz.f4.params[j]?=some t→args[j]?=some v→Value.okWide Tryz.prog W .any base t v:=hval0
 have hW':=hW
 obtain⟨p,q,hA0,hV,rfl,hfz,hnd⟩:=hW
 have hA:DataW.TrodAll enc Tryz.prog W 0 (fun _=>true) true Tryz.f4.params.toList args.toList ds p:=hA0
 rw[Tryz.params4] at hA hval
 obtain⟨v0,vs0,d0,ds0,p0,q0,hargs,rfl,rfl,h0,r0⟩:=trodAll_cons hA
 obtain⟨v1,vs1,d1,ds1,p1,q1,rfl,rfl,rfl,h1,r1⟩:=trodAll_cons r0
 obtain⟨rfl,rfl,rfl⟩:=trodAll_nil r1
 obtain rfl:args= #[v0,v1]:=by cases args;simp_all
 obtain⟨rfl,rfl⟩:=trodVars_none hV
 have lt0: ∀x∈p0,x.block < W.heap.size:=by obtain⟨m,hm⟩:=h0;exact DataW.trod_lt m _ _ _ hm
 have lt1: ∀x∈p1,x.block < W.heap.size:=by obtain⟨m,hm⟩:=h1;exact DataW.trod_lt m _ _ _ hm
 obtain⟨A3,n3,c3,k,rows,rfl,hr,hrf⟩:=opened_sorts h0
 obtain⟨s,A,n,c,A1,n1,c1,A2,n2,c2,rfl,hS,-,-⟩:=opened_scheme h1
 clear hA0 hval0
 refine(walk s A n c A1 n1 c1 A2 n2 c2 A3 n3 c3 k rows W hS hr hrf).mono fun e W' ⟨he,bel⟩=> ?_
 subst he
 exact⟨_,rfl,_,_,_,[],_,[],hW',trodAll_mk1 (shut_bool Tryz.underlying4 _),(trodAll_cons_mk (Below.trod laidOut (by kernel_rfl) (of_decide_eq_true (by kernel_rfl)) h0 bel lt0) (trodAll_cons_mk (Below.trod laidOut (by kernel_rfl) (of_decide_eq_true (by kernel_rfl)) h1 bel lt1) trodAll_mk0)),rfl,bel.frame _,fun h=>by cases h⟩
theorem over:Rows.pairsSenseRow.holds Tryz.pinned (OpenSpec.ofChange Rows.pairsSenseSpec):=
 OpenClaim.holds_of_wide 4 Tryz.f4 rfl rfl rfl rfl rfl rfl rfl ⟨rfl,rfl,rfl,rfl,rfl⟩ rfl rfl rfl rfl rfl (by kernel_rfl) Tryz.func4 (by kernel_rfl)
  (of_decide_eq_true (by kernel_rfl)) (by unfold Func.isWrapper;first|(rw[if_pos (by decide+kernel)];kernel_rfl)|(rw[if_neg (by decide+kernel)];exact⟨rfl,rfl⟩))
  (fun os started H enc _=>lifted os started H enc)
theorem proved:Rows.PairsSenseSaid:=over
end Go.Proofs.YtmejhedegmjboaaGreat.pairsSense
