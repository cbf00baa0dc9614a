/- What look tells: a sense, with what is told of its spots. Condition: the sense can be read. -/
import Derived.Deep.DeepCutAuto
import Derived.Test.YtmejhedegmjboaaGreatPaE
namespace Go.Proofs.YtmejhedegmjboaaGreat.I
open Go.RowKit PaC
theorem final_list (S:Bo.Sr)(z:Sen):prA S z (otL (tkI z) (clsL S z 2) (clsL S z 0)) (stA (tkI z) (clsL S z 2) (stA (tkO z) (clsL S z 2) (RL (lim z) id) (clsL S z 1)) (clsL S z 0)) (otL (tkO z) (clsL S z 2) (clsL S z 1))=oneL S z:=by
 unfold oneL
 cases hw:wholeS z with
 |true=>rw[lim_eq hw,clsL_whole hw,clsL_whole hw,clsL_whole hw,otO,otI,st_one,pr_one]
 |false=>
  have h0:=lim_no hw
  rw[h0]
  refine List.eq_nil_of_length_eq_zero ?_
  rw[prA_len,stA_len,stA_len,RL_len]
theorem RL_id (n:Nat):RL n id=List.range n:=by simp[RL]
theorem RL_next (n:Nat):RL (n+1) id=RL n id++ [n]:=by rw[RL_id,RL_id,List.range_succ]
theorem rd_move {α:Type}{en:α→Value}{w w':World}{A:Option Addr}{n c:Nat}{l:List α}(h:Rd en w w.heap.size A n c l)(hs:w.heap.size≤w'.heap.size)(hb: ∀b o,A=some ⟨b,o,none⟩→0 < n→b < w.heap.size→w'.heap[b]?=w.heap[b]?):Rd en w' w'.heap.size A n c l:=
 ⟨h.len,h.cap,h.top,h.none0,fun hn=>by
  obtain⟨b,o,e,hlt,hc⟩:=h.spot hn
  exact⟨b,o,e,Nat.lt_of_lt_of_le hlt hs,fun j hj=>(World.cell?_of_block (a:=⟨b,o+j,none⟩) (hb b o e hn hlt)).trans (hc j hj)⟩⟩
theorem rd_ne {α:Type}{en:α→Value}{w:World}{B:Nat}{A:Option Addr}{n c:Nat}{l:List α}(h:Rd en w B A n c l){g:Nat}{cs:Array Value}{t:TypeId}(hg:w.heap[g]?=some (.cells cs t (0,0)))(hno: ∀(i:Nat) (x:α),cs[i]?≠some (en x)){b o:Nat}(e:A=some ⟨b,o,none⟩)(hn:0 < n):b≠g:=by
 rintro rfl
 obtain⟨b',o',e',-,hc⟩:=h.spot hn
 rw[e] at e'
 injection e' with e'
 injection e' with e1 e2
 subst e1 e2
 have:=hc 0 (by have:=h.len;omega)
 rw[cell_blk hg] at this
 exact hno _ _ this
theorem nine_no {v:Value}{S:Bo.Sr}{w:World}(hs:Bo.SrtIn w v S){A1:Option Addr}{n1 c1:Nat}{A2:Option Addr}{n2 c2:Nat}{A3:Option Addr}{n3 c3:Nat}{A4:Option Addr}{n4 c4:Nat}{F:Option Addr}{nf cf:Nat}{X:Option Addr}{nx cx:Nat}{V:Option Addr}{nv cv:Nat}{O:Option Addr}{no co:Nat}:(∀(i:Nat) (x:Nat),(#[v,.slice A1 n1 c1,.slice A2 n2 c2,.slice A3 n3 c3,.slice A4 n4 c4,.slice F nf cf,.slice X nx cx,.slice V nv cv,.slice O no co]:Array Value)[i]?≠some (nmI x))∧(∀(i:Nat) (x:Bool),(#[v,.slice A1 n1 c1,.slice A2 n2 c2,.slice A3 n3 c3,.slice A4 n4 c4,.slice F nf cf,.slice X nx cx,.slice V nv cv,.slice O no co]:Array Value)[i]?≠some (Value.bool x))∧(∀(i:Nat) (x:Nat),(#[v,.slice A1 n1 c1,.slice A2 n2 c2,.slice A3 n3 c3,.slice A4 n4 c4,.slice F nf cf,.slice X nx cx,.slice V nv cv,.slice O no co]:Array Value)[i]?≠some (La.nm x)):=by
 have hv:(∀q a,v≠ .int q a)∧ ∀b,v≠ .bool b:=by
  rcases hs with⟨rfl,-⟩|⟨a,rfl,-⟩|⟨a,rfl,-⟩|⟨rfl,-⟩
  all_goals(
   refine⟨fun q a e=> ?_,fun b e=> ?_⟩
   ·cases e
   ·cases e)
 have key: ∀(u:Value),(∀A n c,u≠ .slice A n c)→u≠v→ ∀i:Nat,(#[v,.slice A1 n1 c1,.slice A2 n2 c2,.slice A3 n3 c3,.slice A4 n4 c4,.slice F nf cf,.slice X nx cx,.slice V nv cv,.slice O no co]:Array Value)[i]?≠some u:=by
  intro u h1 h2 i e
  match i,e with
  |0,e=>exact h2 (Option.some.inj e).symm
  |1,e=>exact h1 _ _ _ (Option.some.inj e).symm
  |2,e=>exact h1 _ _ _ (Option.some.inj e).symm
  |3,e=>exact h1 _ _ _ (Option.some.inj e).symm
  |4,e=>exact h1 _ _ _ (Option.some.inj e).symm
  |5,e=>exact h1 _ _ _ (Option.some.inj e).symm
  |6,e=>exact h1 _ _ _ (Option.some.inj e).symm
  |7,e=>exact h1 _ _ _ (Option.some.inj e).symm
  |8,e=>exact h1 _ _ _ (Option.some.inj e).symm
  |k+9,e=>simp at e
 refine⟨fun i x=>key _ (fun _ _ _ e=>by cases e) (fun e=>hv.1 _ _ e.symm) i,fun i x=>key _ (fun _ _ _ e=>by cases e) (fun e=>hv.2 _ e.symm) i,fun i x=>key _ (fun _ _ _ e=>by cases e) (fun e=>hv.1 _ _ e.symm) i⟩
theorem nil_no (u:Value)(h1:u≠ .nilIface)(h2: ∀A n c,u≠ .slice A n c): ∀i:Nat,(#[.nilIface,.slice none 0 0,.slice none 0 0,.slice none 0 0,.slice none 0 0,.slice none 0 0,.slice none 0 0,.slice none 0 0,.slice none 0 0]:Array Value)[i]?≠some u:=by
 intro i e
 match i,e with
 |0,e=>exact h1 (Option.some.inj e).symm
 |1,e=>exact h2 _ _ _ (Option.some.inj e).symm
 |2,e=>exact h2 _ _ _ (Option.some.inj e).symm
 |3,e=>exact h2 _ _ _ (Option.some.inj e).symm
 |4,e=>exact h2 _ _ _ (Option.some.inj e).symm
 |5,e=>exact h2 _ _ _ (Option.some.inj e).symm
 |6,e=>exact h2 _ _ _ (Option.some.inj e).symm
 |7,e=>exact h2 _ _ _ (Option.some.inj e).symm
 |8,e=>exact h2 _ _ _ (Option.some.inj e).symm
 |k+9,e=>simp at e
theorem store_v {v:Value}{S:Bo.Sr}{w0 W:World}(hs:Bo.SrtIn w0 v S){a:Addr}{u:Value}(hc:W.cell? a=some u)(hf:W.frozen? a=false):(store a v).run Tryz.prog W= .ok () (W.setCell a v):=by
 rcases hs with⟨rfl,-⟩|⟨va,rfl,-⟩|⟨va,rfl,-⟩|⟨rfl,-⟩ <;> simp[hc,hf,go_sem]
theorem row_at {w:World}{base sz n c b o:Nat}{E:TypeId}{xs:List Value}(h:w.ownsRow base E sz (.slice (some ⟨b,o,none⟩) n c) n xs):base≤b∧b < w.heap.size:=by
 rcases h.2 with⟨h0,-⟩|⟨g,cap,cur,hv,hb,hg,-⟩
 ·cases h0
 ·injection hv with h1
  injection h1 with h1
  injection h1 with h1 h2
  subst h1
  exact⟨hb,lt_blk hg⟩
def OD (O:Option Addr)(no co:Nat):Nat→Prop:=fun b=>(Value.slice O no co).ownBlock=some b
theorem fit_get {l:List Nat}(h:La.Fit l)(i:Nat):l.getD i 0 < 18446744073709551616:=by
 by_cases hi:i < l.length
 ·rw[List.getD_eq_getElem?_getD,List.getElem?_eq_getElem hi]
  exact h _ (List.getElem_mem hi)
 ·rw[List.getD_eq_getElem?_getD,List.getElem?_eq_none (by omega)]
  decide
theorem hg_fit {w:World}{z:Sen}{A1:Option Addr}{n1 c1:Nat}{A2:Option Addr}{n2 c2:Nat}{A3:Option Addr}{n3 c3:Nat}{A4:Option Addr}{n4 c4:Nat}(h:SenAt w z A1 n1 c1 A2 n2 c2 A3 n3 c3 A4 n4 c4)(x:Nat):hg z x < 18446744073709551616:=fit_get h.fh x
theorem lw_fit {w:World}{z:Sen}{A1:Option Addr}{n1 c1:Nat}{A2:Option Addr}{n2 c2:Nat}{A3:Option Addr}{n3 c3:Nat}{A4:Option Addr}{n4 c4:Nat}(h:SenAt w z A1 n1 c1 A2 n2 c2 A3 n3 c3 A4 n4 c4)(x:Nat):lw z x < 18446744073709551616:=fit_get h.fl x
structure LkA (z:Sen)(w1:World)(v:Value)(A1:Option Addr)(n1 c1:Nat)(A2:Option Addr)(n2 c2:Nat)(A3:Option Addr)(n3 c3:Nat)(A4:Option Addr)(n4 c4:Nat)(bt:Nat)(F:Option Addr)(nf cf:Nat)(W:World):Prop where
 b:Below w1.heap.size w1 W
 t:W.heap[bt]?=some (.cells #[v,.slice A1 n1 c1,.slice A2 n2 c2,.slice A3 n3 c3,.slice A4 n4 c4,.slice F nf cf,.slice none 0 0,.slice none 0 0,.slice none 0 0] 108 (0,0))
 le:w1.heap.size≤bt
 f:Rd nmI W W.heap.size F nf cf (alF z)
structure LkB (w6:World)(bt:Nat)(v:Value)(A1:Option Addr)(n1 c1:Nat)(A2:Option Addr)(n2 c2:Nat)(A3:Option Addr)(n3 c3:Nat)(A4:Option Addr)(n4 c4:Nat)(F:Option Addr)(nf cf:Nat)(X:Option Addr)(nx cx:Nat)(V:Option Addr)(nv cv:Nat)(i:Nat)(O:Option Addr)(no co:Nat)(W:World):Prop where
 t:W.heap[bt]?=some (.cells #[v,.slice A1 n1 c1,.slice A2 n2 c2,.slice A3 n3 c3,.slice A4 n4 c4,.slice F nf cf,.slice X nx cx,.slice V nv cv,.slice O no co] 108 (0,0))
 o:W.ownsRow w6.heap.size 3 1 (.slice O no co) no ((RL i id).flatMap en3)
 k:Kept (· =bt) w6 W
theorem box9 {w:World}{g:Nat}{t:TypeId}{b0 b1 b2 b3 b4 b5 b6 b7 b8:Value}(h:w.heap[g]?=some (.cells #[b0,b1,b2,b3,b4,b5,b6,b7,b8] t (0,0)))(a0 a1 a2 a3 a4 a5 a6 a7 a8:Value):
  (((((((((w.setCell ⟨g,0,none⟩ a0).setCell ⟨g,1,none⟩ a1).setCell ⟨g,2,none⟩ a2).setCell ⟨g,3,none⟩ a3).setCell ⟨g,4,none⟩ a4).setCell ⟨g,5,none⟩ a5).setCell ⟨g,6,none⟩ a6).setCell ⟨g,7,none⟩ a7).setCell ⟨g,8,none⟩ a8).heap[g]?=
   some (.cells #[a0,a1,a2,a3,a4,a5,a6,a7,a8] t (0,0)):=by
 have:=set_blk (i:=8) (set_blk (i:=7) (set_blk (i:=6) (set_blk (i:=5) (set_blk (i:=4) (set_blk (i:=3) (set_blk (i:=2) (set_blk (i:=1) (set_blk (i:=0) h a0) a1) a2) a3) a4) a5) a6) a7) a8
 rw[this]
 simp
theorem bel2 {B:Nat}{w0 w:World}{g:Nat}(h:Below B w0 w)(hg:B≤g)(i j:Nat)(a b:Value):Below B w0 ((w.setCell ⟨g,i,none⟩ a).setCell ⟨g,j,none⟩ b):=
 below_set (below_set h hg _) hg _
theorem bel9 {B:Nat}{w0 w:World}{g:Nat}(h:Below B w0 w)(hg:B≤g)(a0 a1 a2 a3 a4 a5 a6 a7 a8:Value):
  Below B w0 (((((((((w.setCell ⟨g,0,none⟩ a0).setCell ⟨g,1,none⟩ a1).setCell ⟨g,2,none⟩ a2).setCell ⟨g,3,none⟩ a3).setCell ⟨g,4,none⟩ a4).setCell ⟨g,5,none⟩ a5).setCell ⟨g,6,none⟩ a6).setCell ⟨g,7,none⟩ a7).setCell ⟨g,8,none⟩ a8):=
 below_set (below_set (below_set (below_set (below_set (below_set (below_set (below_set (below_set h hg _) hg _) hg _) hg _) hg _) hg _) hg _) hg _) hg _
set_option maxRecDepth 100000 in
set_option maxHeartbeats 16000000 in
theorem plook_any (v:Value)(S:Bo.Sr)(z:Sen)(A1:Option Addr)(n1 c1:Nat)(A2:Option Addr)(n2 c2:Nat)(A3:Option Addr)(n3 c3:Nat)(A4:Option Addr)(n4 c4:Nat)(w:World)(hs:Bo.SrtIn w v S)(h:SenAt w z A1 n1 c1 A2 n2 c2 A3 n3 c3 A4 n4 c4)(hn:n1≤400):
  Calls Tryz.prog 47 #[v,senV A1 n1 c1 A2 n2 c2 A3 n3 c3 A4 n4 c4] w fun e w'=> ∃(F:Option Addr) (nf cf:Nat) (X:Option Addr) (nx cx:Nat) (V:Option Addr) (nv cv:Nat) (O:Option Addr) (no co:Nat),e= .returned (tdV v A1 n1 c1 A2 n2 c2 A3 n3 c3 A4 n4 c4 F nf cf X nx cx V nv cv O no co)∧TdAt w' S z v A1 n1 c1 A2 n2 c2 A3 n3 c3 A4 n4 c4 F nf cf X nx cx V nv cv∧Rd nmI w' w'.heap.size O no co (oneL S z)∧Below w.heap.size w w':=by
 have HS:=Lib.hid hs
 have HH:=Lib.hid h
 have HN:=Lib.hid hn
 obtain⟨w1,hw1⟩: ∃w1,(w.alloc (.cells #[.slice A1 n1 c1,.slice A2 n2 c2,.slice A3 n3 c3,.slice A4 n4 c4] 28)).alloc (.cells #[.nilIface,.slice none 0 0,.slice none 0 0,.slice none 0 0,.slice none 0 0,.slice none 0 0,.slice none 0 0,.slice none 0 0,.slice none 0 0] 108)=w1:=⟨_,rfl⟩
 have hf:w1.heap[w.heap.size]?=some (.cells #[.slice A1 n1 c1,.slice A2 n2 c2,.slice A3 n3 c3,.slice A4 n4 c4] 28 (0,0))∧w1.heap[w.heap.size+1]?=some (.cells #[.nilIface,.slice none 0 0,.slice none 0 0,.slice none 0 0,.slice none 0 0,.slice none 0 0,.slice none 0 0,.slice none 0 0,.slice none 0 0] 108 (0,0))∧w1.heap.size=w.heap.size+2∧Below w.heap.size w w1:=by
  obtain⟨x,hx⟩: ∃x,w.alloc (.cells #[.slice A1 n1 c1,.slice A2 n2 c2,.slice A3 n3 c3,.slice A4 n4 c4] 28)=x:=⟨_,rfl⟩
  rw[hx] at hw1
  have sx:x.heap.size=w.heap.size+1:=by rw[← hx,World.size_alloc]
  have b0:Below w.heap.size w x:=hx▸(Below.refl _ _).alloc (Nat.le_refl _) _
  have b1:Below x.heap.size x w1:=hw1▸(Below.refl _ _).alloc (Nat.le_refl _) _
  exact⟨(b1.block _ (by omega)).trans (hx▸heap_alloc_new w _),by rw[← sx, ← hw1];exact heap_alloc_new x _,by rw[← hw1,World.size_alloc,sx],b0.trans (b1.mono b0.size)⟩
 obtain⟨k0,k1,s1,b1⟩:=hf
 have HK0:=Lib.hid k0
 have HK1:=Lib.hid k1
 have HS1:=Lib.hid s1
 have HB1:=Lib.hid b1
 have hz0:=ZB.of k0
 have HZ0:=Lib.hid hz0
 clear hs h hn k0 k1 s1 b1
 unfold senV
 go_enter Tryz.func47,Tryz.ntmps47
 go_wp2_with fail
 generalize hwd:World.alloc (World.alloc w _) _=wd'
 obtain rfl:w1=wd':=hw1.symm.trans hwd
 clear hw1 hwd
 go_cut [5] (fun s5 wx=> ∃(bt:Nat) (F:Option Addr) (nf cf:Nat),s5= .pointer (some ⟨bt,0,none⟩)∧LkA z w1 v A1 n1 c1 A2 n2 c2 A3 n3 c3 A4 n4 c4 bt F nf cf wx)
 case first=>
  have hvc:v.cells= #[v]:=by
   rcases HS.out with⟨rfl,-⟩|⟨va,rfl,-⟩|⟨va,rfl,-⟩|⟨rfl,-⟩ <;> rfl
  unfold Value.cells at hvc
  have HVC:=Lib.hid hvc
  clear hvc
  have HOF:=Lib.hid fun W (hW:Below w1.heap.size w1 W)=>rowsOf_any v z A1 n1 c1 A2 n2 c2 A3 n3 c3 A4 n4 c4 W (HH.out.keep (HB1.out.trans (hW.mono HB1.out.size))) HN.out
  have HPL:Hid (z.p.length≤1000):=Lib.hid (by have:=HH.out.rp.len;have:=HN.out;omega)
  unfold senV at HOF
  refine Bo.wp_region_fork [0,1,2,3] 4 6 _ _ [5,6,7] [4,5,7] [4,6,7] 8 (fun W=>ZB W w.heap.size A1 n1 c1 A2 n2 c2 A3 n3 c3 A4 n4 c4) (by kernel_rfl) (by kernel_rfl) rfl rfl rfl rfl (by kernel_rfl) (by kernel_rfl) (by kernel_rfl) (by kernel_rfl) (by kernel_rfl) (by kernel_rfl) (fun _ _ _ _ _ h=>h) ⟨hz0.p0,hz0.p1,hz0.p2,hz0.p3⟩ ?_
  simp only[steps,List.getElem?_cons_zero,List.getElem?_cons_succ]
  clear hz0
  repeat(
   refine Bo.soft_yes (v:= ?_) rfl ?_ ?_
   rotate_left
   (focus(rintro w' ⟨x0,x1,x2,x3⟩;go_simp;try with_reducible rfl))
   simp only[Act.put,List.setIfInBounds_toArray,List.set_cons_zero,List.set_cons_succ])
  have HBD:=Lib.hid ((Below.refl w1.heap.size w1).drew)
  generalize World.drew _=wd at*
  refine Bo.soft_end ⟨?_,?_⟩
  ·go_simp
   refine(HOF.out wd HBD.out).mono ?_
   rintro e w4 ⟨F,nf,cf,rfl,hof⟩
   have HRD:=Lib.hid (hof.rd HPL.out)
   have HB4:=Lib.hid (HBD.out.trans (hof.1.mono HBD.out.size))
   refine⟨HZ0.out.keep HB4.out,?_⟩
   clear hof HBD HOF
   refine ord_yes (v:= .agg #[v,.slice A1 n1 c1,.slice A2 n2 c2,.slice A3 n3 c3,.slice A4 n4 c4,.slice F nf cf,.slice none 0 0,.slice none 0 0,.slice none 0 0]) rfl rfl (fun w' _=>by go_simp;simp[HVC.out]) ?_
   simp only[Act.put,List.setIfInBounds_toArray,List.set_cons_zero,List.set_cons_succ]
   have HAL:=Lib.hid (show Below w4.heap.size w4 (w4.alloc (.cells #[.nilIface,.slice none 0 0,.slice none 0 0,.slice none 0 0,.slice none 0 0,.slice none 0 0,.slice none 0 0,.slice none 0 0,.slice none 0 0] 108)) from(Below.refl _ _).alloc (Nat.le_refl _) _)
   have HKN:=Lib.hid (heap_alloc_new w4 (.cells #[.nilIface,.slice none 0 0,.slice none 0 0,.slice none 0 0,.slice none 0 0,.slice none 0 0,.slice none 0 0,.slice none 0 0,.slice none 0 0] 108))
   have HB5:=Lib.hid (HB4.out.trans (HAL.out.mono HB4.out.size))
   refine ord_hard rfl rfl (fun K hK=> ?_)
   go_simp
   refine hK.out _ _ (fun _=>HZ0.out.keep HB5.out) ?_
   clear hK K
   try simp only[Act.put,List.setIfInBounds_toArray,List.set_cons_zero,List.set_cons_succ]
   generalize w4.alloc (.cells #[.nilIface,.slice none 0 0,.slice none 0 0,.slice none 0 0,.slice none 0 0,.slice none 0 0,.slice none 0 0,.slice none 0 0,.slice none 0 0] 108)=w5 at*
   obtain⟨bt,hbt⟩: ∃b,w4.heap.size=b:=⟨_,rfl⟩
   rw[hbt] at HKN HAL
   try simp only[hbt]
   have HLE:=Lib.hid (show w1.heap.size≤bt by rw[← hbt];exact HB4.out.size)
   have HBX:=HB5
   have e0:w5.cell? ⟨bt,0,none⟩=some (.nilIface):=(cell_blk (i:=0) HKN.out).trans rfl
   have e1:w5.cell? ⟨bt,1,none⟩=some (.slice none 0 0):=(cell_blk (i:=1) HKN.out).trans rfl
   have e2:w5.cell? ⟨bt,2,none⟩=some (.slice none 0 0):=(cell_blk (i:=2) HKN.out).trans rfl
   have e3:w5.cell? ⟨bt,3,none⟩=some (.slice none 0 0):=(cell_blk (i:=3) HKN.out).trans rfl
   have e4:w5.cell? ⟨bt,4,none⟩=some (.slice none 0 0):=(cell_blk (i:=4) HKN.out).trans rfl
   have e5:w5.cell? ⟨bt,5,none⟩=some (.slice none 0 0):=(cell_blk (i:=5) HKN.out).trans rfl
   have e6:w5.cell? ⟨bt,6,none⟩=some (.slice none 0 0):=(cell_blk (i:=6) HKN.out).trans rfl
   have e7:w5.cell? ⟨bt,7,none⟩=some (.slice none 0 0):=(cell_blk (i:=7) HKN.out).trans rfl
   have e8:w5.cell? ⟨bt,8,none⟩=some (.slice none 0 0):=(cell_blk (i:=8) HKN.out).trans rfl
   have f0:w5.frozen? ⟨bt,0,none⟩=false:=frozen_blk HKN.out
   have f1:w5.frozen? ⟨bt,1,none⟩=false:=frozen_blk HKN.out
   have f2:w5.frozen? ⟨bt,2,none⟩=false:=frozen_blk HKN.out
   have f3:w5.frozen? ⟨bt,3,none⟩=false:=frozen_blk HKN.out
   have f4:w5.frozen? ⟨bt,4,none⟩=false:=frozen_blk HKN.out
   have f5:w5.frozen? ⟨bt,5,none⟩=false:=frozen_blk HKN.out
   have f6:w5.frozen? ⟨bt,6,none⟩=false:=frozen_blk HKN.out
   have f7:w5.frozen? ⟨bt,7,none⟩=false:=frozen_blk HKN.out
   have f8:w5.frozen? ⟨bt,8,none⟩=false:=frozen_blk HKN.out
   obtain⟨w6,hw6⟩: ∃w6,(((((((((w5).setCell ⟨bt,0,none⟩ (v)).setCell ⟨bt,1,none⟩ (.slice A1 n1 c1)).setCell ⟨bt,2,none⟩ (.slice A2 n2 c2)).setCell ⟨bt,3,none⟩ (.slice A3 n3 c3)).setCell ⟨bt,4,none⟩ (.slice A4 n4 c4)).setCell ⟨bt,5,none⟩ (.slice F nf cf)).setCell ⟨bt,6,none⟩ (.slice none 0 0)).setCell ⟨bt,7,none⟩ (.slice none 0 0)).setCell ⟨bt,8,none⟩ (.slice none 0 0)=w6:=⟨_,rfl⟩
   have HKT:Hid (w6.heap[bt]?=some (.cells #[v,.slice A1 n1 c1,.slice A2 n2 c2,.slice A3 n3 c3,.slice A4 n4 c4,.slice F nf cf,.slice none 0 0,.slice none 0 0,.slice none 0 0] 108 (0,0))):=Lib.hid (by rw[← hw6];exact box9 HKN.out _ _ _ _ _ _ _ _ _)
   have HB65:Hid (Below bt w5 w6):=Lib.hid (by rw[← hw6];exact bel9 (Below.refl _ _) (Nat.le_refl _) _ _ _ _ _ _ _ _ _)
   have HBT:Hid (w1.heap.size≤bt):=Lib.hid HLE.out
   have HB6:Hid (Below w1.heap.size w1 w6):=Lib.hid (HBX.out.trans (HB65.out.mono HBT.out))
   have hsv:=store_v HS.out e0 f0
   refine ord_hard rfl rfl (fun K hK=> ?_)
   go_simp
   generalize hwq:World.setCell (World.setCell (World.setCell (World.setCell (World.setCell (World.setCell (World.setCell (World.setCell (World.setCell _ _ _) _ _) _ _) _ _) _ _) _ _) _ _) _ _) _ _=wq
   obtain rfl:w6=wq:=hw6.symm.trans hwq
   clear hwq
   refine hK.out _ _ (fun _=>HZ0.out.keep HB6.out) ?_
   have HW6:=Lib.hid hw6
   clear hK K e0 e1 e2 e3 e4 e5 e6 e7 e8 f0 f1 f2 f3 f4 f5 f6 f7 f8 hw6 hsv
   try simp only[Act.put,List.setIfInBounds_toArray,List.set_cons_zero,List.set_cons_succ]
   refine ord_end ?_
   have HRD5:=Lib.hid ((HRD.out.below (by rw[hbt];exact HAL.out)).mono HAL.out.size)
   have HRD6:=Lib.hid (rd_move (w':=w6) HRD5.out HB65.out.size fun b o e h1 h2=>HB65.out.block b (by
    obtain⟨b',o',e',hlt,-⟩:=HRD.out.spot h1
    rw[e] at e'
    injection e' with e'
    injection e' with e1 e2
    subst e1
    omega))
   clear hbt
   go_wp2_with fail
   go_meet
   exact⟨bt,F,nf,cf,rfl,HB6.out,HKT.out,HLE.out,HRD6.out⟩
  ·go_simp
   have HAL:=Lib.hid (show Below wd.heap.size wd (wd.alloc (.cells #[.nilIface,.slice none 0 0,.slice none 0 0,.slice none 0 0,.slice none 0 0,.slice none 0 0,.slice none 0 0,.slice none 0 0,.slice none 0 0] 108)) from(Below.refl _ _).alloc (Nat.le_refl _) _)
   have HKN:=Lib.hid (heap_alloc_new wd (.cells #[.nilIface,.slice none 0 0,.slice none 0 0,.slice none 0 0,.slice none 0 0,.slice none 0 0,.slice none 0 0,.slice none 0 0,.slice none 0 0] 108))
   have HB5:=Lib.hid (HBD.out.trans (HAL.out.mono HBD.out.size))
   refine⟨HZ0.out.keep HB5.out,?_⟩
   try simp only[Act.put,List.setIfInBounds_toArray,List.set_cons_zero,List.set_cons_succ]
   generalize wd.alloc (.cells #[.nilIface,.slice none 0 0,.slice none 0 0,.slice none 0 0,.slice none 0 0,.slice none 0 0,.slice none 0 0,.slice none 0 0,.slice none 0 0] 108)=w5 at*
   obtain⟨bt,hbt⟩: ∃b,wd.heap.size=b:=⟨_,rfl⟩
   rw[hbt] at HKN HAL
   try simp only[hbt]
   have HLE:=Lib.hid (show w1.heap.size≤bt by rw[← hbt];exact HBD.out.size)
   have HBTL:=Lib.hid (lt_blk HKN.out)
   repeat(first
    |(refine ord_no rfl ?_;simp only[Act.put,List.setIfInBounds_toArray,List.set_cons_zero,List.set_cons_succ])
    |(refine ord_yes (v:= ?_) rfl rfl ?_ ?_;rotate_left;(focus(rintro w' ⟨x0,x1,x2,x3⟩;go_simp;try with_reducible rfl));simp only[Act.put,List.setIfInBounds_toArray,List.set_cons_zero,List.set_cons_succ]))
   refine ord_hard rfl rfl (fun K hK=> ?_)
   go_simp
   refine(HOF.out w5 HB5.out).mono ?_
   rintro e w7 ⟨F,nf,cf,rfl,hof⟩
   have HRD:=Lib.hid (hof.rd HPL.out)
   have HBX:=Lib.hid (HB5.out.trans (hof.1.mono HB5.out.size))
   have HKN7:=Lib.hid ((hof.1.block bt HBTL.out).trans HKN.out)
   refine hK.out _ _ (fun _=>HZ0.out.keep HBX.out) ?_
   clear hK K HKN hof HOF hbt
   try simp only[Act.put,List.setIfInBounds_toArray,List.set_cons_zero,List.set_cons_succ]
   refine ord_yes (v:= .agg #[v,.slice A1 n1 c1,.slice A2 n2 c2,.slice A3 n3 c3,.slice A4 n4 c4,.slice F nf cf,.slice none 0 0,.slice none 0 0,.slice none 0 0]) rfl rfl (fun w' _=>by go_simp;simp[HVC.out]) ?_
   simp only[Act.put,List.setIfInBounds_toArray,List.set_cons_zero,List.set_cons_succ]
   have HKN:=HKN7
   have HNE:Hid (∀b o,F=some ⟨b,o,none⟩→0 < nf→b≠bt):=Lib.hid fun b o e h1=>rd_ne HRD.out HKN.out (fun i x=>nil_no _ (fun e=>by cases e) (fun _ _ _ e=>by cases e) i) e h1
   have e0:w7.cell? ⟨bt,0,none⟩=some (.nilIface):=(cell_blk (i:=0) HKN.out).trans rfl
   have e1:w7.cell? ⟨bt,1,none⟩=some (.slice none 0 0):=(cell_blk (i:=1) HKN.out).trans rfl
   have e2:w7.cell? ⟨bt,2,none⟩=some (.slice none 0 0):=(cell_blk (i:=2) HKN.out).trans rfl
   have e3:w7.cell? ⟨bt,3,none⟩=some (.slice none 0 0):=(cell_blk (i:=3) HKN.out).trans rfl
   have e4:w7.cell? ⟨bt,4,none⟩=some (.slice none 0 0):=(cell_blk (i:=4) HKN.out).trans rfl
   have e5:w7.cell? ⟨bt,5,none⟩=some (.slice none 0 0):=(cell_blk (i:=5) HKN.out).trans rfl
   have e6:w7.cell? ⟨bt,6,none⟩=some (.slice none 0 0):=(cell_blk (i:=6) HKN.out).trans rfl
   have e7:w7.cell? ⟨bt,7,none⟩=some (.slice none 0 0):=(cell_blk (i:=7) HKN.out).trans rfl
   have e8:w7.cell? ⟨bt,8,none⟩=some (.slice none 0 0):=(cell_blk (i:=8) HKN.out).trans rfl
   have f0:w7.frozen? ⟨bt,0,none⟩=false:=frozen_blk HKN.out
   have f1:w7.frozen? ⟨bt,1,none⟩=false:=frozen_blk HKN.out
   have f2:w7.frozen? ⟨bt,2,none⟩=false:=frozen_blk HKN.out
   have f3:w7.frozen? ⟨bt,3,none⟩=false:=frozen_blk HKN.out
   have f4:w7.frozen? ⟨bt,4,none⟩=false:=frozen_blk HKN.out
   have f5:w7.frozen? ⟨bt,5,none⟩=false:=frozen_blk HKN.out
   have f6:w7.frozen? ⟨bt,6,none⟩=false:=frozen_blk HKN.out
   have f7:w7.frozen? ⟨bt,7,none⟩=false:=frozen_blk HKN.out
   have f8:w7.frozen? ⟨bt,8,none⟩=false:=frozen_blk HKN.out
   obtain⟨w6,hw6⟩: ∃w6,(((((((((w7).setCell ⟨bt,0,none⟩ (v)).setCell ⟨bt,1,none⟩ (.slice A1 n1 c1)).setCell ⟨bt,2,none⟩ (.slice A2 n2 c2)).setCell ⟨bt,3,none⟩ (.slice A3 n3 c3)).setCell ⟨bt,4,none⟩ (.slice A4 n4 c4)).setCell ⟨bt,5,none⟩ (.slice F nf cf)).setCell ⟨bt,6,none⟩ (.slice none 0 0)).setCell ⟨bt,7,none⟩ (.slice none 0 0)).setCell ⟨bt,8,none⟩ (.slice none 0 0)=w6:=⟨_,rfl⟩
   have HKT:Hid (w6.heap[bt]?=some (.cells #[v,.slice A1 n1 c1,.slice A2 n2 c2,.slice A3 n3 c3,.slice A4 n4 c4,.slice F nf cf,.slice none 0 0,.slice none 0 0,.slice none 0 0] 108 (0,0))):=Lib.hid (by rw[← hw6];exact box9 HKN.out _ _ _ _ _ _ _ _ _)
   have HB65:Hid (Below bt w7 w6):=Lib.hid (by rw[← hw6];exact bel9 (Below.refl _ _) (Nat.le_refl _) _ _ _ _ _ _ _ _ _)
   have HBT:Hid (w1.heap.size≤bt):=Lib.hid HLE.out
   have HB6:Hid (Below w1.heap.size w1 w6):=Lib.hid (HBX.out.trans (HB65.out.mono HBT.out))
   have hsv:=store_v HS.out e0 f0
   refine ord_hard rfl rfl (fun K hK=> ?_)
   go_simp
   generalize hwq:World.setCell (World.setCell (World.setCell (World.setCell (World.setCell (World.setCell (World.setCell (World.setCell (World.setCell _ _ _) _ _) _ _) _ _) _ _) _ _) _ _) _ _) _ _=wq
   obtain rfl:w6=wq:=hw6.symm.trans hwq
   clear hwq
   refine hK.out _ _ (fun _=>HZ0.out.keep HB6.out) ?_
   have HW6:=Lib.hid hw6
   clear hK K e0 e1 e2 e3 e4 e5 e6 e7 e8 f0 f1 f2 f3 f4 f5 f6 f7 f8 hw6 hsv
   try simp only[Act.put,List.setIfInBounds_toArray,List.set_cons_zero,List.set_cons_succ]
   refine ord_end ?_
   have HRD6:=Lib.hid (rd_move (w':=w6) HRD.out HB65.out.size fun b o e h1 h2=>by
    have hne:=HNE.out b o e h1
    rw[← HW6.out]
    have off:=fun (W:World) (k:Nat) (u:Value)=>Below.heap_setCell W ⟨bt,k,none⟩ u b hne
    rw[off,off,off,off,off,off,off,off,off])
   go_wp2_with fail
   go_meet
   exact⟨bt,F,nf,cf,rfl,HB6.out,HKT.out,HLE.out,HRD6.out⟩
 obtain⟨bt,F,nf,cf,rfl,hA⟩:=hcut
 have HA:=Lib.hid hA
 have HBC:Hid (Below w.heap.size w wc):=Lib.hid (HB1.out.trans (hA.b.mono HB1.out.size))
 have hz:=HZ0.out.keep hA.b
 have z0:=hz.p0
 have z1:=hz.p1
 have z2:=hz.p2
 have z3:=hz.p3
 have HFX:=Lib.hid (fixed_any v S z A1 n1 c1 A2 n2 c2 A3 n3 c3 A4 n4 c4 wc (HS.out.keep HBC.out) (HH.out.keep HBC.out) (by have:=HN.out;omega))
 unfold senV at HFX
 clear hA hz hz0
 go_wp2_with fail
 refine HFX.out.mono ?_
 rintro e w5 ⟨X,nx,cx,V,nv,cv,rfl,hfx⟩
 have hrd:=hfx.rd (by have:=HH.out.rp.len;have:=HN.out;omega)
 have HRX:=Lib.hid hrd.1
 have HRV:=Lib.hid hrd.2
 have HB5:Hid (Below w1.heap.size w1 w5):=Lib.hid (HA.out.b.trans (hfx.1.mono HA.out.b.size))
 have HB55:=Lib.hid hfx.1
 have HT5:=Lib.hid ((hfx.1.block _ (lt_blk HA.out.t)).trans HA.out.t)
 have e5:=(cell_blk (i:=5) HT5.out).trans rfl
 have e6:=(cell_blk (i:=6) HT5.out).trans rfl
 have e7:=(cell_blk (i:=7) HT5.out).trans rfl
 have f6:w5.frozen? ⟨bt,6,none⟩=false:=frozen_blk HT5.out
 have f7:w5.frozen? ⟨bt,7,none⟩=false:=frozen_blk HT5.out
 have HT6':Hid (((w5.setCell ⟨bt,6,none⟩ (.slice X nx cx)).setCell ⟨bt,7,none⟩ (.slice V nv cv)).heap[bt]?=some (.cells #[v,.slice A1 n1 c1,.slice A2 n2 c2,.slice A3 n3 c3,.slice A4 n4 c4,.slice F nf cf,.slice X nx cx,.slice V nv cv,.slice none 0 0] 108 (0,0))):=Lib.hid (by
  have:=set_blk (i:=7) (set_blk (i:=6) HT5.out (.slice X nx cx)) (.slice V nv cv)
  rw[this]
  simp)
 have y5:((w5.setCell ⟨bt,6,none⟩ (.slice X nx cx)).setCell ⟨bt,7,none⟩ (.slice V nv cv)).cell? ⟨bt,5,none⟩=some (.slice F nf cf):=(cell_blk (i:=5) HT6'.out).trans rfl
 clear z0 z1 z2 z3 hrd hfx HFX
 go_wp2_with fail
 obtain⟨w6,hw6⟩: ∃w6,(w5.setCell ⟨bt,6,none⟩ (.slice X nx cx)).setCell ⟨bt,7,none⟩ (.slice V nv cv)=w6:=⟨_,rfl⟩
 rw[hw6] at HT6' ⊢
 have OFF6:Hid (∀b,b≠bt→w6.heap[b]?=w5.heap[b]?):=Lib.hid fun b hb=>by
  rw[← hw6]
  exact(Below.heap_setCell _ ⟨bt,7,none⟩ _ b hb).trans (Below.heap_setCell _ ⟨bt,6,none⟩ _ b hb)
 have HSZ6:Hid (w5.heap.size≤w6.heap.size):=Lib.hid (by rw[← hw6];exact((bel2 (Below.refl bt w5) (Nat.le_refl _) 6 7 _ _)).size)
 have HB6:Hid (Below w1.heap.size w1 w6):=Lib.hid (by rw[← hw6];exact bel2 HB5.out HA.out.le 6 7 _ _)
 have HT6:=HT6'
 have NXF:Hid (∀b o,F=some ⟨b,o,none⟩→0 < nf→b≠bt):=Lib.hid fun b o e h1=>rd_ne HA.out.f HA.out.t (nine_no HS.out).1 e h1
 have NXX:Hid (∀b o,X=some ⟨b,o,none⟩→0 < nx→b≠bt):=Lib.hid fun b o e h1=>rd_ne HRX.out HT5.out (nine_no HS.out).2.1 e h1
 have NXV:Hid (∀b o,V=some ⟨b,o,none⟩→0 < nv→b≠bt):=Lib.hid fun b o e h1=>rd_ne HRV.out HT5.out (nine_no HS.out).2.2 e h1
 have HRF5:Hid (Rd nmI w5 w5.heap.size F nf cf (alF z)):=Lib.hid ((HA.out.f.below HB55.out).mono HB55.out.size)
 have HF6:=Lib.hid (rd_move (w':=w6) HRF5.out HSZ6.out fun b o e h1 _=>OFF6.out b (NXF.out b o e h1))
 have HX6:=Lib.hid (rd_move (w':=w6) HRX.out HSZ6.out fun b o e h1 _=>OFF6.out b (NXX.out b o e h1))
 have HV6:=Lib.hid (rd_move (w':=w6) HRV.out HSZ6.out fun b o e h1 _=>OFF6.out b (NXV.out b o e h1))
 have HKR:=Lib.hid ((HB6.out.block (w.heap.size+1) (by have:=HS1.out;omega)).trans HK1.out)
 have NRF:Hid (∀b o,F=some ⟨b,o,none⟩→0 < nf→b≠w.heap.size+1):=Lib.hid fun b o e h1=>rd_ne HF6.out HKR.out (fun i x=>nil_no _ (fun e=>by cases e) (fun _ _ _ e=>by cases e) i) e h1
 have NRX:Hid (∀b o,X=some ⟨b,o,none⟩→0 < nx→b≠w.heap.size+1):=Lib.hid fun b o e h1=>rd_ne HX6.out HKR.out (fun i x=>nil_no _ (fun e=>by cases e) (fun _ _ _ e=>by cases e) i) e h1
 have NRV:Hid (∀b o,V=some ⟨b,o,none⟩→0 < nv→b≠w.heap.size+1):=Lib.hid fun b o e h1=>rd_ne HV6.out HKR.out (fun i x=>nil_no _ (fun e=>by cases e) (fun _ _ _ e=>by cases e) i) e h1
 have HLT:Hid (bt < w6.heap.size∧w1.heap.size≤bt):=Lib.hid ⟨lt_blk HT6.out,HA.out.le⟩
 have HNF:Hid (nf=lim z):=Lib.hid (by have:=HF6.out.len;rw[al_lim] at this;exact this.symm)
 have HLIM:Hid (lim z≤400):=Lib.hid (by
  have h1:=HH.out.rp.len
  have h2:=HN.out
  unfold lim
  split <;> omega)
 clear hw6 y5 e5 e6 e7 f6 f7 HT5 HA HB55 HRF5 HRX HRV OFF6 HSZ6 HB5
 go_loopw [27] (fun v27 wr=> ∃(i:Nat) (O:Option Addr) (no co:Nat),v27= .int .i64 (i:Int)∧i≤nf∧LkB w6 bt v A1 n1 c1 A2 n2 c2 A3 n3 c3 A4 n4 c4 F nf cf X nx cx V nv cv i O no co wr) (fun v27 _=>nf - (intOf v27).toNat)
 case atStart=>exact⟨0,none,0,0,rfl,Nat.zero_le _,HT6.out,World.ownsRow_nil _ _ _ _,Kept.refl _ _⟩
 case round=>
  obtain⟨i,O,no,co,rfl,hi,hB⟩:=hrel
  have HB:=Lib.hid hB
  by_cases hlt:i < nf
  ·have y8:=(cell_blk (i:=8) hB.t).trans rfl
   have HO:=Lib.hid (one_i wr i)
   have HAL:=Lib.hid (show Below wr.heap.size wr (wr.alloc (.cells #[.int .i64 (i:Int)] 3)) from(Below.refl _ _).alloc (Nat.le_refl _) _)
   have HW:=Lib.hid (own_behind hB.o HAL.out)
   have hN1:no+1≤100000:=by
    have h1:=rs_own_len en3_len (by decide) hB.o
    rw[RL_len] at h1
    have:=HNF.out
    have:=HLIM.out
    omega
   have hsz2:w6.heap.size≤(wr.alloc (.cells #[.int .i64 (i:Int)] 3)).heap.size:=Nat.le_trans hB.k.size HAL.out.size
   have HLTI:=Lib.hid hlt
   have hin:(i:Int) < (nf:Int):=by omega
   have hi9:i≤60000:=by have:=HNF.out;have:=HLIM.out;omega
   have HKP:Hid (∀(w':World) (A':Option Addr) (k' c':Nat),Appended (wr.alloc (.cells #[.int .i64 (i:Int)] 3)) w' w6.heap.size 3 1 (.slice O no co) (.slice A' k' c') k' ((RL i id++ [i]).flatMap en3)→w'.heap[bt]?=some (.cells #[v,.slice A1 n1 c1,.slice A2 n2 c2,.slice A3 n3 c3,.slice A4 n4 c4,.slice F nf cf,.slice X nx cx,.slice V nv cv,.slice O no co] 108 (0,0))∧Kept (· =bt) w6 w'):=Lib.hid fun w' A' k' c' ha=>by
    have hb2:Below w6.heap.size wr w':=(HAL.out.mono hB.k.size).grown ha.grown hsz2 fun j hj=>(HW.out.lt j hj).1
    exact⟨(hb2.block bt HLT.out.1).trans hB.t,Kept.then_below hB.k hb2⟩
   clear hi hlt hB
   go_wp2_with (at_builtin;refine wpList_append_rs en3_len (by decide) en3_one Tryz.underlying82 en3_inf rfl (by decide) rfl (.tmp 31) (.tmp 33) rfl w6.heap.size _ no _ rfl HW.out _ _ 1 1 [i] rfl HO.out hN1 hsz2 ?_;intro A' k' c' w' HK HA;have d8:w'.cell? ⟨bt,8,none⟩=some (.slice O no co):=(cell_blk (i:=8) (HKP.out w' A' k' c' HA.out).1).trans rfl;have q8:w'.frozen? ⟨bt,8,none⟩=false:=frozen_blk (HKP.out w' A' k' c' HA.out).1)
   go_roundw
   case rel=>exact⟨i+1,A',k',c',by go_num,HLTI.out,by
    have:=set_blk (i:=8) (HKP.out w' A' k' c' HA.out).1 (.slice A' k' c')
    rw[this]
    simp,own_same (by rw[RL_next];exact HA.out.own) fun q hq=>Below.heap_setCell _ ⟨bt,8,none⟩ _ q (by
     have:=(HA.out.own.lt q hq).1
     have:=HLT.out.1
     show q≠bt
     omega),(HKP.out w' A' k' c' HA.out).2.setCell (p:=⟨bt,8,none⟩) (.inl rfl) _⟩
   case measure=>
    have:=HLTI.out
    simp[intOf]
    omega
  ·obtain rfl:nf=i:=by omega
   obtain⟨w8,rfl⟩: ∃w8,w8=wr:=⟨_,rfl⟩
   have HOB:Hid (∀q,OD O no co q→w6.heap.size≤q∧q < w8.heap.size):=Lib.hid fun q e=>hB.o.lt q e
   have HTX:Hid (∀W,Kept (OD O no co) w8 W→TBx W bt v A1 n1 c1 A2 n2 c2 A3 n3 c3 A4 n4 c4 F nf cf X nx cx V nv cv O no co):=Lib.hid fun W hW=>TBx.of ((hW.block bt (lt_blk HB.out.t) fun e=>by have:=(HOB.out bt e).1;have:=HLT.out.1;omega).trans HB.out.t)
   have HTD:Hid (∀W,Kept (fun b=>OD O no co b∨b=w.heap.size+1) w8 W→TdAt W S z v A1 n1 c1 A2 n2 c2 A3 n3 c3 A4 n4 c4 F nf cf X nx cx V nv cv):=Lib.hid fun W hW=>by
    have h1:=HS1.out
    have hb:Below w.heap.size w W:=by
     have b1:Below w.heap.size w w6:=HB1.out.trans (HB6.out.mono HB1.out.size)
     have b2:Below w.heap.size w6 w8:=HB.out.k.below b1.size fun b e=>by have:=HLT.out;omega
     have b3:Below w.heap.size w8 W:=hW.below (Nat.le_trans b1.size HB.out.k.size) fun b e=>e.elim (fun e=>Nat.le_trans b1.size (HOB.out b e).1) fun e=>by omega
     exact b1.trans (b2.trans b3)
    have off: ∀b,b < w6.heap.size→b≠bt→b≠w.heap.size+1→W.heap[b]?=w6.heap[b]?:=fun b h1 h2 h3=>
     (hW.block b (Nat.lt_of_lt_of_le h1 HB.out.k.size) fun e=>e.elim (fun e=>by have:=(HOB.out b e).1;omega) h3).trans (HB.out.k.block b h1 h2)
    have hsz:w6.heap.size≤W.heap.size:=Nat.le_trans HB.out.k.size hW.size
    exact⟨HS.out.keep hb,HH.out.keep hb,rd_move HF6.out hsz fun b o e h1 h2=>off b h2 (NXF.out b o e h1) (NRF.out b o e h1),rd_move HX6.out hsz fun b o e h1 h2=>off b h2 (NXX.out b o e h1) (NRX.out b o e h1),rd_move HV6.out hsz fun b o e h1 h2=>off b h2 (NXV.out b o e h1) (NRV.out b o e h1),HN.out⟩
   have HTDK:Hid (∀W,Kept (OD O no co) w8 W→TdAt W S z v A1 n1 c1 A2 n2 c2 A3 n3 c3 A4 n4 c4 F nf cf X nx cx V nv cv):=Lib.hid fun W hW=>HTD.out W (hW.mono fun b e=> .inl e)
   have HO8:Hid (w8.ownsRow w6.heap.size 3 1 (.slice O no co) no ((RL (lim z) id).flatMap en3)):=Lib.hid (by rw[← HNF.out];exact hB.o)
   have HLL1:Hid ((RL (lim z) id).length=lim z):=Lib.hid (RL_len _ _)
   have HLL0:Hid ((stA (tkO z) (clsL S z 2) (RL (lim z) id) (clsL S z 1)).length=lim z):=Lib.hid (by rw[stA_len,RL_len])
   have HC2:=Lib.hid (classes_any 2 S z v A1 n1 c1 A2 n2 c2 A3 n3 c3 A4 n4 c4 F nf cf X nx cx V nv cv O no co w8 (HTDK.out w8 (Kept.refl _ _)))
   unfold tdV at HC2
   have hx:=HTX.out w8 (Kept.refl _ _)
   have y0:=hx.p0
   have y1:=hx.p1
   have y2:=hx.p2
   have y3:=hx.p3
   have y4:=hx.p4
   have y5:=hx.p5
   have y6:=hx.p6
   have y7:=hx.p7
   have y8:=hx.p8
   clear hi hB hlt
   go_wp2_with fail
   refine HC2.out.mono ?_
   rintro e w9 ⟨C2,m2,k2,rfl,hc,hv⟩
   have HOC2:=Lib.hid hc
   have HKw9:Hid (Kept (OD O no co) w8 w9):=Lib.hid (Kept.of_below hv)
   have HOw9:=Lib.hid (own_behind HO8.out hv)
   clear hc hv HC2
   clear hx y0 y1 y2 y3 y4 y5 y6 y7 y8
   have hx:=HTX.out w9 HKw9.out
   go_wp2_with fail
   refine wp_region_ord [0,1,3,4,5,2,6,7] [2,6] 8 (fun W=>TBx W bt v A1 n1 c1 A2 n2 c2 A3 n3 c3 A4 n4 c4 F nf cf X nx cx V nv cv O no co) (by kernel_rfl) (by kernel_rfl) (by kernel_rfl) (by kernel_rfl) (fun _ _ _ _ _ h=>h) ⟨hx.p0,hx.p1,hx.p2,hx.p3,hx.p4,hx.p5,hx.p6,hx.p7,hx.p8⟩ ?_
   simp only[steps,List.getElem?_cons_zero,List.getElem?_cons_succ]
   clear hx
   repeat(first
    |(refine ord_no rfl ?_;simp only[Act.put,List.setIfInBounds_toArray,List.set_cons_zero,List.set_cons_succ])
    |(refine ord_yes (v:= ?_) rfl rfl ?_ ?_;rotate_left;(focus(rintro w' ⟨x0,x1,x2,x3,x4,x5,x6,x7,x8⟩;go_simp;try with_reducible rfl));simp only[Act.put,List.setIfInBounds_toArray,List.set_cons_zero,List.set_cons_succ]))
   have HBdw9:=Lib.hid ((Below.refl w9.heap.size w9).drew)
   have HKwd9:Hid (Kept (OD O no co) w8 (World.drew w9)):=Lib.hid (HKw9.out.trans (Kept.of_below HBdw9.out))
   generalize World.drew w9=wd9 at*
   have HC1:=Lib.hid (classes_any 1 S z v A1 n1 c1 A2 n2 c2 A3 n3 c3 A4 n4 c4 F nf cf X nx cx V nv cv O no co wd9 (HTDK.out wd9 HKwd9.out))
   unfold tdV at HC1
   refine ord_hard rfl rfl (fun K hK=> ?_)
   go_simp
   refine HC1.out.mono ?_
   rintro e w10 ⟨C1,m1,k1,rfl,hc,hv⟩
   have HOC1:=Lib.hid hc
   have HBdw10:=Lib.hid hv
   have HKw10:=Lib.hid (HKwd9.out.trans (Kept.of_below hv))
   refine hK.out _ _ (fun _=>HTX.out w10 HKw10.out) ?_
   clear hK K HC1 hc hv
   try simp only[Act.put,List.setIfInBounds_toArray,List.set_cons_zero,List.set_cons_succ]
   have HOw10:Hid (w10.ownsRow w6.heap.size 3 1 (.slice O no co) no ((RL (lim z) id).flatMap en3)):=Lib.hid (own_behind (own_behind HOw9.out HBdw9.out) HBdw10.out)
   have HNBw10:Hid (∀b,w8.heap.size≤b→ ¬OD O no co b):=Lib.hid fun b hb hd=>by have:=(HOB.out b hd).2;omega
   have HR2w10:Hid (w10.ownsRow w8.heap.size 3 1 (.slice C2 m2 k2) m2 ((clsL S z 2).flatMap en3)):=Lib.hid (own_same HOC2.out fun q hq=>by
    have h1:=(HOC2.out.lt q hq)
    exact(Kept.of_below ((HBdw9.out).trans (HBdw10.out.mono HBdw9.out.size)):Kept (OD O no co) w9 w10).block q h1.2 (HNBw10.out q h1.1))
   have HM1:=Lib.hid (callsIn_wide.1 (merge_wide88 w6.heap.size (tkO z) v A1 n1 c1 A2 n2 c2 A3 n3 c3 A4 n4 c4 F nf cf X nx cx V nv cv O no co C1 m1 k1 C2 m2 k2 (clsL S z 1) (clsL S z 2) (RL (lim z) id) w10 HOw10.out (own_rdI HOC1.out)
    (fun b o e=>by
     subst e
     exact HNBw10.out b (Nat.le_trans HKwd9.out.size (row_at HOC1.out).1))
    (own_rdI HR2w10.out)
    (fun b o e=>by
     subst e
     exact HNBw10.out b (row_at HR2w10.out).1)
    (fun x hx=>by rw[HLL1.out];exact cls_lim hx) (fun x hx=>by have:=cls_lim hx;have:=HLIM.out;omega)
    (by rw[← rs_own_len en3_len (by decide) HOC1.out];exact Nat.le_trans (clsI_le S z 1 _) HLIM.out)
    (by rw[← rs_own_len en3_len (by decide) HOC2.out];exact Nat.le_trans (clsI_le S z 2 _) HLIM.out) (by rw[HLL1.out];exact HLIM.out)
    (fun x _=>⟨hg_fit HH.out x,by show(pk _ _).size≤maxLen;rw[pk_size];have:=HH.out.rp.len;have:=HN.out;unfold maxLen;omega⟩)
    (fun W hW x hx=>beyond_any x S z v A1 n1 c1 A2 n2 c2 A3 n3 c3 A4 n4 c4 F nf cf X nx cx V nv cv O no co W (HTDK.out W (HKw10.out.trans hW)) (hx.elim cls_lim cls_lim))))
   unfold tdV at HM1
   refine ord_hard rfl rfl (fun K hK=> ?_)
   go_simp
   refine HM1.out.mono ?_
   rintro e w11 ⟨O1,j1,l1,rfl,ho,hl,hk⟩
   have HOT1:=Lib.hid ho
   have HOw11:=Lib.hid hl
   have HK911:Hid (Kept (OD O no co) w9 w11):=Lib.hid (((Kept.of_below (HBdw9.out.trans (HBdw10.out.mono HBdw9.out.size)):Kept (OD O no co) w9 w10)).trans hk)
   have HKw11:Hid (Kept (OD O no co) w8 w11):=Lib.hid (HKw10.out.trans hk)
   have HSZw11:Hid (w8.heap.size≤w10.heap.size):=Lib.hid HKw10.out.size
   refine hK.out _ _ (fun _=>HTX.out w11 HKw11.out) ?_
   clear hK K HM1 ho hl hk
   try simp only[Act.put,List.setIfInBounds_toArray,List.set_cons_zero,List.set_cons_succ]
   repeat(first
    |(refine ord_no rfl ?_;simp only[Act.put,List.setIfInBounds_toArray,List.set_cons_zero,List.set_cons_succ])
    |(refine ord_yes (v:= ?_) rfl rfl ?_ ?_;rotate_left;(focus(rintro w' ⟨x0,x1,x2,x3,x4,x5,x6,x7,x8⟩;go_simp;try with_reducible rfl));simp only[Act.put,List.setIfInBounds_toArray,List.set_cons_zero,List.set_cons_succ]))
   refine ord_end ?_
   have hx:=HTX.out w11 HKw11.out
   go_wp2_with fail
   refine wp_region_ord [0,1,3,4,5,2,6,7] [2,6] 8 (fun W=>TBx W bt v A1 n1 c1 A2 n2 c2 A3 n3 c3 A4 n4 c4 F nf cf X nx cx V nv cv O no co) (by kernel_rfl) (by kernel_rfl) (by kernel_rfl) (by kernel_rfl) (fun _ _ _ _ _ h=>h) ⟨hx.p0,hx.p1,hx.p2,hx.p3,hx.p4,hx.p5,hx.p6,hx.p7,hx.p8⟩ ?_
   simp only[steps,List.getElem?_cons_zero,List.getElem?_cons_succ]
   clear hx
   repeat(first
    |(refine ord_no rfl ?_;simp only[Act.put,List.setIfInBounds_toArray,List.set_cons_zero,List.set_cons_succ])
    |(refine ord_yes (v:= ?_) rfl rfl ?_ ?_;rotate_left;(focus(rintro w' ⟨x0,x1,x2,x3,x4,x5,x6,x7,x8⟩;go_simp;try with_reducible rfl));simp only[Act.put,List.setIfInBounds_toArray,List.set_cons_zero,List.set_cons_succ]))
   have HBdw11:=Lib.hid ((Below.refl w11.heap.size w11).drew)
   have HKwd11:Hid (Kept (OD O no co) w8 (World.drew w11)):=Lib.hid (HKw11.out.trans (Kept.of_below HBdw11.out))
   generalize World.drew w11=wd11 at*
   have HC0:=Lib.hid (classes_any 0 S z v A1 n1 c1 A2 n2 c2 A3 n3 c3 A4 n4 c4 F nf cf X nx cx V nv cv O no co wd11 (HTDK.out wd11 HKwd11.out))
   unfold tdV at HC0
   refine ord_hard rfl rfl (fun K hK=> ?_)
   go_simp
   refine HC0.out.mono ?_
   rintro e w12 ⟨C0,m0,k0,rfl,hc,hv⟩
   have HOC0:=Lib.hid hc
   have HBdw12:=Lib.hid hv
   have HKw12:=Lib.hid (HKwd11.out.trans (Kept.of_below hv))
   refine hK.out _ _ (fun _=>HTX.out w12 HKw12.out) ?_
   clear hK K HC0 hc hv
   try simp only[Act.put,List.setIfInBounds_toArray,List.set_cons_zero,List.set_cons_succ]
   have HOw12:Hid (w12.ownsRow w6.heap.size 3 1 (.slice O no co) no ((stA (tkO z) (clsL S z 2) (RL (lim z) id) (clsL S z 1)).flatMap en3)):=Lib.hid (own_behind (own_behind HOw11.out HBdw11.out) HBdw12.out)
   have HNBw12:Hid (∀b,w8.heap.size≤b→ ¬OD O no co b):=Lib.hid fun b hb hd=>by have:=(HOB.out b hd).2;omega
   have HR2w12:Hid (w12.ownsRow w8.heap.size 3 1 (.slice C2 m2 k2) m2 ((clsL S z 2).flatMap en3)):=Lib.hid (own_same HOC2.out fun q hq=>by
    have h1:=(HOC2.out.lt q hq)
    exact((show Kept (OD O no co) w9 w11 from HK911.out).trans (Kept.of_below ((HBdw11.out).trans (HBdw12.out.mono HBdw11.out.size)))).block q h1.2 (HNBw12.out q h1.1))
   have HM0:=Lib.hid (callsIn_wide.1 (merge_wide89 w6.heap.size (tkI z) v A1 n1 c1 A2 n2 c2 A3 n3 c3 A4 n4 c4 F nf cf X nx cx V nv cv O no co C0 m0 k0 C2 m2 k2 (clsL S z 0) (clsL S z 2) (stA (tkO z) (clsL S z 2) (RL (lim z) id) (clsL S z 1)) w12 HOw12.out (own_rdI HOC0.out)
    (fun b o e=>by
     subst e
     exact HNBw12.out b (Nat.le_trans HKwd11.out.size (row_at HOC0.out).1))
    (own_rdI HR2w12.out)
    (fun b o e=>by
     subst e
     exact HNBw12.out b (row_at HR2w12.out).1)
    (fun x hx=>by rw[HLL0.out];exact cls_lim hx) (fun x hx=>by have:=cls_lim hx;have:=HLIM.out;omega)
    (by rw[← rs_own_len en3_len (by decide) HOC0.out];exact Nat.le_trans (clsI_le S z 0 _) HLIM.out)
    (by rw[← rs_own_len en3_len (by decide) HOC2.out];exact Nat.le_trans (clsI_le S z 2 _) HLIM.out) (by rw[HLL0.out];exact HLIM.out)
    (fun x _=>⟨lw_fit HH.out x,by show(pk _ _).size≤maxLen;rw[pk_size];have:=HH.out.rp.len;have:=HN.out;unfold maxLen;omega⟩)
    (fun W hW x hx=>beneath_any x S z v A1 n1 c1 A2 n2 c2 A3 n3 c3 A4 n4 c4 F nf cf X nx cx V nv cv O no co W (HTDK.out W (HKw12.out.trans hW)) (hx.elim cls_lim cls_lim))))
   unfold tdV at HM0
   refine ord_hard rfl rfl (fun K hK=> ?_)
   go_simp
   refine HM0.out.mono ?_
   rintro e w13 ⟨O0,j0,l0,rfl,ho,hl,hk⟩
   have HOT0:=Lib.hid ho
   have HOw13:=Lib.hid hl
   have HK1113:Hid (Kept (OD O no co) w11 w13):=Lib.hid (((Kept.of_below (HBdw11.out.trans (HBdw12.out.mono HBdw11.out.size)):Kept (OD O no co) w11 w12)).trans hk)
   have HKw13:Hid (Kept (OD O no co) w8 w13):=Lib.hid (HKw12.out.trans hk)
   have HSZw13:Hid (w8.heap.size≤w12.heap.size):=Lib.hid HKw12.out.size
   refine hK.out _ _ (fun _=>HTX.out w13 HKw13.out) ?_
   clear hK K HM0 ho hl hk
   try simp only[Act.put,List.setIfInBounds_toArray,List.set_cons_zero,List.set_cons_succ]
   repeat(first
    |(refine ord_no rfl ?_;simp only[Act.put,List.setIfInBounds_toArray,List.set_cons_zero,List.set_cons_succ])
    |(refine ord_yes (v:= ?_) rfl rfl ?_ ?_;rotate_left;(focus(rintro w' ⟨x0,x1,x2,x3,x4,x5,x6,x7,x8⟩;go_simp;try with_reducible rfl));simp only[Act.put,List.setIfInBounds_toArray,List.set_cons_zero,List.set_cons_succ]))
   refine ord_end ?_
   have HR1:Hid (w13.ownsRow w10.heap.size 3 1 (.slice O1 j1 l1) j1 ((otL (tkO z) (clsL S z 2) (clsL S z 1)).flatMap en3)):=Lib.hid (own_same HOT1.out fun q hq=>by
    have h1:=HOT1.out.lt q hq
    exact HK1113.out.block q h1.2 (HNBw12.out q (Nat.le_trans HSZw11.out h1.1)))
   have HPR:=Lib.hid (pair_any S z w6.heap.size v A1 n1 c1 A2 n2 c2 A3 n3 c3 A4 n4 c4 F nf cf X nx cx V nv cv O no co O1 j1 l1 O0 j0 l0 (otL (tkO z) (clsL S z 2) (clsL S z 1)) (otL (tkI z) (clsL S z 2) (clsL S z 0)) _ w13 (fun W hW=>HTDK.out W (HKw13.out.trans hW)) HOw13.out (own_rdI HR1.out)
    (fun b o e=>by
     subst e
     exact HNBw12.out b (Nat.le_trans HSZw11.out (row_at HR1.out).1))
    (own_rdI HOT0.out)
    (fun b o e=>by
     subst e
     exact HNBw12.out b (Nat.le_trans HSZw13.out (row_at HOT0.out).1))
    (fun x hx=>cls_lim (List.mem_filter.1 hx).1) (fun x hx=>cls_lim (List.mem_filter.1 hx).1) (by rw[stA_len];exact HLL0.out)
    (by rw[← rs_own_len en3_len (by decide) HOT1.out];exact Nat.le_trans (List.length_filter_le _ _) (Nat.le_trans (clsI_le S z 1 _) HLIM.out))
    (by rw[← rs_own_len en3_len (by decide) HOT0.out];exact Nat.le_trans (List.length_filter_le _ _) (Nat.le_trans (clsI_le S z 0 _) HLIM.out)))
   unfold tdV at HPR
   have hx:=HTX.out w13 HKw13.out
   have y0:=hx.p0
   have y1:=hx.p1
   have y2:=hx.p2
   have y3:=hx.p3
   have y4:=hx.p4
   have y5:=hx.p5
   have y6:=hx.p6
   have y7:=hx.p7
   have y8:=hx.p8
   go_wp2_with fail
   refine HPR.out.mono ?_
   rintro e w14 ⟨rfl,hl,hk⟩
   have HK14:Hid (Kept (OD O no co) w8 w14):=Lib.hid (HKw13.out.trans hk)
   have HL14:=Lib.hid hl
   clear hl hk HPR
   clear hx y0 y1 y2 y3 y4 y5 y6 y7 y8
   have hx:=HTX.out w14 HK14.out
   have y0:=hx.p0
   have y1:=hx.p1
   have y2:=hx.p2
   have y3:=hx.p3
   have y4:=hx.p4
   have y5:=hx.p5
   have y6:=hx.p6
   have y7:=hx.p7
   have y8:=hx.p8
   have HRB:Hid (w14.heap[w.heap.size+1]?=some (.cells #[.nilIface,.slice none 0 0,.slice none 0 0,.slice none 0 0,.slice none 0 0,.slice none 0 0,.slice none 0 0,.slice none 0 0,.slice none 0 0] 108 (0,0))):=Lib.hid (by
    have h1:=HS1.out
    have h2:=HLT.out
    have h3:=HB6.out.size
    exact(HK14.out.block _ (by have:=HB.out.k.size;omega) fun e=>by have:=(HOB.out _ e).1;omega).trans ((HB.out.k.block _ (by omega) (by omega)).trans HKR.out))
   have e0:w14.cell? ⟨w.heap.size+1,0,none⟩=some .nilIface:=(cell_blk (i:=0) HRB.out).trans rfl
   have e1:w14.cell? ⟨w.heap.size+1,1,none⟩=some (.slice none 0 0):=(cell_blk (i:=1) HRB.out).trans rfl
   have e2:w14.cell? ⟨w.heap.size+1,2,none⟩=some (.slice none 0 0):=(cell_blk (i:=2) HRB.out).trans rfl
   have e3:w14.cell? ⟨w.heap.size+1,3,none⟩=some (.slice none 0 0):=(cell_blk (i:=3) HRB.out).trans rfl
   have e4:w14.cell? ⟨w.heap.size+1,4,none⟩=some (.slice none 0 0):=(cell_blk (i:=4) HRB.out).trans rfl
   have e5:w14.cell? ⟨w.heap.size+1,5,none⟩=some (.slice none 0 0):=(cell_blk (i:=5) HRB.out).trans rfl
   have e6:w14.cell? ⟨w.heap.size+1,6,none⟩=some (.slice none 0 0):=(cell_blk (i:=6) HRB.out).trans rfl
   have e7:w14.cell? ⟨w.heap.size+1,7,none⟩=some (.slice none 0 0):=(cell_blk (i:=7) HRB.out).trans rfl
   have e8:w14.cell? ⟨w.heap.size+1,8,none⟩=some (.slice none 0 0):=(cell_blk (i:=8) HRB.out).trans rfl
   have f0:w14.frozen? ⟨w.heap.size+1,0,none⟩=false:=frozen_blk HRB.out
   have f1:w14.frozen? ⟨w.heap.size+1,1,none⟩=false:=frozen_blk HRB.out
   have f2:w14.frozen? ⟨w.heap.size+1,2,none⟩=false:=frozen_blk HRB.out
   have f3:w14.frozen? ⟨w.heap.size+1,3,none⟩=false:=frozen_blk HRB.out
   have f4:w14.frozen? ⟨w.heap.size+1,4,none⟩=false:=frozen_blk HRB.out
   have f5:w14.frozen? ⟨w.heap.size+1,5,none⟩=false:=frozen_blk HRB.out
   have f6:w14.frozen? ⟨w.heap.size+1,6,none⟩=false:=frozen_blk HRB.out
   have f7:w14.frozen? ⟨w.heap.size+1,7,none⟩=false:=frozen_blk HRB.out
   have f8:w14.frozen? ⟨w.heap.size+1,8,none⟩=false:=frozen_blk HRB.out
   have hsv:=store_v HS.out e0 f0
   obtain⟨w15,hw15⟩: ∃w15,(((((((((w14).setCell ⟨w.heap.size+1,0,none⟩ (v)).setCell ⟨w.heap.size+1,1,none⟩ (.slice A1 n1 c1)).setCell ⟨w.heap.size+1,2,none⟩ (.slice A2 n2 c2)).setCell ⟨w.heap.size+1,3,none⟩ (.slice A3 n3 c3)).setCell ⟨w.heap.size+1,4,none⟩ (.slice A4 n4 c4)).setCell ⟨w.heap.size+1,5,none⟩ (.slice F nf cf)).setCell ⟨w.heap.size+1,6,none⟩ (.slice X nx cx)).setCell ⟨w.heap.size+1,7,none⟩ (.slice V nv cv)).setCell ⟨w.heap.size+1,8,none⟩ (.slice O no co)=w15:=⟨_,rfl⟩
   have HF15:Hid (w15.heap[w.heap.size+1]?=some (.cells #[v,.slice A1 n1 c1,.slice A2 n2 c2,.slice A3 n3 c3,.slice A4 n4 c4,.slice F nf cf,.slice X nx cx,.slice V nv cv,.slice O no co] 108 (0,0))):=Lib.hid (by rw[← hw15];exact box9 HRB.out _ _ _ _ _ _ _ _ _)
   have OFF:Hid (∀b,b≠w.heap.size+1→w15.heap[b]?=w14.heap[b]?):=Lib.hid fun b hb=>by
    rw[← hw15]
    have off:=fun (W:World) (k:Nat) (u:Value)=>Below.heap_setCell W ⟨w.heap.size+1,k,none⟩ u b hb
    rw[off,off,off,off,off,off,off,off,off]
   have HB15:Hid (Below (w.heap.size+1) w14 w15):=Lib.hid (by rw[← hw15];exact bel9 (Below.refl _ _) (Nat.le_refl _) _ _ _ _ _ _ _ _ _)
   have HK15:Hid (Kept (fun b=>OD O no co b∨b=w.heap.size+1) w8 w15):=Lib.hid (by
    have h1:=HK14.out
    have h2:=HB15.out
    exact⟨h2.os.trans h1.os,h2.tape.trans h1.tape,h2.output.trans h1.output,Nat.le_trans h1.size h2.size,fun b hb hn=>(OFF.out b fun e=>hn (.inr e)).trans (h1.block b hb fun e=>hn (.inl e))⟩)
   have HL15:=Lib.hid (own_same HL14.out fun q hq=>OFF.out q (by have:=(HOB.out q hq).1;have:=HLT.out;have:=HS1.out;omega))
   have HBW:Hid (Below w.heap.size w w15):=Lib.hid (by
    have h1:=HS1.out
    have b1:Below w.heap.size w w6:=HB1.out.trans (HB6.out.mono HB1.out.size)
    have b2:Below w.heap.size w6 w8:=HB.out.k.below b1.size fun b e=>by have:=HLT.out;omega
    have b3:Below w.heap.size w8 w15:=HK15.out.below (Nat.le_trans b1.size HB.out.k.size) fun b e=>e.elim (fun e=>Nat.le_trans b1.size (HOB.out b e).1) fun e=>by omega
    exact b1.trans (b2.trans b3))
   clear hx
   go_wp2_with fail
   generalize hwq:World.setCell (World.setCell (World.setCell (World.setCell (World.setCell (World.setCell (World.setCell (World.setCell (World.setCell _ _ _) _ _) _ _) _ _) _ _) _ _) _ _) _ _) _ _=wq
   obtain rfl:w15=wq:=hw15.symm.trans hwq
   refine bodyPost_ret (v:= .agg #[v,.slice A1 n1 c1,.slice A2 n2 c2,.slice A3 n3 c3,.slice A4 n4 c4,.slice F nf cf,.slice X nx cx,.slice V nv cv,.slice O no co]) ?_ rfl ⟨F,nf,cf,X,nx,cx,V,nv,cv,O,no,co,rfl,HTD.out w15 HK15.out,?_,HBW.out⟩
   ·exact results_cell_row (P:=Tryz.prog) rfl _ _ (w.heap.size+1) 108 _ (0,0) _ rfl HF15.out Tryz.underlying108 rfl rfl
   ·rw[← final_list]
    exact own_rdI HL15.out
end Go.Proofs.YtmejhedegmjboaaGreat.I
