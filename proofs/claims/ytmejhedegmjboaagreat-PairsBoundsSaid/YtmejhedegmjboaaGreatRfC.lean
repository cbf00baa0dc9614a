import Derived.Test.YtmejhedegmjboaaGreatRwB
set_option maxRecDepth 100000
set_option maxHeartbeats 8000000
namespace Go.Proofs.YtmejhedegmjboaaGreat.I
open Go.RowKit
def bcl (l:List Bool):Array Value:=(l.map Value.bool).toArray
theorem QG {l:List Bool}{j:Nat}(h:j < l.length):(bcl l)[j]?=some (.bool l[j]):=by
 rw[bcl,List.getElem?_toArray,List.getElem?_map,List.getElem?_eq_getElem h]
 rfl
theorem ZkU (l:List Bool)(j:Nat)(v:Bool):(bcl l).setIfInBounds j (.bool v)=bcl (l.set j v):=by
 simp[bcl,List.map_set]
theorem ZkV (n:Nat)(h:n≤65536)(W:World):(Instr.makeSlice 71 (.int .i64 (n:Int)) (.int .i64 (n:Int))).run Tryz.prog W= .ok (.slice (some ⟨W.heap.size,0,none⟩) n n) (W.alloc (.cells (bcl (List.replicate n false)) 4)):=by
 obtain⟨i0,hi0,hz0,hz1,hz2⟩:=info_parts Re.inf4
 have:=run_make (P:=Tryz.prog) W 71 4 i0 _ Tryz.underlying71 hi0 hz0 .i64 .i64 n n (by omega) (Int.le_refl _) (by rw[hz2];omega) (by omega)
 rw[this,hz1,Nat.mul_one,Int.toNat_natCast]
 rw[show(Value.bool false).cells= #[.bool false] from rfl,show madeCells #[.bool false] n=bcl (List.replicate n false) from ?_]
 apply Array.ext
 ·simp[madeCells,bcl]
 ·intro i h1 h2
  simp[madeCells,bcl,Nat.mod_one]
theorem Zne {w:World}{g n:Nat}{l:List Bool}(h:w.heap[g]?=some (.cells (bcl l) 4 (0,0)))(hl:l.length=n)(hn:n≤1000000):Rd Value.bool w w.heap.size (some ⟨g,0,none⟩) n n l:=
 ⟨hl,Nat.le_refl _,by unfold maxLen;omega,(fun h=>by cases h),fun _=>⟨g,0,rfl,Zh h,fun j hj=>by rw[Nat.zero_add,Zb h,QG hj]⟩⟩
theorem RQ {w:World}{B b o n c:Nat}{l:List Nat}(h:Rd La.nm w B (some ⟨b,o,none⟩) n c l){i:Nat}(hi:i < l.length):w.cell? ⟨b,o+i,none⟩=some (.int .u64 (l[i]:Int)):=by
 obtain⟨b',o',e,-,hc⟩:=h.spot (by have:=h.len;omega)
 injection e with e
 injection e with e1 e2
 subst e1 e2
 exact hc i hi
theorem Zeo {w:World}{z:Sen}{A1:Option Addr}{n1 c1:Nat}{A2:Option Addr}{n2 c2:Nat}{A3:Option Addr}{n3 c3 b o n4 c4:Nat}(h:Zx w z A1 n1 c1 A2 n2 c2 A3 n3 c3 (some ⟨b,o,none⟩) n4 c4)(hw:Zn z=true){i j:Nat}(hi:i < z.p.length)(hj:j < z.p.length):
  ∃b' o' y,w.cell? ⟨b,o+i,none⟩=some (.slice (some ⟨b',o',none⟩) n1 y)∧w.cell? ⟨b',o'+j,none⟩=some (.bool (bb z i j)):=by
 obtain⟨b2,o2,b',o',y,e,h1,h2⟩:=Vp h hw hi hj
 injection e with e
 injection e with e1 e2
 subst e1 e2
 exact⟨b',o',y,h1,h2⟩
def fxB (S:Bo.Sr)(z:Sen)(n i:Nat):List Bool:=(List.range n).map fun k=>decide (k < i) && fixB S z k
def fxV (S:Bo.Sr)(z:Sen)(n i:Nat):List Nat:=(List.range n).map fun k=>if (decide (k < i) && fixB S z k)=true then valF z k else 0
theorem YT (S:Bo.Sr)(z:Sen)(n i:Nat):(fxB S z n i).length=n:=by simp[fxB]
theorem YU (S:Bo.Sr)(z:Sen)(n i:Nat):(fxV S z n i).length=n:=by simp[fxV]
theorem Zdo (S:Bo.Sr)(z:Sen)(n:Nat):List.replicate n false=fxB S z n 0:=by
 apply List.ext_getElem (by simp[fxB])
 intro k h1 h2
 simp[fxB]
theorem Zdp (S:Bo.Sr)(z:Sen)(n:Nat):List.replicate n 0=fxV S z n 0:=by
 apply List.ext_getElem (by simp[fxV])
 intro k h1 h2
 simp[fxV]
theorem Zep {i k:Nat}(h:k≠i):decide (k < i+1)=decide (k < i):=decide_eq_decide.2 (by omega)
theorem Zmd {S:Bo.Sr}{z:Sen}{n i:Nat}(h:fixB S z i=false):fxB S z n i=fxB S z n (i+1):=by
 apply List.map_congr_left
 intro k _
 by_cases e:k=i
 ·subst e;rw[h,Bool.and_false,Bool.and_false]
 ·rw[Zep e]
theorem Zme {S:Bo.Sr}{z:Sen}{n i:Nat}(h:fixB S z i=false):fxV S z n i=fxV S z n (i+1):=by
 apply List.map_congr_left
 intro k _
 by_cases e:k=i
 ·subst e;rw[h,Bool.and_false,Bool.and_false]
 ·rw[Zep e]
theorem ZkW {S:Bo.Sr}{z:Sen}{n i:Nat}(h:fixB S z i=true):(fxB S z n i).set i true=fxB S z n (i+1):=by
 apply List.ext_getElem (by simp[fxB])
 intro k h1 h2
 rw[List.getElem_set]
 by_cases e:i=k
 ·subst e;simp[fxB,h]
 ·rw[if_neg e]
  simp only[fxB,List.getElem_map,List.getElem_range]
  rw[Zep (Ne.symm e)]
theorem ZkX {S:Bo.Sr}{z:Sen}{n i:Nat}(h:fixB S z i=true):(fxV S z n i).set i (valF z i)=fxV S z n (i+1):=by
 apply List.ext_getElem (by simp[fxV])
 intro k h1 h2
 rw[List.getElem_set]
 by_cases e:i=k
 ·subst e;simp[fxV,h]
 ·rw[if_neg e]
  simp only[fxV,List.getElem_map,List.getElem_range]
  rw[Zep (Ne.symm e)]
theorem ZkY (S:Bo.Sr)(z:Sen)(n:Nat):fxB S z n n=(List.range n).map (fixB S z):=by
 apply List.map_congr_left
 intro k hk
 rw[decide_eq_true (List.mem_range.1 hk),Bool.true_and]
theorem ZkZ (S:Bo.Sr)(z:Sen)(n:Nat):fxV S z n n=(List.range n).map (fun k=>if fixB S z k=true then valF z k else 0):=by
 apply List.map_congr_left
 intro k hk
 rw[decide_eq_true (List.mem_range.1 hk),Bool.true_and]
structure FxAt (S:Bo.Sr)(z:Sen)(w W:World)(ga gb n i:Nat):Prop where
 bel:Below w.heap.size w W
 a:W.heap[ga]?=some (.cells (bcl (fxB S z n i)) 4 (0,0))
 b:W.heap[gb]?=some (.cells (La.cl (fxV S z n i)) 60 (0,0))
 ha:w.heap.size < ga
 hb:w.heap.size < gb
 ne:ga≠gb
theorem FxAt.keep {S:Bo.Sr}{z:Sen}{w W V:World}{ga gb n i:Nat}(h:FxAt S z w W ga gb n i)(hb:Below W.heap.size W V):FxAt S z w V ga gb n i:=
 ⟨h.bel.trans (hb.mono h.bel.size),(hb.block _ (Zh h.a)).trans h.a,(hb.block _ (Zh h.b)).trans h.b,h.ha,h.hb,h.ne⟩
theorem FxAt.no {S:Bo.Sr}{z:Sen}{w W:World}{ga gb n i:Nat}(h:FxAt S z w W ga gb n i)(hf:fixB S z i=false):FxAt S z w W ga gb n (i+1):=
 ⟨h.bel,by rw[← Zmd hf];exact h.a,by rw[← Zme hf];exact h.b,h.ha,h.hb,h.ne⟩
theorem FxAt.yes {S:Bo.Sr}{z:Sen}{w W:World}{ga gb n i:Nat}(h:FxAt S z w W ga gb n i)(hf:fixB S z i=true):FxAt S z w ((W.setCell ⟨ga,i,none⟩ (.bool true)).setCell ⟨gb,i,none⟩ (.int .u64 (valF z i:Int))) ga gb n (i+1):=by
 refine⟨Zp (Zp h.bel (Nat.le_of_lt h.ha) _) (Nat.le_of_lt h.hb) _,?_,?_,h.ha,h.hb,h.ne⟩
 ·rw[← ZkW hf, ← ZkU]
  exact(Below.heap_setCell _ ⟨gb,i,none⟩ _ ga h.ne).trans (Zm h.a _)
 ·rw[← ZkX hf, ← La.Q8]
  exact Zm ((Below.heap_setCell _ ⟨ga,i,none⟩ _ gb (Ne.symm h.ne)).trans h.b) _
theorem FxAt.zb {S:Bo.Sr}{z:Sen}{w W:World}{ga gb n i:Nat}(h:FxAt S z w W ga gb n i){A1:Option Addr}{n1 c1:Nat}{A2:Option Addr}{n2 c2:Nat}{A3:Option Addr}{n3 c3:Nat}{A4:Option Addr}{n4 c4:Nat}(k:ZB W w.heap.size A1 n1 c1 A2 n2 c2 A3 n3 c3 A4 n4 c4)(j:Nat)(u v:Value):ZB ((W.setCell ⟨ga,j,none⟩ u).setCell ⟨gb,j,none⟩ v) w.heap.size A1 n1 c1 A2 n2 c2 A3 n3 c3 A4 n4 c4:=by
 have h1:=h.ha
 have h2:=h.hb
 have off: ∀o,((W.setCell ⟨ga,j,none⟩ u).setCell ⟨gb,j,none⟩ v).cell? ⟨w.heap.size,o,none⟩=W.cell? ⟨w.heap.size,o,none⟩:=fun o=>
  (World.cell?_of_block (a:=⟨w.heap.size,o,none⟩) (Below.heap_setCell _ ⟨gb,j,none⟩ v w.heap.size (by show w.heap.size≠gb;omega))).trans (World.cell?_of_block (a:=⟨w.heap.size,o,none⟩) (Below.heap_setCell _ ⟨ga,j,none⟩ u w.heap.size (by show w.heap.size≠ga;omega)))
 exact⟨(off 0).trans k.p0,(off 1).trans k.p1,(off 2).trans k.p2,(off 3).trans k.p3⟩
theorem ZaA {S:Bo.Sr}{z:Sen}{i:Nat}(h:sd z i=0)(ha: ∀j < z.p.length,(!bb z j i||S.below (hg z j) (lw z i))=true):fixB S z i=true:=by
 unfold fixB
 rw[if_pos h,List.all_eq_true]
 exact fun j hj=>ha j (List.mem_range.1 hj)
theorem Zci {S:Bo.Sr}{z:Sen}{i j:Nat}(h:sd z i=0)(hj:j < z.p.length)(ha:(!bb z j i||S.below (hg z j) (lw z i))=false):fixB S z i=false:=by
 unfold fixB
 rw[if_pos h,List.all_eq_false]
 exact⟨j,List.mem_range.2 hj,by rw[ha];simp⟩
theorem ZaB {S:Bo.Sr}{z:Sen}{i:Nat}(h:sd z i=1)(ha: ∀j < z.p.length,(!bb z i j||S.below (hg z i) (lw z j))=true):fixB S z i=true:=by
 unfold fixB
 rw[if_neg (by omega),if_pos h,List.all_eq_true]
 exact fun j hj=>ha j (List.mem_range.1 hj)
theorem Zcj {S:Bo.Sr}{z:Sen}{i j:Nat}(h:sd z i=1)(hj:j < z.p.length)(ha:(!bb z i j||S.below (hg z i) (lw z j))=false):fixB S z i=false:=by
 unfold fixB
 rw[if_neg (by omega),if_pos h,List.all_eq_false]
 exact⟨j,List.mem_range.2 hj,by rw[ha];simp⟩
theorem YV {S:Bo.Sr}{z:Sen}{i:Nat}(h:sd z i=2):fixB S z i=decide (hg z i=lw z i):=by
 unfold fixB
 rw[if_neg (by omega),if_neg (by omega)]
theorem Zk0 {z:Sen}{i:Nat}(h:sd z i=1):valF z i=hg z i:=if_pos h
theorem RS {z:Sen}{i:Nat}(h:sd z i≠1):valF z i=lw z i:=if_neg h
theorem ZaC {s:Nat}(h:s≤2):(s=0∧((s:Int)==0)=true)∨(s=1∧((s:Int)==0)=false∧((s:Int)==1)=true)∨(s=2∧((s:Int)==0)=false∧((s:Int)==1)=false∧((s:Int)==2)=true):=by
 obtain rfl|rfl|rfl:s=0∨s=1∨s=2:=by omega
 ·exact .inl ⟨rfl,rfl⟩
 ·exact .inr (.inl ⟨rfl,rfl,rfl⟩)
 ·exact .inr (.inr ⟨rfl,rfl,rfl,rfl⟩)
def FxIs (S:Bo.Sr)(z:Sen)(w w':World)(A:Option Addr)(n c:Nat)(B:Option Addr)(m d:Nat):Prop:=
 Below w.heap.size w w'∧((Zn z=false∧A=none∧n=0∧c=0∧B=none∧m=0∧d=0)∨
  (Zn z=true∧ ∃ga gb,A=some ⟨ga,0,none⟩∧n=z.p.length∧c=n∧B=some ⟨gb,0,none⟩∧m=n∧d=n∧FxAt S z w w' ga gb n n))
theorem FxIs.rd {S:Bo.Sr}{z:Sen}{w w':World}{A:Option Addr}{n c:Nat}{B:Option Addr}{m d:Nat}(h:FxIs S z w w' A n c B m d)(hn:z.p.length≤1000):Rd Value.bool w' w'.heap.size A n c (fixF S z)∧Rd La.nm w' w'.heap.size B m d (fvF S z):=by
 rcases h.2 with⟨hw,rfl,rfl,rfl,rfl,rfl,rfl⟩|⟨hw,ga,gb,rfl,rfl,rfl,rfl,rfl,rfl,hf⟩
 ·unfold fixF fvF
  rw[hw]
  exact⟨Rd.nil _ _,Rd.nil _ _⟩
 ·(
 have h1:=hf.a
 have h2:=hf.b
 rw[ZkY] at h1
 rw[ZkZ] at h2
 unfold fixF fvF
 rw[if_pos hw,if_pos hw]
 exact⟨Zne h1 (by simp) (by omega),La.Rf h2 (by simp) (by omega)⟩)
theorem Zgz (v:Value)(S:Bo.Sr)(z:Sen)(A1:Option Addr)(n1 c1:Nat)(A2:Option Addr)(n2 c2:Nat)(A3:Option Addr)(n3 c3:Nat)(A4:Option Addr)(n4 c4:Nat)(w:World)(hs:Bo.VH w v S)(h:Zx w z A1 n1 c1 A2 n2 c2 A3 n3 c3 A4 n4 c4)(hn:n1≤60000):
  Calls Tryz.prog 85 #[v,senV A1 n1 c1 A2 n2 c2 A3 n3 c3 A4 n4 c4] w fun e w'=> ∃A n c B m d,e= .returned (.tuple #[.slice A n c,.slice B m d])∧FxIs S z w w' A n c B m d:=by
 obtain⟨r,hr⟩: ∃r,Zn z=r:=⟨_,rfl⟩
 have HR:=Hd hr
 have HSW:Hid (∀W,Below w.heap.size w W→Zx W z A1 n1 c1 A2 n2 c2 A3 n3 c3 A4 n4 c4):=Hd fun W hW=>h.keep hW
 have HRB:Hid (∀W,Below w.heap.size w W→ ∀x y:Nat,x < 18446744073709551616→y < 18446744073709551616→Calls Tryz.prog 128 #[v,.int .u64 (x:Int),.int .u64 (y:Int)] W fun e w'=>e= .returned (.bool (S.below x y))∧Below W.heap.size W w'):=Hd fun W hW x y hx hy=>VY v S x y W (hs.keep hW) hx hy _ rfl
 have hwh:=fun W (hW:Below w.heap.size w W)=>ZbH A1 n1 c1 A2 n2 c2 A3 n3 c3 A4 n4 c4 z W (h.keep hW) r hr
 have HWH:=Hd hwh
 have HN:=Hd hn
 have HLEN:=Hd h.rp.len
 have hz0:=ZB.of (heap_alloc_new w (.cells #[.slice A1 n1 c1,.slice A2 n2 c2,.slice A3 n3 c3,.slice A4 n4 c4] 28))
 have hb0:Below w.heap.size w (w.alloc (.cells #[.slice A1 n1 c1,.slice A2 n2 c2,.slice A3 n3 c3,.slice A4 n4 c4] 28)):=bA
 have HZ0:=Hd hz0
 have HB0:=Hd hb0
 clear hwh hr hs h hn hz0 hb0
 unfold senV at HWH ⊢
 cases r with
 |false=>(
 go_enter Tryz.func85,Tryz.ntmps85
 go_wp2_with fail
 refine wp_scope_straight ?_
 go_wp2_with fail
 refine(HWH.out _ HB0.out).mono ?_
 rintro e w1 ⟨rfl,hv⟩
 have HB1:=Hd (HB0.out.trans (hv.mono HB0.out.size))
 clear hv HWH
 go_wp2_with fail
 rw[Exit.noGoto_ret]
 go_ret2
 exact⟨none,0,0,none,0,0,rfl,HB1.out,.inl ⟨HR.out,rfl,rfl,rfl,rfl,rfl,rfl⟩⟩)
 |true=>(
 go_enter Tryz.func85,Tryz.ntmps85
 go_wp2_with fail
 refine wp_scope_straight ?_
 go_wp2_with fail
 refine(HWH.out _ HB0.out).mono ?_
 rintro e w1 ⟨rfl,hv⟩
 have HB1:=Hd (HB0.out.trans (hv.mono HB0.out.size))
 have hz1:=HZ0.out.keep hv
 have HZ1:=Hd hz1
 clear hv HWH HB0 HZ0
 go_wp2_with fail
 refine Bo.VR [0,1,2,4,5,6] 3 7 _ _ [8,7,9] [3,8,9] [3,7] 10 (fun W=>W.cell? ⟨w.heap.size,0,none⟩=some (.slice A1 n1 c1)) (by kernel_rfl) (by kernel_rfl) rfl rfl rfl rfl (by kernel_rfl) (by kernel_rfl) (by kernel_rfl) (by kernel_rfl) (by kernel_rfl) (by kernel_rfl) (fun _ _ _ _ _ h=>h) hz1.p0 ?_
 simp only[steps,sE,sD]
 clear hz1
 repeat(
 refine Bo.Zag (v:= ?_) rfl ?_ ?_
 rotate_left
 (focus(rintro w' x0;go_simp;try with_reducible rfl))
 simp only[Act.put,sA,sB,sC])
 have HB2:=Hd HB1.out.drew
 have HZ2:=Hd (HZ1.out.keep (Below.refl w1.heap.size w1).drew)
 clear HB1 HZ1
 generalize World.drew w1=w2 at*
 have HMA:Hid (∀W,(Instr.makeSlice 71 (.int .i64 (n1:Int)) (.int .i64 (n1:Int))).run Tryz.prog W= .ok (.slice (some ⟨W.heap.size,0,none⟩) n1 n1) (W.alloc (.cells (bcl (List.replicate n1 false)) 4))):=Hd fun W=>ZkV n1 (by have:=HN.out;omega) W
 have HMB:Hid (∀W,(Instr.makeSlice 22 (.int .i64 (n1:Int)) (.int .i64 (n1:Int))).run Tryz.prog W= .ok (.slice (some ⟨W.heap.size,0,none⟩) n1 n1) (W.alloc (.cells (La.cl (List.replicate n1 0)) 60))):=Hd fun W=>La.Zac n1 (by have:=HN.out;omega) W
 refine Bo.Zah ⟨?_,?_⟩
 (focus(
 refine VL 71 (.tmp 16) rfl (HMA.out _) ⟨Za HZ2.out.p0 (bA),?_⟩
 simp only[Act.put,sA,sB,sC]
 repeat((first|refine Zf rfl ?_|(refine Zd (v:= ?_) rfl rfl ?_ ?_;rotate_left;(focus(rintro w' x0;go_simp;try with_reducible rfl))));simp only[Act.put,sA,sB,sC])
 have hB2:=HMB.out (w2.alloc (.cells (bcl (List.replicate n1 false)) 4))
 rw[World.size_alloc] at hB2
 refine Ze rfl rfl (fun K hK=> ?_)
 refine VL 22 (.tmp 20) rfl hB2 (hK.out _ _ (fun _=>Za HZ2.out.p0 ((bA).alloc (by simp) _)) ?_)
 clear hK K hB2
 try simp only[Act.put,sA,sB,sC]
 repeat((first|refine Zf rfl ?_|(refine Zd (v:= ?_) rfl rfl ?_ ?_;rotate_left;(focus(rintro w' x0;go_simp;try with_reducible rfl))));simp only[Act.put,sA,sB,sC])
 refine Zg ?_
 have hfx:FxAt S z w ((w2.alloc (.cells (bcl (List.replicate n1 false)) 4)).alloc (.cells (La.cl (List.replicate n1 0)) 60)) w2.heap.size (w2.heap.size+1) n1 0:=by(
 have s1:(w2.alloc (.cells (bcl (List.replicate n1 false)) 4)).heap.size=w2.heap.size+1:=by rw[World.size_alloc]
 have b2:Below (w2.heap.size+1) (w2.alloc (.cells (bcl (List.replicate n1 false)) 4)) ((w2.alloc (.cells (bcl (List.replicate n1 false)) 4)).alloc (.cells (La.cl (List.replicate n1 0)) 60)):=(Below.refl _ _).alloc (by rw[s1];exact Nat.le_refl _) _
 have h2:=heap_alloc_new (w2.alloc (.cells (bcl (List.replicate n1 false)) 4)) (.cells (La.cl (List.replicate n1 0)) 60)
 rw[s1] at h2
 have h0:=World.block_lt_of_cell? w2 _ HZ2.out.p0
 replace h0:w.heap.size < w2.heap.size:=h0
 have ha:=(b2.block _ (Nat.lt_succ_self _)).trans (heap_alloc_new w2 _)
 have hb:=h2
 exact⟨(HB2.out.alloc HB2.out.size _).alloc (by rw[s1];exact Nat.le_succ_of_le HB2.out.size) _,by rw[← Zdo];exact ha,by rw[← Zdp];exact hb,by omega,by omega,by omega⟩)
 have hzz:ZB ((w2.alloc (.cells (bcl (List.replicate n1 false)) 4)).alloc (.cells (La.cl (List.replicate n1 0)) 60)) w.heap.size A1 n1 c1 A2 n2 c2 A3 n3 c3 A4 n4 c4:=HZ2.out.keep ((bA).alloc (by simp) _)
 have HFX:=Hd hfx
 have HZZ:=Hd hzz
 clear hfx hzz HMA HMB HZ2 HB2
 obtain⟨u1,hu1⟩: ∃u,w2.heap.size=u:=⟨_,rfl⟩
 simp only[hu1] at*
 obtain⟨u2,hu2⟩: ∃u,u1+1=u:=⟨_,rfl⟩
 simp only[hu2] at*
 clear hu1 hu2
 generalize (w2.alloc (.cells (bcl (List.replicate n1 false)) 4)).alloc (.cells (La.cl (List.replicate n1 0)) 60)=w3 at*
 have hz3:=HZZ.out.p0
 go_wp2_with fail
 refine wp_label ?_
 go_wp2_with fail
 clear hz3
 go_loopw [25] (fun v25 wr=> ∃i:Nat,v25= .int .i64 (i:Int)∧i≤n1∧FxAt S z w wr u1 u2 n1 i∧ZB wr w.heap.size A1 n1 c1 A2 n2 c2 A3 n3 c3 A4 n4 c4) (fun v25 _=>n1 - (intOf v25).toNat)
 case atStart=>exact⟨0,rfl,Nat.zero_le _,HFX.out,HZZ.out⟩
 case round=>
  clear HFX HZZ
  obtain⟨i,rfl,hi,hfx,hzb⟩:=hrel
  by_cases hlt:i < n1
  ·(
 have hsn:=HSW.out wr hfx.bel
 obtain⟨a1,a2,a3,a4,a5⟩:=ZE.1 HR.out
 have hl1:=HLEN.out
 have hl2:=hsn.rl.len
 have hl3:=hsn.rh.len
 have hl4:=hsn.rb.len
 have hip:i < z.p.length:=by omega
 have hil:i < z.lo.length:=by omega
 have hih:i < z.hi.length:=by omega
 obtain⟨p0,o0,rfl,-,e0,e1,e2,e3,e4⟩:=Z7 hsn.rp hip
 obtain⟨p1,o1,rfl,ev,fv⟩:=ZG hsn.rl hsn.fl hil
 obtain⟨p2,o2,rfl,eh,fh⟩:=ZG hsn.rh hsn.fh hih
 obtain⟨p4,o4,-,-,-,rfl,-,-⟩:=Vp hsn HR.out hip hip
 have hs2:=a4 _ (List.getElem_mem hip)
 have HSD:=Hd (ZaE hip)
 have HLW:=Hd (KA hil)
 have HHG:=Hd (Y1 hih)
 generalize z.p[i]=sp at*
 generalize z.lo[i]=lv at*
 generalize z.hi[i]=hv at*
 obtain⟨xn,xp,xs,xv,xz⟩:=sp
 simp only at e0 e1 e2 e3 e4 hs2
 have HSD:Hid (sd z i=xs):=HSD
 have HFV:=Hd fv
 have HFH:=Hd fh
 have HFX:=Hd hfx
 have HZB:=Hd hzb
 have HLT:=Hd hlt
 have HL2:=Hd (show z.p.length=n1∧n2=n1∧n3=n1∧n4=n1∧z.lo.length=n1∧z.hi.length=n1 by omega)
 have hin:(i:Int) < (n1:Int):=by omega
 have hin2:(i:Int) < (n2:Int):=by omega
 have hin3:(i:Int) < (n3:Int):=by omega
 have hin4:(i:Int) < (n4:Int):=by omega
 have z1:=hzb.p1
 have z2:=hzb.p2
 have hal:Below wr.heap.size wr (wr.alloc (.cells #[.int .i64 xn,.int .u8 (xp:Int),.int .u8 (xs:Int),.bool xv,.int .u64 xz] 67)):=bA
 have HAL:=Hd hal
 have y0:=Za hzb.p0 hal
 have y1:=Za z1 hal
 have y2:=Za z2 hal
 have yv:=Za ev hal
 have yh:=Za eh hal
 have hi9:i≤60000:=by have:=HN.out;omega
 clear hi hfx hzb hlt hsn a1 a2 a3 a4 a5 hl1 hl2 hl3 hl4 hip hil hih fv fh hal
 rcases ZaC hs2 with⟨hxs,g0⟩|⟨hxs,g0,g1⟩|⟨hxs,g0,g1,g2⟩
 (focus(
 have HXS:=Hd hxs
 have HSX:=Hd (HSD.out.trans hxs)
 clear hs2 hxs
 go_wp2_with fail
 have HF4:Hid (∀W,Below (wr.alloc (.cells #[.int .i64 xn,.int .u8 (xp:Int),.int .u8 (xs:Int),.bool xv,.int .u64 xz] 67)).heap.size (wr.alloc (.cells #[.int .i64 xn,.int .u8 (xp:Int),.int .u8 (xs:Int),.bool xv,.int .u64 xz] 67)) W→FxAt S z w W u1 u2 n1 i∧ZB W w.heap.size (some ⟨p0,o0,none⟩) n1 c1 (some ⟨p1,o1,none⟩) n2 c2 (some ⟨p2,o2,none⟩) n3 c3 (some ⟨p4,o4,none⟩) n4 c4):=Hd fun W hW=>⟨(HFX.out.keep HAL.out).keep hW,(HZB.out.keep HAL.out).keep hW⟩
 clear HFX HZB HAL z1 z2 y0 y1 y2 yv yh e0 e1 e2 e3 e4 ev eh g0
 generalize wr.alloc (.cells #[.int .i64 xn,.int .u8 (xp:Int),.int .u8 (xs:Int),.bool xv,.int .u64 xz] 67)=w4 at*
 obtain⟨wo,rfl⟩: ∃wo,wo=w4:=⟨_,rfl⟩
 go_loopw [42] (fun vk wq=> ∃k:Nat,vk= .int .i64 (k:Int)∧k≤n1∧(∀j < k,(!bb z j i||S.below (hg z j) (lw z i))=true)∧Below wo.heap.size wo wq) (fun vk _=>n1 - (intOf vk).toNat)
 case atStart=>exact⟨0,rfl,Nat.zero_le _,fun j hj=>absurd hj (Nat.not_lt_zero j),Below.refl _ _⟩
 case round=>
  obtain⟨k,rfl,hk,hall,hb⟩:=hrel
  by_cases hltk:k < n1
  ·(
 obtain⟨hfq,hzq⟩:=HF4.out _ hb
 have hsq:=HSW.out _ hfq.bel
 have hL:=HL2.out
 have hin0:=HLT.out
 have hkl:k < z.hi.length:=by omega
 obtain⟨b',o',y,c1',c2'⟩:=Zeo hsq HR.out (i:=k) (j:=i) (by omega) (by omega)
 have c3':=RQ hsq.rh hkl
 have HFQ:=Hd (hsq.fh.get k hkl)
 have HQ:=Hd (Y1 hkl)
 generalize z.hi[k]=q at*
 obtain⟨x,hx⟩: ∃x,bb z k i=x:=⟨_,rfl⟩
 obtain⟨r,hr⟩: ∃r,S.below q lv=r:=⟨_,rfl⟩
 have hc:=HRB.out _ hfq.bel q lv HFQ.out HFV.out
 rw[hr] at hc
 have HC:=Hd hc
 have HEQ:Hid ((!bb z k i||S.below (hg z k) (lw z i))=(!x||r)):=Hd (by rw[hx,HQ.out,HLW.out,hr])
 rw[hx] at c2'
 have z2:=hzq.p2
 have z1:=hzq.p1
 have z3:=hzq.p3
 have HALL:=Hd hall
 have HB:=Hd hb
 have HLK:=Hd hltk
 have hk1:(k:Int) < (n1:Int):=by omega
 have hk2:(k:Int) < (n2:Int):=by omega
 have hk3:(k:Int) < (n3:Int):=by omega
 have hk4:(k:Int) < (n4:Int):=by omega
 have hk9:k≤60000:=by have:=HN.out;omega
 have HUP:Hid ((!x||r)=true→ ∀j < k+1,(!bb z j i||S.below (hg z j) (lw z i))=true):=Hd fun e j hj=>by(
 by_cases ej:j=k
 ·subst ej;rw[HEQ.out];exact e
 ·exact HALL.out j (by omega))
 clear hall hb hltk hc hx hr hfq hzq hsq hkl hL hk hin0
 cases x with
 |false=>(
 have HUP':=Hd (HUP.out rfl)
 clear HUP
 go_wp2_with fail
 go_roundw
 case rel=>exact⟨k+1,by go_num,HLK.out,HUP'.out,HB.out⟩
 case measure=>(
 have:=HLK.out
 simp[intOf]
 omega))
 |true=>(
 go_wp2_with fail
 refine HC.out.mono ?_
 rintro e w5 ⟨rfl,hv5⟩
 have HB5:=Hd (HB.out.trans (hv5.mono HB.out.size))
 clear hv5 HC c1' c2' c3' z1 z2 z3
 cases r with
 |true=>(
 have HUP':=Hd (HUP.out rfl)
 clear HUP
 go_wp2_with fail
 go_roundw
 case rel=>exact⟨k+1,by go_num,HLK.out,HUP'.out,HB5.out⟩
 case measure=>(
 have:=HLK.out
 simp[intOf]
 omega))
 |false=>(
 obtain⟨hf5,hz5⟩:=HF4.out _ HB5.out
 have HF5:=Hd (hf5.no (Zci HSX.out (by have:=HL2.out;have:=HLK.out;omega) HEQ.out))
 have HZ5:=Hd hz5
 clear hf5 hz5 HUP
 go_wp2_with fail
 go_roundw
 case rel=>exact⟨i+1,by go_num,HLT.out,HF5.out,HZ5.out⟩
 case measure=>(
 have:=HLT.out
 simp[intOf]
 omega))))
  ·obtain rfl:k=n1:=by omega
   obtain⟨hfq,hzq⟩:=HF4.out _ hb
   have HFIX:=Hd (ZaA (S:=S) HSX.out (by rw[HL2.out.1];exact hall))
   have HFZ:=Hd hfq
   have HZZZ:=Hd hzq
   have HVAL:=Hd (RS (by rw[HSD.out,HXS.out];decide)|>.trans HLW.out)
   clear hall hb hfq hzq hk
   have hfz:=HFZ.out
   have d0:=(Zb (i:=i) hfz.a).trans (QG (by rw[YT];exact HLT.out))
   have f0:=Zc (i:=i) hfz.a
   have d1:=(Zb (i:=i) hfz.b).trans (La.Uc (by rw[YU];exact HLT.out))
   have f1:=Zc (i:=i) hfz.b
   have hne:=hfz.ne
   generalize (fxB S z k i)[i]'_=bx at*
   generalize (fxV S z k i)[i]'_=vx at*
   clear hfz
   go_wp2_with fail
   go_roundw
   case rel=>exact⟨i+1,by go_num,HLT.out,by rw[← HVAL.out];exact HFZ.out.yes HFIX.out,HFZ.out.zb HZZZ.out i _ _⟩
   case measure=>
    have:=HLT.out
    simp[intOf]
    omega))
 (focus(
 have HXS:=Hd hxs
 have HSX:=Hd (HSD.out.trans hxs)
 clear hs2 hxs
 go_wp2_with fail
 have HF4:Hid (∀W,Below (wr.alloc (.cells #[.int .i64 xn,.int .u8 (xp:Int),.int .u8 (xs:Int),.bool xv,.int .u64 xz] 67)).heap.size (wr.alloc (.cells #[.int .i64 xn,.int .u8 (xp:Int),.int .u8 (xs:Int),.bool xv,.int .u64 xz] 67)) W→FxAt S z w W u1 u2 n1 i∧ZB W w.heap.size (some ⟨p0,o0,none⟩) n1 c1 (some ⟨p1,o1,none⟩) n2 c2 (some ⟨p2,o2,none⟩) n3 c3 (some ⟨p4,o4,none⟩) n4 c4):=Hd fun W hW=>⟨(HFX.out.keep HAL.out).keep hW,(HZB.out.keep HAL.out).keep hW⟩
 clear HFX HZB HAL z1 z2 y0 y1 y2 yv yh e0 e1 e2 e3 e4 ev eh g0 g1
 generalize wr.alloc (.cells #[.int .i64 xn,.int .u8 (xp:Int),.int .u8 (xs:Int),.bool xv,.int .u64 xz] 67)=w4 at*
 obtain⟨wo,rfl⟩: ∃wo,wo=w4:=⟨_,rfl⟩
 go_loopw [75] (fun vk wq=> ∃k:Nat,vk= .int .i64 (k:Int)∧k≤n1∧(∀j < k,(!bb z i j||S.below (hg z i) (lw z j))=true)∧Below wo.heap.size wo wq) (fun vk _=>n1 - (intOf vk).toNat)
 case atStart=>exact⟨0,rfl,Nat.zero_le _,fun j hj=>absurd hj (Nat.not_lt_zero j),Below.refl _ _⟩
 case round=>
  obtain⟨k,rfl,hk,hall,hb⟩:=hrel
  by_cases hltk:k < n1
  ·(
 obtain⟨hfq,hzq⟩:=HF4.out _ hb
 have hsq:=HSW.out _ hfq.bel
 have hL:=HL2.out
 have hin0:=HLT.out
 have hkl:k < z.lo.length:=by omega
 obtain⟨b',o',y,c1',c2'⟩:=Zeo hsq HR.out (i:=i) (j:=k) (by omega) (by omega)
 have c3':=RQ hsq.rl hkl
 have HFQ:=Hd (hsq.fl.get k hkl)
 have HQ:=Hd (KA hkl)
 generalize z.lo[k]=q at*
 obtain⟨x,hx⟩: ∃x,bb z i k=x:=⟨_,rfl⟩
 obtain⟨r,hr⟩: ∃r,S.below hv q=r:=⟨_,rfl⟩
 have hc:=HRB.out _ hfq.bel hv q HFH.out HFQ.out
 rw[hr] at hc
 have HC:=Hd hc
 have HEQ:Hid ((!bb z i k||S.below (hg z i) (lw z k))=(!x||r)):=Hd (by rw[hx,HHG.out,HQ.out,hr])
 rw[hx] at c2'
 have z2:=hzq.p2
 have z1:=hzq.p1
 have z3:=hzq.p3
 have HALL:=Hd hall
 have HB:=Hd hb
 have HLK:=Hd hltk
 have hk1:(k:Int) < (n1:Int):=by omega
 have hk2:(k:Int) < (n2:Int):=by omega
 have hk3:(k:Int) < (n3:Int):=by omega
 have hk4:(k:Int) < (n4:Int):=by omega
 have hk9:k≤60000:=by have:=HN.out;omega
 have HUP:Hid ((!x||r)=true→ ∀j < k+1,(!bb z i j||S.below (hg z i) (lw z j))=true):=Hd fun e j hj=>by(
 by_cases ej:j=k
 ·subst ej;rw[HEQ.out];exact e
 ·exact HALL.out j (by omega))
 clear hall hb hltk hc hx hr hfq hzq hsq hkl hL hk hin0
 cases x with
 |false=>(
 have HUP':=Hd (HUP.out rfl)
 clear HUP
 go_wp2_with fail
 go_roundw
 case rel=>exact⟨k+1,by go_num,HLK.out,HUP'.out,HB.out⟩
 case measure=>(
 have:=HLK.out
 simp[intOf]
 omega))
 |true=>(
 go_wp2_with fail
 refine HC.out.mono ?_
 rintro e w5 ⟨rfl,hv5⟩
 have HB5:=Hd (HB.out.trans (hv5.mono HB.out.size))
 clear hv5 HC c1' c2' c3' z1 z2 z3
 cases r with
 |true=>(
 have HUP':=Hd (HUP.out rfl)
 clear HUP
 go_wp2_with fail
 go_roundw
 case rel=>exact⟨k+1,by go_num,HLK.out,HUP'.out,HB5.out⟩
 case measure=>(
 have:=HLK.out
 simp[intOf]
 omega))
 |false=>(
 obtain⟨hf5,hz5⟩:=HF4.out _ HB5.out
 have HF5:=Hd (hf5.no (Zcj HSX.out (by have:=HL2.out;have:=HLK.out;omega) HEQ.out))
 have HZ5:=Hd hz5
 clear hf5 hz5 HUP
 go_wp2_with fail
 go_roundw
 case rel=>exact⟨i+1,by go_num,HLT.out,HF5.out,HZ5.out⟩
 case measure=>(
 have:=HLT.out
 simp[intOf]
 omega))))
  ·obtain rfl:k=n1:=by omega
   obtain⟨hfq,hzq⟩:=HF4.out _ hb
   have HFIX:=Hd (ZaB (S:=S) HSX.out (by rw[HL2.out.1];exact hall))
   have HFZ:=Hd hfq
   have HZZZ:=Hd hzq
   have HVAL:=Hd ((Zk0 (by rw[HSD.out,HXS.out])).trans HHG.out)
   clear hall hb hfq hzq hk
   have hfz:=HFZ.out
   have d0:=(Zb (i:=i) hfz.a).trans (QG (by rw[YT];exact HLT.out))
   have f0:=Zc (i:=i) hfz.a
   have d1:=(Zb (i:=i) hfz.b).trans (La.Uc (by rw[YU];exact HLT.out))
   have f1:=Zc (i:=i) hfz.b
   have hne:=hfz.ne
   generalize (fxB S z k i)[i]'_=bx at*
   generalize (fxV S z k i)[i]'_=vx at*
   clear hfz
   go_wp2_with fail
   go_roundw
   case rel=>exact⟨i+1,by go_num,HLT.out,by rw[← HVAL.out];exact HFZ.out.yes HFIX.out,HFZ.out.zb HZZZ.out i _ _⟩
   case measure=>
    have:=HLT.out
    simp[intOf]
    omega))
 (focus(
 have HXS:=Hd hxs
 have HSX:=Hd (HSD.out.trans hxs)
 clear hs2 hxs
 by_cases hvl:hv=lv
 ·(
 have ht:((hv:Int) !=(lv:Int))=false:=by rw[hvl];simp
 have HFIX:Hid (fixB S z i=true):=Hd (by rw[YV HSX.out,HHG.out,HLW.out,decide_eq_true hvl])
 have HFZ:=Hd (HFX.out.keep HAL.out)
 have HZZZ:=Hd (HZB.out.keep HAL.out)
 have HVAL:=Hd ((RS (by rw[HSX.out];decide)).trans HLW.out)
 clear hvl
 have hfz:=HFZ.out
 have d0:=(Zb (i:=i) hfz.a).trans (QG (by rw[YT];exact HLT.out))
 have f0:=Zc (i:=i) hfz.a
 have d1:=(Zb (i:=i) hfz.b).trans (La.Uc (by rw[YU];exact HLT.out))
 have f1:=Zc (i:=i) hfz.b
 have hne:=hfz.ne
 generalize (fxB S z n1 i)[i]'_=bx at*
 generalize (fxV S z n1 i)[i]'_=vx at*
 clear hfz
 go_wp2_with fail
 go_roundw
 case rel=>exact⟨i+1,by go_num,HLT.out,by rw[← HVAL.out];exact HFZ.out.yes HFIX.out,HFZ.out.zb HZZZ.out i _ _⟩
 case measure=>(
 have:=HLT.out
 simp[intOf]
 omega))
 ·have ht:((hv:Int) !=(lv:Int))=true:=by
   rw[bne_iff_ne]
   omega
  have HF5:=Hd ((HFX.out.keep HAL.out).no (S:=S) (by rw[YV HSX.out,HHG.out,HLW.out,decide_eq_false hvl]))
  have HZ5:=Hd (HZB.out.keep HAL.out)
  clear hvl
  go_wp2_with fail
  go_roundw
  case rel=>exact⟨i+1,by go_num,HLT.out,HF5.out,HZ5.out⟩
  case measure=>
   have:=HLT.out
   simp[intOf]
   omega)))
  ·obtain rfl:i=n1:=by omega
   have HF:=Hd hfx
   clear hlt hfx hzb
   go_wp2_with fail
   try rw[Exit.noGoto_ret]
   go_ret2
   exact⟨_,_,_,_,_,_,rfl,HF.out.bel,.inr ⟨HR.out,u1,u2,rfl,HLEN.out.symm,rfl,rfl,rfl,rfl,HF.out⟩⟩))
 (focus(
 refine VL 22 (.tmp 20) rfl (HMB.out _) ⟨Za HZ2.out.p0 (bA),?_⟩
 simp only[Act.put,sA,sB,sC]
 repeat((first|refine Zf rfl ?_|(refine Zd (v:= ?_) rfl rfl ?_ ?_;rotate_left;(focus(rintro w' x0;go_simp;try with_reducible rfl))));simp only[Act.put,sA,sB,sC])
 have hB2:=HMA.out (w2.alloc (.cells (La.cl (List.replicate n1 0)) 60))
 rw[World.size_alloc] at hB2
 refine Ze rfl rfl (fun K hK=> ?_)
 refine VL 71 (.tmp 16) rfl hB2 (hK.out _ _ (fun _=>Za HZ2.out.p0 ((bA).alloc (by simp) _)) ?_)
 clear hK K hB2
 try simp only[Act.put,sA,sB,sC]
 repeat((first|refine Zf rfl ?_|(refine Zd (v:= ?_) rfl rfl ?_ ?_;rotate_left;(focus(rintro w' x0;go_simp;try with_reducible rfl))));simp only[Act.put,sA,sB,sC])
 refine Zg ?_
 have hfx:FxAt S z w ((w2.alloc (.cells (La.cl (List.replicate n1 0)) 60)).alloc (.cells (bcl (List.replicate n1 false)) 4)) (w2.heap.size+1) w2.heap.size n1 0:=by(
 have s1:(w2.alloc (.cells (La.cl (List.replicate n1 0)) 60)).heap.size=w2.heap.size+1:=by rw[World.size_alloc]
 have b2:Below (w2.heap.size+1) (w2.alloc (.cells (La.cl (List.replicate n1 0)) 60)) ((w2.alloc (.cells (La.cl (List.replicate n1 0)) 60)).alloc (.cells (bcl (List.replicate n1 false)) 4)):=(Below.refl _ _).alloc (by rw[s1];exact Nat.le_refl _) _
 have h2:=heap_alloc_new (w2.alloc (.cells (La.cl (List.replicate n1 0)) 60)) (.cells (bcl (List.replicate n1 false)) 4)
 rw[s1] at h2
 have h0:=World.block_lt_of_cell? w2 _ HZ2.out.p0
 replace h0:w.heap.size < w2.heap.size:=h0
 have ha:=h2
 have hb:=(b2.block _ (Nat.lt_succ_self _)).trans (heap_alloc_new w2 _)
 exact⟨(HB2.out.alloc HB2.out.size _).alloc (by rw[s1];exact Nat.le_succ_of_le HB2.out.size) _,by rw[← Zdo];exact ha,by rw[← Zdp];exact hb,by omega,by omega,by omega⟩)
 have hzz:ZB ((w2.alloc (.cells (La.cl (List.replicate n1 0)) 60)).alloc (.cells (bcl (List.replicate n1 false)) 4)) w.heap.size A1 n1 c1 A2 n2 c2 A3 n3 c3 A4 n4 c4:=HZ2.out.keep ((bA).alloc (by simp) _)
 have HFX:=Hd hfx
 have HZZ:=Hd hzz
 clear hfx hzz HMA HMB HZ2 HB2
 obtain⟨u1,hu1⟩: ∃u,w2.heap.size=u:=⟨_,rfl⟩
 simp only[hu1] at*
 obtain⟨u2,hu2⟩: ∃u,u1+1=u:=⟨_,rfl⟩
 simp only[hu2] at*
 clear hu1 hu2
 generalize (w2.alloc (.cells (La.cl (List.replicate n1 0)) 60)).alloc (.cells (bcl (List.replicate n1 false)) 4)=w3 at*
 have hz3:=HZZ.out.p0
 go_wp2_with fail
 refine wp_label ?_
 go_wp2_with fail
 clear hz3
 go_loopw [25] (fun v25 wr=> ∃i:Nat,v25= .int .i64 (i:Int)∧i≤n1∧FxAt S z w wr u2 u1 n1 i∧ZB wr w.heap.size A1 n1 c1 A2 n2 c2 A3 n3 c3 A4 n4 c4) (fun v25 _=>n1 - (intOf v25).toNat)
 case atStart=>exact⟨0,rfl,Nat.zero_le _,HFX.out,HZZ.out⟩
 case round=>
  clear HFX HZZ
  obtain⟨i,rfl,hi,hfx,hzb⟩:=hrel
  by_cases hlt:i < n1
  ·(
 have hsn:=HSW.out wr hfx.bel
 obtain⟨a1,a2,a3,a4,a5⟩:=ZE.1 HR.out
 have hl1:=HLEN.out
 have hl2:=hsn.rl.len
 have hl3:=hsn.rh.len
 have hl4:=hsn.rb.len
 have hip:i < z.p.length:=by omega
 have hil:i < z.lo.length:=by omega
 have hih:i < z.hi.length:=by omega
 obtain⟨p0,o0,rfl,-,e0,e1,e2,e3,e4⟩:=Z7 hsn.rp hip
 obtain⟨p1,o1,rfl,ev,fv⟩:=ZG hsn.rl hsn.fl hil
 obtain⟨p2,o2,rfl,eh,fh⟩:=ZG hsn.rh hsn.fh hih
 obtain⟨p4,o4,-,-,-,rfl,-,-⟩:=Vp hsn HR.out hip hip
 have hs2:=a4 _ (List.getElem_mem hip)
 have HSD:=Hd (ZaE hip)
 have HLW:=Hd (KA hil)
 have HHG:=Hd (Y1 hih)
 generalize z.p[i]=sp at*
 generalize z.lo[i]=lv at*
 generalize z.hi[i]=hv at*
 obtain⟨xn,xp,xs,xv,xz⟩:=sp
 simp only at e0 e1 e2 e3 e4 hs2
 have HSD:Hid (sd z i=xs):=HSD
 have HFV:=Hd fv
 have HFH:=Hd fh
 have HFX:=Hd hfx
 have HZB:=Hd hzb
 have HLT:=Hd hlt
 have HL2:=Hd (show z.p.length=n1∧n2=n1∧n3=n1∧n4=n1∧z.lo.length=n1∧z.hi.length=n1 by omega)
 have hin:(i:Int) < (n1:Int):=by omega
 have hin2:(i:Int) < (n2:Int):=by omega
 have hin3:(i:Int) < (n3:Int):=by omega
 have hin4:(i:Int) < (n4:Int):=by omega
 have z1:=hzb.p1
 have z2:=hzb.p2
 have hal:Below wr.heap.size wr (wr.alloc (.cells #[.int .i64 xn,.int .u8 (xp:Int),.int .u8 (xs:Int),.bool xv,.int .u64 xz] 67)):=bA
 have HAL:=Hd hal
 have y0:=Za hzb.p0 hal
 have y1:=Za z1 hal
 have y2:=Za z2 hal
 have yv:=Za ev hal
 have yh:=Za eh hal
 have hi9:i≤60000:=by have:=HN.out;omega
 clear hi hfx hzb hlt hsn a1 a2 a3 a4 a5 hl1 hl2 hl3 hl4 hip hil hih fv fh hal
 rcases ZaC hs2 with⟨hxs,g0⟩|⟨hxs,g0,g1⟩|⟨hxs,g0,g1,g2⟩
 (focus(
 have HXS:=Hd hxs
 have HSX:=Hd (HSD.out.trans hxs)
 clear hs2 hxs
 go_wp2_with fail
 have HF4:Hid (∀W,Below (wr.alloc (.cells #[.int .i64 xn,.int .u8 (xp:Int),.int .u8 (xs:Int),.bool xv,.int .u64 xz] 67)).heap.size (wr.alloc (.cells #[.int .i64 xn,.int .u8 (xp:Int),.int .u8 (xs:Int),.bool xv,.int .u64 xz] 67)) W→FxAt S z w W u2 u1 n1 i∧ZB W w.heap.size (some ⟨p0,o0,none⟩) n1 c1 (some ⟨p1,o1,none⟩) n2 c2 (some ⟨p2,o2,none⟩) n3 c3 (some ⟨p4,o4,none⟩) n4 c4):=Hd fun W hW=>⟨(HFX.out.keep HAL.out).keep hW,(HZB.out.keep HAL.out).keep hW⟩
 clear HFX HZB HAL z1 z2 y0 y1 y2 yv yh e0 e1 e2 e3 e4 ev eh g0
 generalize wr.alloc (.cells #[.int .i64 xn,.int .u8 (xp:Int),.int .u8 (xs:Int),.bool xv,.int .u64 xz] 67)=w4 at*
 obtain⟨wo,rfl⟩: ∃wo,wo=w4:=⟨_,rfl⟩
 go_loopw [42] (fun vk wq=> ∃k:Nat,vk= .int .i64 (k:Int)∧k≤n1∧(∀j < k,(!bb z j i||S.below (hg z j) (lw z i))=true)∧Below wo.heap.size wo wq) (fun vk _=>n1 - (intOf vk).toNat)
 case atStart=>exact⟨0,rfl,Nat.zero_le _,fun j hj=>absurd hj (Nat.not_lt_zero j),Below.refl _ _⟩
 case round=>
  obtain⟨k,rfl,hk,hall,hb⟩:=hrel
  by_cases hltk:k < n1
  ·(
 obtain⟨hfq,hzq⟩:=HF4.out _ hb
 have hsq:=HSW.out _ hfq.bel
 have hL:=HL2.out
 have hin0:=HLT.out
 have hkl:k < z.hi.length:=by omega
 obtain⟨b',o',y,c1',c2'⟩:=Zeo hsq HR.out (i:=k) (j:=i) (by omega) (by omega)
 have c3':=RQ hsq.rh hkl
 have HFQ:=Hd (hsq.fh.get k hkl)
 have HQ:=Hd (Y1 hkl)
 generalize z.hi[k]=q at*
 obtain⟨x,hx⟩: ∃x,bb z k i=x:=⟨_,rfl⟩
 obtain⟨r,hr⟩: ∃r,S.below q lv=r:=⟨_,rfl⟩
 have hc:=HRB.out _ hfq.bel q lv HFQ.out HFV.out
 rw[hr] at hc
 have HC:=Hd hc
 have HEQ:Hid ((!bb z k i||S.below (hg z k) (lw z i))=(!x||r)):=Hd (by rw[hx,HQ.out,HLW.out,hr])
 rw[hx] at c2'
 have z2:=hzq.p2
 have z1:=hzq.p1
 have z3:=hzq.p3
 have HALL:=Hd hall
 have HB:=Hd hb
 have HLK:=Hd hltk
 have hk1:(k:Int) < (n1:Int):=by omega
 have hk2:(k:Int) < (n2:Int):=by omega
 have hk3:(k:Int) < (n3:Int):=by omega
 have hk4:(k:Int) < (n4:Int):=by omega
 have hk9:k≤60000:=by have:=HN.out;omega
 have HUP:Hid ((!x||r)=true→ ∀j < k+1,(!bb z j i||S.below (hg z j) (lw z i))=true):=Hd fun e j hj=>by(
 by_cases ej:j=k
 ·subst ej;rw[HEQ.out];exact e
 ·exact HALL.out j (by omega))
 clear hall hb hltk hc hx hr hfq hzq hsq hkl hL hk hin0
 cases x with
 |false=>(
 have HUP':=Hd (HUP.out rfl)
 clear HUP
 go_wp2_with fail
 go_roundw
 case rel=>exact⟨k+1,by go_num,HLK.out,HUP'.out,HB.out⟩
 case measure=>(
 have:=HLK.out
 simp[intOf]
 omega))
 |true=>(
 go_wp2_with fail
 refine HC.out.mono ?_
 rintro e w5 ⟨rfl,hv5⟩
 have HB5:=Hd (HB.out.trans (hv5.mono HB.out.size))
 clear hv5 HC c1' c2' c3' z1 z2 z3
 cases r with
 |true=>(
 have HUP':=Hd (HUP.out rfl)
 clear HUP
 go_wp2_with fail
 go_roundw
 case rel=>exact⟨k+1,by go_num,HLK.out,HUP'.out,HB5.out⟩
 case measure=>(
 have:=HLK.out
 simp[intOf]
 omega))
 |false=>(
 obtain⟨hf5,hz5⟩:=HF4.out _ HB5.out
 have HF5:=Hd (hf5.no (Zci HSX.out (by have:=HL2.out;have:=HLK.out;omega) HEQ.out))
 have HZ5:=Hd hz5
 clear hf5 hz5 HUP
 go_wp2_with fail
 go_roundw
 case rel=>exact⟨i+1,by go_num,HLT.out,HF5.out,HZ5.out⟩
 case measure=>(
 have:=HLT.out
 simp[intOf]
 omega))))
  ·obtain rfl:k=n1:=by omega
   obtain⟨hfq,hzq⟩:=HF4.out _ hb
   have HFIX:=Hd (ZaA (S:=S) HSX.out (by rw[HL2.out.1];exact hall))
   have HFZ:=Hd hfq
   have HZZZ:=Hd hzq
   have HVAL:=Hd (RS (by rw[HSD.out,HXS.out];decide)|>.trans HLW.out)
   clear hall hb hfq hzq hk
   have hfz:=HFZ.out
   have d0:=(Zb (i:=i) hfz.a).trans (QG (by rw[YT];exact HLT.out))
   have f0:=Zc (i:=i) hfz.a
   have d1:=(Zb (i:=i) hfz.b).trans (La.Uc (by rw[YU];exact HLT.out))
   have f1:=Zc (i:=i) hfz.b
   have hne:=hfz.ne
   generalize (fxB S z k i)[i]'_=bx at*
   generalize (fxV S z k i)[i]'_=vx at*
   clear hfz
   go_wp2_with fail
   go_roundw
   case rel=>exact⟨i+1,by go_num,HLT.out,by rw[← HVAL.out];exact HFZ.out.yes HFIX.out,HFZ.out.zb HZZZ.out i _ _⟩
   case measure=>
    have:=HLT.out
    simp[intOf]
    omega))
 (focus(
 have HXS:=Hd hxs
 have HSX:=Hd (HSD.out.trans hxs)
 clear hs2 hxs
 go_wp2_with fail
 have HF4:Hid (∀W,Below (wr.alloc (.cells #[.int .i64 xn,.int .u8 (xp:Int),.int .u8 (xs:Int),.bool xv,.int .u64 xz] 67)).heap.size (wr.alloc (.cells #[.int .i64 xn,.int .u8 (xp:Int),.int .u8 (xs:Int),.bool xv,.int .u64 xz] 67)) W→FxAt S z w W u2 u1 n1 i∧ZB W w.heap.size (some ⟨p0,o0,none⟩) n1 c1 (some ⟨p1,o1,none⟩) n2 c2 (some ⟨p2,o2,none⟩) n3 c3 (some ⟨p4,o4,none⟩) n4 c4):=Hd fun W hW=>⟨(HFX.out.keep HAL.out).keep hW,(HZB.out.keep HAL.out).keep hW⟩
 clear HFX HZB HAL z1 z2 y0 y1 y2 yv yh e0 e1 e2 e3 e4 ev eh g0 g1
 generalize wr.alloc (.cells #[.int .i64 xn,.int .u8 (xp:Int),.int .u8 (xs:Int),.bool xv,.int .u64 xz] 67)=w4 at*
 obtain⟨wo,rfl⟩: ∃wo,wo=w4:=⟨_,rfl⟩
 go_loopw [75] (fun vk wq=> ∃k:Nat,vk= .int .i64 (k:Int)∧k≤n1∧(∀j < k,(!bb z i j||S.below (hg z i) (lw z j))=true)∧Below wo.heap.size wo wq) (fun vk _=>n1 - (intOf vk).toNat)
 case atStart=>exact⟨0,rfl,Nat.zero_le _,fun j hj=>absurd hj (Nat.not_lt_zero j),Below.refl _ _⟩
 case round=>
  obtain⟨k,rfl,hk,hall,hb⟩:=hrel
  by_cases hltk:k < n1
  ·(
 obtain⟨hfq,hzq⟩:=HF4.out _ hb
 have hsq:=HSW.out _ hfq.bel
 have hL:=HL2.out
 have hin0:=HLT.out
 have hkl:k < z.lo.length:=by omega
 obtain⟨b',o',y,c1',c2'⟩:=Zeo hsq HR.out (i:=i) (j:=k) (by omega) (by omega)
 have c3':=RQ hsq.rl hkl
 have HFQ:=Hd (hsq.fl.get k hkl)
 have HQ:=Hd (KA hkl)
 generalize z.lo[k]=q at*
 obtain⟨x,hx⟩: ∃x,bb z i k=x:=⟨_,rfl⟩
 obtain⟨r,hr⟩: ∃r,S.below hv q=r:=⟨_,rfl⟩
 have hc:=HRB.out _ hfq.bel hv q HFH.out HFQ.out
 rw[hr] at hc
 have HC:=Hd hc
 have HEQ:Hid ((!bb z i k||S.below (hg z i) (lw z k))=(!x||r)):=Hd (by rw[hx,HHG.out,HQ.out,hr])
 rw[hx] at c2'
 have z2:=hzq.p2
 have z1:=hzq.p1
 have z3:=hzq.p3
 have HALL:=Hd hall
 have HB:=Hd hb
 have HLK:=Hd hltk
 have hk1:(k:Int) < (n1:Int):=by omega
 have hk2:(k:Int) < (n2:Int):=by omega
 have hk3:(k:Int) < (n3:Int):=by omega
 have hk4:(k:Int) < (n4:Int):=by omega
 have hk9:k≤60000:=by have:=HN.out;omega
 have HUP:Hid ((!x||r)=true→ ∀j < k+1,(!bb z i j||S.below (hg z i) (lw z j))=true):=Hd fun e j hj=>by(
 by_cases ej:j=k
 ·subst ej;rw[HEQ.out];exact e
 ·exact HALL.out j (by omega))
 clear hall hb hltk hc hx hr hfq hzq hsq hkl hL hk hin0
 cases x with
 |false=>(
 have HUP':=Hd (HUP.out rfl)
 clear HUP
 go_wp2_with fail
 go_roundw
 case rel=>exact⟨k+1,by go_num,HLK.out,HUP'.out,HB.out⟩
 case measure=>(
 have:=HLK.out
 simp[intOf]
 omega))
 |true=>(
 go_wp2_with fail
 refine HC.out.mono ?_
 rintro e w5 ⟨rfl,hv5⟩
 have HB5:=Hd (HB.out.trans (hv5.mono HB.out.size))
 clear hv5 HC c1' c2' c3' z1 z2 z3
 cases r with
 |true=>(
 have HUP':=Hd (HUP.out rfl)
 clear HUP
 go_wp2_with fail
 go_roundw
 case rel=>exact⟨k+1,by go_num,HLK.out,HUP'.out,HB5.out⟩
 case measure=>(
 have:=HLK.out
 simp[intOf]
 omega))
 |false=>(
 obtain⟨hf5,hz5⟩:=HF4.out _ HB5.out
 have HF5:=Hd (hf5.no (Zcj HSX.out (by have:=HL2.out;have:=HLK.out;omega) HEQ.out))
 have HZ5:=Hd hz5
 clear hf5 hz5 HUP
 go_wp2_with fail
 go_roundw
 case rel=>exact⟨i+1,by go_num,HLT.out,HF5.out,HZ5.out⟩
 case measure=>(
 have:=HLT.out
 simp[intOf]
 omega))))
  ·obtain rfl:k=n1:=by omega
   obtain⟨hfq,hzq⟩:=HF4.out _ hb
   have HFIX:=Hd (ZaB (S:=S) HSX.out (by rw[HL2.out.1];exact hall))
   have HFZ:=Hd hfq
   have HZZZ:=Hd hzq
   have HVAL:=Hd ((Zk0 (by rw[HSD.out,HXS.out])).trans HHG.out)
   clear hall hb hfq hzq hk
   have hfz:=HFZ.out
   have d0:=(Zb (i:=i) hfz.a).trans (QG (by rw[YT];exact HLT.out))
   have f0:=Zc (i:=i) hfz.a
   have d1:=(Zb (i:=i) hfz.b).trans (La.Uc (by rw[YU];exact HLT.out))
   have f1:=Zc (i:=i) hfz.b
   have hne:=hfz.ne
   generalize (fxB S z k i)[i]'_=bx at*
   generalize (fxV S z k i)[i]'_=vx at*
   clear hfz
   go_wp2_with fail
   go_roundw
   case rel=>exact⟨i+1,by go_num,HLT.out,by rw[← HVAL.out];exact HFZ.out.yes HFIX.out,HFZ.out.zb HZZZ.out i _ _⟩
   case measure=>
    have:=HLT.out
    simp[intOf]
    omega))
 (focus(
 have HXS:=Hd hxs
 have HSX:=Hd (HSD.out.trans hxs)
 clear hs2 hxs
 by_cases hvl:hv=lv
 ·(
 have ht:((hv:Int) !=(lv:Int))=false:=by rw[hvl];simp
 have HFIX:Hid (fixB S z i=true):=Hd (by rw[YV HSX.out,HHG.out,HLW.out,decide_eq_true hvl])
 have HFZ:=Hd (HFX.out.keep HAL.out)
 have HZZZ:=Hd (HZB.out.keep HAL.out)
 have HVAL:=Hd ((RS (by rw[HSX.out];decide)).trans HLW.out)
 clear hvl
 have hfz:=HFZ.out
 have d0:=(Zb (i:=i) hfz.a).trans (QG (by rw[YT];exact HLT.out))
 have f0:=Zc (i:=i) hfz.a
 have d1:=(Zb (i:=i) hfz.b).trans (La.Uc (by rw[YU];exact HLT.out))
 have f1:=Zc (i:=i) hfz.b
 have hne:=hfz.ne
 generalize (fxB S z n1 i)[i]'_=bx at*
 generalize (fxV S z n1 i)[i]'_=vx at*
 clear hfz
 go_wp2_with fail
 go_roundw
 case rel=>exact⟨i+1,by go_num,HLT.out,by rw[← HVAL.out];exact HFZ.out.yes HFIX.out,HFZ.out.zb HZZZ.out i _ _⟩
 case measure=>(
 have:=HLT.out
 simp[intOf]
 omega))
 ·have ht:((hv:Int) !=(lv:Int))=true:=by
   rw[bne_iff_ne]
   omega
  have HF5:=Hd ((HFX.out.keep HAL.out).no (S:=S) (by rw[YV HSX.out,HHG.out,HLW.out,decide_eq_false hvl]))
  have HZ5:=Hd (HZB.out.keep HAL.out)
  clear hvl
  go_wp2_with fail
  go_roundw
  case rel=>exact⟨i+1,by go_num,HLT.out,HF5.out,HZ5.out⟩
  case measure=>
   have:=HLT.out
   simp[intOf]
   omega)))
  ·obtain rfl:i=n1:=by omega
   have HF:=Hd hfx
   clear hlt hfx hzb
   go_wp2_with fail
   try rw[Exit.noGoto_ret]
   go_ret2
   exact⟨_,_,_,_,_,_,rfl,HF.out.bel,.inr ⟨HR.out,u2,u1,rfl,HLEN.out.symm,rfl,rfl,rfl,rfl,HF.out⟩⟩)))
end Go.Proofs.YtmejhedegmjboaaGreat.I
namespace Go.Proofs.YtmejhedegmjboaaGreat.I
open Go.RowKit
structure Cl (W:World)(z:Sen)(n p0 o0 p1 o1 p2 o2 p4 o4:Nat):Prop where
 s: ∀i < n,W.cell? ⟨p0,o0+i*5+2,none⟩=some (.int .u8 (sd z i:Int))
 l: ∀i < n,W.cell? ⟨p1,o1+i,none⟩=some (.int .u64 (lw z i:Int))
 h: ∀i < n,W.cell? ⟨p2,o2+i,none⟩=some (.int .u64 (hg z i:Int))
 b: ∀i < n,∃g o y,W.cell? ⟨p4,o4+i,none⟩=some (.slice (some ⟨g,o,none⟩) n y)∧ ∀j < n,W.cell? ⟨g,o+j,none⟩=some (.bool (bb z i j))
theorem Cl.keep {W V:World}{z:Sen}{n p0 o0 p1 o1 p2 o2 p4 o4:Nat}(h:Cl W z n p0 o0 p1 o1 p2 o2 p4 o4)(hb:Below W.heap.size W V):Cl V z n p0 o0 p1 o1 p2 o2 p4 o4:=
 ⟨fun i hi=>Za (h.s i hi) hb,fun i hi=>Za (h.l i hi) hb,fun i hi=>Za (h.h i hi) hb,fun i hi=>by
  obtain⟨g,o,y,e1,e2⟩:=h.b i hi
  exact⟨g,o,y,Za e1 hb,fun j hj=>Za (e2 j hj) hb⟩⟩
theorem Zgc {w:World}{z:Sen}{A1:Option Addr}{n1 c1:Nat}{A2:Option Addr}{n2 c2:Nat}{A3:Option Addr}{n3 c3:Nat}{A4:Option Addr}{n4 c4:Nat}(h:Zx w z A1 n1 c1 A2 n2 c2 A3 n3 c3 A4 n4 c4)(hw:Zn z=true)(h0:0 < n1):
  ∃p0 o0 p1 o1 p2 o2 p4 o4,A1=some ⟨p0,o0,none⟩∧A2=some ⟨p1,o1,none⟩∧A3=some ⟨p2,o2,none⟩∧A4=some ⟨p4,o4,none⟩∧n2=n1∧n3=n1∧n4=n1∧z.p.length=n1∧(∀i,sd z i≤2)∧Cl w z n1 p0 o0 p1 o1 p2 o2 p4 o4:=by
 obtain⟨a1,a2,a3,a4,a5⟩:=ZE.1 hw
 have hl1:=h.rp.len
 have hl2:=h.rl.len
 have hl3:=h.rh.len
 have hl4:=h.rb.len
 have hsd: ∀i,sd z i≤2:=fun i=>by(
 by_cases hi:i < z.p.length
 ·rw[ZaE hi];exact a4 _ (List.getElem_mem hi)
 ·unfold sd
  rw[List.getD_eq_getElem?_getD,List.getElem?_eq_none (by omega)]
  exact Nat.zero_le _)
 obtain⟨p0,o0,e0,-⟩:=Z7 (k:=0) h.rp (by omega)
 obtain⟨p1,o1,e1,-⟩:=ZG (i:=0) h.rl h.fl (by omega)
 obtain⟨p2,o2,e2,-⟩:=ZG (i:=0) h.rh h.fh (by omega)
 obtain⟨p4,o4,-,-,-,e4,-,-⟩:=Vp (i:=0) (j:=0) h hw (by omega) (by omega)
 subst e0 e1 e2 e4
 refine⟨p0,o0,p1,o1,p2,o2,p4,o4,rfl,rfl,rfl,rfl,by omega,by omega,by omega,by omega,hsd,fun i hi=> ?_,fun i hi=> ?_,fun i hi=> ?_,fun i hi=> ?_⟩
 ·(
 obtain⟨b,o,e,-,-,-,hc,-,-⟩:=Z7 (k:=i) h.rp (by omega)
 injection e with e
 injection e with ea eb
 subst ea eb
 rw[ZaE (by omega)]
 exact hc)
 ·(
 obtain⟨b,o,e,hc,-⟩:=ZG (i:=i) h.rl h.fl (by omega)
 injection e with e
 injection e with ea eb
 subst ea eb
 rw[KA (by omega)]
 exact hc)
 ·(
 obtain⟨b,o,e,hc,-⟩:=ZG (i:=i) h.rh h.fh (by omega)
 injection e with e
 injection e with ea eb
 subst ea eb
 rw[Y1 (by omega)]
 exact hc)
 ·(
 obtain⟨g,o,y,hc,-⟩:=Zeo (i:=i) (j:=0) h hw (by omega) (by omega)
 refine⟨g,o,y,hc,fun j hj=> ?_⟩
 obtain⟨g',o',y',hc',hb⟩:=Zeo (i:=i) (j:=j) h hw (by omega) (by omega)
 rw[hc] at hc'
 injection hc' with e
 injection e with ea eb
 injection ea with ea
 injection ea with ea ec
 subst ea ec
 exact hb)
def AlD (z:Sen)(i k:Nat):Prop:=i=k∨(okA z i=true∧okA z k=true∧Look z i k)
theorem Zie {z:Sen}{i:Nat}(h:sd z i≠2):okA z i=true:=by
 unfold okA
 rw[decide_eq_false h]
 rfl
theorem ok_2 {z:Sen}{i:Nat}(h:sd z i=2):okA z i=bb z i i:=by
 unfold okA
 rw[decide_eq_true h]
 rfl
theorem Zif {z:Sen}{i k:Nat}(h:sd z i≠sd z k): ¬AlD z i k:=fun e=>by
 rcases e with e|e
 ·exact h (by rw[e])
 ·exact h e.2.2.1
theorem ZkN {z:Sen}{i k:Nat}(h1:sd z i≠1)(h:lw z i≠lw z k): ¬AlD z i k:=fun e=>by
 rcases e with e|e
 ·exact h (by rw[e])
 ·exact h (e.2.2.2.1 h1).1
theorem ZkO {z:Sen}{i k:Nat}(h1:sd z i≠0)(h:hg z i≠hg z k): ¬AlD z i k:=fun e=>by
 rcases e with e|e
 ·exact h (by rw[e])
 ·exact h (e.2.2.2.2 h1).1
theorem Zgd {z:Sen}{i k m:Nat}(h1:sd z i≠1)(hm:m < z.p.length)(h:bb z m i≠bb z m k): ¬AlD z i k:=fun e=>by
 rcases e with e|e
 ·exact h (by rw[e])
 ·exact h ((e.2.2.2.1 h1).2 m hm)
theorem Zge {z:Sen}{i k m:Nat}(h1:sd z i≠0)(hm:m < z.p.length)(h:bb z i m≠bb z k m): ¬AlD z i k:=fun e=>by
 rcases e with e|e
 ·exact h (by rw[e])
 ·exact h ((e.2.2.2.2 h1).2 m hm)
theorem Zl5 {z:Sen}{i k:Nat}(h0:sd z i=0)(hs:sd z i=sd z k)(hl:lw z i=lw z k)(ha: ∀m < z.p.length,bb z m i=bb z m k):AlD z i k:=
 .inr ⟨Zie (by omega),Zie (by omega),hs,fun _=>⟨hl,ha⟩,fun h=>absurd h0 h⟩
theorem Zig {z:Sen}{i k:Nat}(h0:sd z i=1)(hs:sd z i=sd z k)(hl:hg z i=hg z k)(ha: ∀m < z.p.length,bb z i m=bb z k m):AlD z i k:=
 .inr ⟨Zie (by omega),Zie (by omega),hs,fun h=>absurd h0 h,fun _=>⟨hl,ha⟩⟩
theorem Zas {z:Sen}{i k:Nat}(h0:sd z i=2)(hs:sd z i=sd z k)(hne:i≠k)(hi:i < z.p.length)(hk:k < z.p.length)(ha: ∀m < z.p.length,bb z m i=bb z m k∧bb z i m=bb z k m){r:Bool}(hr:r=(decide (lw z i=lw z k) && (decide (hg z i=hg z k) && (bb z i k && bb z k i)))):r=true↔AlD z i k:=by
 rw[hr,Bool.and_eq_true,Bool.and_eq_true,Bool.and_eq_true,decide_eq_true_eq,decide_eq_true_eq]
 constructor
 ·intro⟨h1,h2,h3,h4⟩
  refine .inr ⟨?_,?_,hs,fun _=>⟨h1,fun m hm=>(ha m hm).1⟩,fun _=>⟨h2,fun m hm=>(ha m hm).2⟩⟩
  ·rw[ok_2 h0,(ha i hi).1];exact h3
  ·rw[ok_2 (by omega), ← (ha k hk).2];exact h3
 ·(
 intro h
 rcases h with h|⟨o1,o2,l⟩
 ·exact absurd h hne
 ·rw[ok_2 h0] at o1
  rw[ok_2 (by omega)] at o2
  exact⟨(l.2.1 (by omega)).1,(l.2.2 (by omega)).1,by rw[← (ha i hi).1];exact o1,by rw[(ha k hk).1];exact o2⟩)
end Go.Proofs.YtmejhedegmjboaaGreat.I
