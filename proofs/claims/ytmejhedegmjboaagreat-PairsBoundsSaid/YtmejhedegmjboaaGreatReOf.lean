import Derived.Laws.Tables
import Derived.StillTailTactics
import Derived.Test.YtmejhedegmjboaaGreatRange
import Derived.Test.YtmejhedegmjboaaGreatReRch
set_option maxRecDepth 100000
set_option maxHeartbeats 4000000
namespace Go.Proofs.YtmejhedegmjboaaGreat.Re
open Go.Proofs.YtmejhedegmjboaaGreat.Bo (Bd bdc Zr Ky tmv wrap_small Qz Uh U9)
open Go.RowKit
def tv (t:List Nat):Value:= .agg (La.cl t)
theorem VP (t:List Nat)(i j:Nat)(w:World)(ht:t.length=64)(hf:La.Fit t)(hi:i < 64)(hj:j < 64):
  Calls Tryz.prog 146 #[tv t,.int .i64 (i:Int),.int .i64 (j:Int)] w fun e w'=>e= .returned (.bool (La.bt t i j))∧Below w.heap.size w w':=by
 have hb:Below w.heap.size w (w.alloc (.cells (La.cl t) 190)):=bA
 have hx:=heap_alloc_new w (.cells (La.cl t) 190)
 have hi':i < t.length:=by omega
 have hc:=(Zb (i:=i) hx).trans (La.Uc hi')
 have e:La.bt t i j=t[i].testBit j:=La.Q5 hi' j
 have hs:=La.ZiZ (k:=j) (hf.get i hi')
 rw[Nat.min_eq_left (show j≤64 by omega)] at hs
 rw[e, ← hs]
 clear e hs hx
 generalize t[i]=x at*
 unfold tv
 clear ht hf hi'
 have hi2:(i:Int) < 64:=by omega
 have hj2:(j:Int) < 64:=by omega
 go_enter Tryz.func146,Tryz.ntmps146
 go_wp2
 go_ret
 exact⟨rfl,hb⟩
theorem Zi0 (W:World):(zeroValue 190).run Tryz.prog W= .ok (.agg (La.cl (idK 0))) W:=by kernel_rfl
theorem Ze1 {t:List Nat}(h:t.length=64): ¬(La.cl t= #[]):=fun e=>by
 have:=congrArg Array.size e
 simp[La.cl,h] at this
theorem VQ (t:List Nat):(La.cl t).size=t.length:=by simp[La.cl]
theorem Zi1 (t:List Nat):(La.cl t).all (·.oneCell')=true:=by
 rw[Array.all_eq_true_iff_forall_mem]
 intro v hv
 obtain⟨x,_,rfl⟩:=List.mem_map.1 (by simpa [La.cl] using hv:v∈t.map La.nm)
 rfl
theorem below_setRow {B:Nat}{w w':World}(h:Below B w w'){g:Nat}(hg:B≤g)(cs:Array Value):Below B w (w'.setRow g cs):=
 ⟨h.os,h.tape,h.output,by rw[setRow_size];exact h.size,fun b hb=>(setRow_other w' g b cs (by omega)).trans (h.block b hb)⟩
theorem Y6:(Tryz.prog.info? 190).map (·.size)=some 64:=by kernel_rfl
def ZmJ (q:Nat)(w:World)(g:Nat)(v9:Value)(wr:World):Prop:=
 ∃k:Nat,v9= .int .i64 (k:Int)∧k≤q∧wr.heap[g]?=some (.cells (La.cl (idK k)) 190 (0,0))∧Below w.heap.size w wr
def ZmK (q:Nat)(l:List Bd)(w:World)(g:Nat)(v19:Value)(wr:World):Prop:=
 ∃k:Nat,v19= .int .i64 (k:Int)∧k≤l.length∧wr.heap[g]?=some (.cells (La.cl (dirN q (l.take k))) 190 (0,0))∧Below w.heap.size w wr
theorem Zhk (q:Nat)(l:List Bd)(k:Nat)(h:k < l.length):dirN q (l.take (k+1))=putB (dirN q (l.take k)) l[k]:=by
 rw[dirN,List.take_succ_eq_append_getElem h,List.foldl_append]
 rfl
theorem ZdO (q:Nat)(A:Option Addr)(n c:Nat)(l:List Bd)(w:World)(h:Rs bdc 4 w w.heap.size A n c l)(hq:q≤64)(hm: ∀b∈l,mayB q b=true):
  Calls Tryz.prog 121 #[.int .i64 (q:Int),.slice A n c] w fun e w'=>e= .returned (tv (dirN q l))∧Below w.heap.size w w':=by
 have HL:=Hd h.len
 have htop:=h.top
 have hcap:=h.cap
 unfold maxLen at htop
 have HR:=Hd h
 have HM:=Hd hm
 have HQ:=Hd hq
 have hz:=Zi0
 have hsm:=Ze1 (YA 0)
 have hb0:Below w.heap.size w (w.alloc (.cells (La.cl (idK 0)) 190)):=bA
 clear h hm hq
 go_enter Tryz.func121,Tryz.ntmps121
 go_wp2
 go_loopw [9] (fun v9 wr=>ZmJ q w w.heap.size v9 wr) (fun v9 _=>q - (intOf v9).toNat)
 case atStart=>exact⟨0,rfl,by omega,heap_alloc_new _ _,hb0⟩
 case round=>(
 clear hb0 hz hsm
 obtain⟨k,rfl,hk,hblk,hb⟩:=hrel
 have hq64:=HQ.out
 by_cases hlt:k < q
 ·(
 have hfz:wr.frozen? ⟨w.heap.size,k,none⟩=false:=Zc hblk
 have hkl:k < (idK k).length:=by rw[YA];omega
 have hce:=(Zb (i:=k) hblk).trans (La.Uc hkl)
 have hp:=La.Ud (k:=k) (by omega)
 have hk64:(k:Int) < 64:=by omega
 have HB:=Hd hblk
 have HS:=Hd (ZjF (k:=k))
 clear hblk
 generalize hpp:2 ^ k=p at*
 generalize (idK k)[k]=z at*
 clear hpp
 go_wp2
 go_roundw
 case rel=>exact⟨k+1,by go_num,by omega,by rw[Zm HB.out,La.Q8,HS.out],hb.setCell (p:=⟨w.heap.size,k,none⟩) lR _⟩
 case measure=>simp[intOf];omega)
 ·(
 obtain rfl:k=q:=by omega
 have HB:=Hd hblk
 clear hblk
 go_wp2
 go_loopw [19] (fun v19 wr=>ZmK k l w w.heap.size v19 wr) (fun v19 _=>n - (intOf v19).toNat)
 case atStart=>exact⟨0,rfl,by omega,HB.out,hb⟩
 case round=>(
 clear hb HB
 obtain⟨j,rfl,hj,hblk,hb⟩:=hrel
 by_cases hlt2:j < n
 ·(
 have hj':j < l.length:=by rw[HL.out];exact hlt2
 have hr:=(HR.out.at_size lR hb)
 obtain⟨b,o,rfl,hbb,e0,e1,e2,e3⟩:=Ky hr hj'
 have hmb:=HM.out _ (List.getElem_mem hj')
 have HF:=Hd (Zhk k l j hj')
 have hmt: ∀b∈l.take j,mayB k b=true:=fun b hb=>HM.out b (List.mem_of_mem_take hb)
 have hlen:=ZbK hq64 hmt
 have hlt64:=ZiW hq64 hmt
 have HLT:=Hd hlt2
 generalize l[j]=y at*
 generalize dirN k (l.take j)=t at*
 obtain⟨av,an,bv,bn⟩:=y
 simp only at e0 e1 e2 e3
 have hsz:=hb.size
 have hltw:w.heap.size < wr.heap.size:=Zh hblk
 have hnew:=heap_alloc_new wr (.cells #[.bool av,.int .u64 (an:Int),.bool bv,.int .u64 (bn:Int)] 69)
 have g0:=(Zb (i:=0) hnew).trans rfl
 have g1:=(Zb (i:=1) hnew).trans rfl
 have g2:=(Zb (i:=2) hnew).trans rfl
 have g3:=(Zb (i:=3) hnew).trans rfl
 have HB2:Hid ((wr.alloc (.cells #[.bool av,.int .u64 (an:Int),.bool bv,.int .u64 (bn:Int)] 69)).heap[w.heap.size]?=some (.cells (La.cl t) 190 (0,0))):=Hd ((Below.heap_alloc wr _ _ hltw).trans hblk)
 have hb2:=hb.alloc hb.size (.cells #[.bool av,.int .u64 (an:Int),.bool bv,.int .u64 (bn:Int)] 69)
 clear hblk hnew hr hbb hlt2 hmt hj'
 replace g0:_=some (Value.bool av):=g0
 replace g1:_=some (Value.int .u64 (an:Int)):=g1
 replace g2:_=some (Value.bool bv):=g2
 replace g3:_=some (Value.int .u64 (bn:Int)):=g3
 cases av with
 |false=>(
 have HE:Hid (dirN k (l.take (j+1))=t):=Hd HF.out
 clear HF g1 g2 g3 hmb hlt64
 have hjn:=HLT.out
 go_wp2
 go_roundw
 case rel=>exact⟨j+1,by go_num,by have:=HL.out;omega,by rw[HE.out];exact HB2.out,hb2⟩
 case measure=>simp[intOf];omega)
 |true=>(
 cases bv with
 |false=>(
 have HE:Hid (dirN k (l.take (j+1))=t):=Hd HF.out
 clear HF g1 g3 hmb hlt64
 have hjn:=HLT.out
 go_wp2
 go_roundw
 case rel=>exact⟨j+1,by go_num,by have:=HL.out;omega,by rw[HE.out];exact HB2.out,hb2⟩
 case measure=>simp[intOf];omega)
 |true=>(
 obtain⟨han,hbn⟩:=KR hmb rfl rfl
 replace han:an < k:=han
 replace hbn:bn < k:=hbn
 have hxl:an < t.length:=by omega
 have HP:Hid (dirN k (l.take (j+1))=t.set an (t[an]|||2 ^ bn)):=Hd (by
 rw[HF.out,putB]
 simp only[Bool.and_true,cond_true]
 rw[List.getD_eq_getElem?_getD,List.getElem?_eq_getElem hxl]
 rfl)
 have e4:=(Zb (i:=an) HB2.out).trans (La.Uc hxl)
 have e5:=Zc (i:=an) HB2.out
 have hor:=u64_or_nat t[an] (2 ^ bn) (hlt64 _ (List.getElem_mem hxl)) (Nat.pow_lt_pow_right (n:=64) (by decide) (by omega))
 have hp:=La.Ud (k:=bn) (by omega)
 have han64:(an:Int) < 64:=by omega
 have hbn64:(bn:Int) < 64:=by omega
 clear hmb HF hlt64
 generalize 2 ^ bn=p at*
 generalize t[an]=z at*
 clear hxl hlen
 have hjn:=HLT.out
 go_wp2
 generalize wr.alloc (.cells #[.bool true,.int .u64 (an:Int),.bool true,.int .u64 (bn:Int)] 69)=w2 at*
 generalize wr.heap.size=bx at*
 go_still_tail 11,(by kernel_rfl)
 change wpList _ _ _ _ _ w2.drew
 have HB3:Hid (w2.drew.heap[w.heap.size]?=some (.cells (La.cl t) 190 (0,0))):=HB2
 have f3:w2.drew.cell? ⟨w.heap.size,an,none⟩=some (.int .u64 (z:Int)):=e4
 have f4:w2.drew.frozen? ⟨w.heap.size,an,none⟩=false:=e5
 have hb3:Below w.heap.size w w2.drew:=hb2.trans (La.Vb _)
 clear g0 g1 g2 g3 e4 e5 hb2 HB2
 generalize w2.drew=w3 at*
 go_wp2
 go_roundw
 case rel=>exact⟨j+1,by go_num,by have:=HL.out;omega,by rw[Zm HB3.out,La.Q8,HP.out],hb3.setCell (p:=⟨w.heap.size,an,none⟩) lR _⟩
 case measure=>simp[intOf];omega)))
 ·(
 obtain rfl:j=n:=by have:=HL.out;omega
 rw[← HL.out,List.take_length] at hblk
 have hlen:=ZbK hq64 HM.out
 have HB:=Hd hblk
 clear hblk
 go_wp2_with (first|(with_reducible refine wpList_load_row rfl 190 (.tmp 4) rfl w.heap.size rfl 190 (La.cl (dirN k l)) (0,0) _ HB.out Tryz.underlying190 rfl (by rw[Y6,VQ,hlen]) ?_)|(with_reducible refine wpList_store_row rfl 190 (.tmp 4) (.tmp 43) rfl w.heap.size (La.cl (dirN k l)) rfl rfl 190 _ HB.out (by rw[Y6,VQ,hlen]) rfl (Zi1 _) ?_))
 exact bodyPost_ret (results_cell_row (P:=Tryz.prog) rfl _ _ w.heap.size 190 _ (0,0) _ rfl (setRow_heap _ _ _ _ _ _ HB.out) Tryz.underlying190 rfl (by rw[Y6,VQ,hlen])) rfl ⟨rfl,below_setRow hb lR _⟩))))
theorem ZcL {t:List Nat}{k i:Nat}(h:La.Fit t):La.Fit (La.stepW t k i):=by
 intro x hx
 obtain⟨y,hy,rfl⟩:=List.mem_map.1 hx
 have hy:=List.mem_range.1 hy
 split
 ·(
 refine Nat.or_lt_two_pow (n:=64) (h _ (La.getD_mem hy)) ?_
 by_cases hk:k < t.length
 ·exact h _ (La.getD_mem hk)
 ·rw[La.UA hk]
  exact Nat.two_pow_pos 64)
 ·exact h _ (La.getD_mem hy)
theorem ZbQ {q:Nat}{t:List Nat}(h:La.Fit t): ∀k,La.Fit (thrN q t k)
 |0=>h
 |k+1=>ZcL (ZbQ h k)
theorem Zad {q:Nat}{t:List Nat}(h:t.length=64): ∀k,(thrN q t k).length=64
 |0=>h
 |k+1=>by rw[thrN,La.Vj];exact Zad h k
def TRel (q:Nat)(t:List Nat)(w:World)(g:Nat)(v8:Value)(wr:World):Prop:=
 ∃k:Nat,v8= .int .i64 (k:Int)∧k≤q∧wr.heap[g]?=some (.cells (La.cl (thrN q t k)) 190 (0,0))∧wr.heap[g+1]?=some (.cells (La.cl (idK 0)) 190 (0,0))∧Below w.heap.size w wr
def TIn (q:Nat)(t:List Nat)(k:Nat)(w:World)(g:Nat)(v12:Value)(wr:World):Prop:=
 ∃i:Nat,v12= .int .i64 (i:Int)∧i≤q∧wr.heap[g]?=some (.cells (La.cl (La.stepW t k i)) 190 (0,0))∧wr.heap[g+1]?=some (.cells (La.cl (idK 0)) 190 (0,0))∧Below w.heap.size w wr
theorem ZbR (q:Nat)(t:List Nat)(w:World)(hq:q≤64)(ht:t.length=64)(hf:La.Fit t):
  Calls Tryz.prog 120 #[.int .i64 (q:Int),tv t] w fun e w'=>e= .returned (tv (thrN q t q))∧Below w.heap.size w w':=by
 have hz:=Zi0
 have hsm:=Ze1 (YA 0)
 have HQ:=Hd hq
 have HT:=Hd ht
 have HF:=Hd hf
 have hb0:Below w.heap.size w ((w.alloc (.cells (La.cl t) 190)).alloc (.cells (La.cl (idK 0)) 190)):=(bA).alloc (by simp) _
 have H0:Hid (((w.alloc (.cells (La.cl t) 190)).alloc (.cells (La.cl (idK 0)) 190)).heap[w.heap.size]?=some (.cells (La.cl t) 190 (0,0))):=Hd ((Below.heap_alloc _ _ _ (by simp)).trans (heap_alloc_new _ _))
 have H1:Hid (((w.alloc (.cells (La.cl t) 190)).alloc (.cells (La.cl (idK 0)) 190)).heap[w.heap.size+1]?=some (.cells (La.cl (idK 0)) 190 (0,0))):=Hd (by
 have:=heap_alloc_new (w.alloc (.cells (La.cl t) 190)) (.cells (La.cl (idK 0)) 190)
 rwa [show(w.alloc (.cells (La.cl t) 190)).heap.size=w.heap.size+1 by simp] at this)
 clear hq ht hf
 unfold tv
 go_enter Tryz.func120,Tryz.ntmps120
 go_wp2
 go_loopw [8] (fun v8 wr=>TRel q t w w.heap.size v8 wr) (fun v8 _=>q - (intOf v8).toNat)
 case atStart=>exact⟨0,rfl,by omega,H0.out,H1.out,hb0⟩
 case round=>(
 clear hb0 hz hsm H0 H1
 obtain⟨k,rfl,hk,hblk,hblk1,hb⟩:=hrel
 have hq64:=HQ.out
 have HB:=Hd hblk
 have HB1:=Hd hblk1
 clear hblk hblk1
 by_cases hlt:k < q
 ·(
 obtain⟨wo,rfl⟩: ∃wo,wo=wr:=⟨_,rfl⟩
 have HTL:=Hd (Zad (q:=q) HT.out k)
 have HTF:=Hd (ZbQ (q:=q) HF.out k)
 have HNX:Hid (thrN q t (k+1)=La.stepW (thrN q t k) k q):=Hd rfl
 generalize thrN q t k=s at*
 go_wp2
 go_loopw [12] (fun v12 wr=>TIn q s k w w.heap.size v12 wr) (fun v12 _=>q - (intOf v12).toNat)
 case atStart=>exact⟨0,rfl,by omega,by rw[La.ZdN];exact HB.out,HB1.out,hb⟩
 case round=>(
 clear HB HB1 hb
 obtain⟨i,rfl,hi,hblk,hblk1,hb⟩:=hrel
 have HB:=Hd hblk
 have HB1:=Hd hblk1
 by_cases hlt2:i < q
 ·(
 have hlen:(La.stepW s k i).length=64:=by rw[La.Vj];exact HTL.out
 have hfit:=ZcL (k:=k) (i:=i) HTF.out
 have HN:=Hd (La.ZdM s k i (by have:=HTL.out;omega))
 have hhas:=VP (La.stepW s k i) i k wr hlen hfit (by omega) (by omega)
 generalize La.stepW s k i=u at*
 have hil:i < u.length:=by omega
 have hkl:k < u.length:=by omega
 rw[La.Q5 hil] at hhas
 have hci:=(Zb (i:=i) hblk).trans (La.Uc hil)
 have hck:=(Zb (i:=k) hblk).trans (La.Uc hkl)
 have hfi:=Zc (i:=i) hblk
 have hor:=u64_or_nat u[i] u[k] (hfit _ (List.getElem_mem hil)) (hfit _ (List.getElem_mem hkl))
 have HN2:Hid (La.stepW s k (i+1)=if u[i].testBit k then u.set i (u[i]|||u[k]) else u):=Hd (by
 rw[HN.out,List.getD_eq_getElem?_getD,List.getElem?_eq_getElem hil,List.getD_eq_getElem?_getD,List.getElem?_eq_getElem hkl]
 rfl)
 have HHAS:=Hd hhas
 have HLE:=Hd hlen
 have hi64:(i:Int) < 64:=by omega
 have hk64:(k:Int) < 64:=by omega
 have hltw:=Zh hblk
 have hltw1:=Zh hblk1
 clear HN hhas hlen hfit hblk hblk1
 generalize u[i]|||u[k]=y at*
 generalize u[k]=xk at*
 generalize u[i]=xi at*
 clear hil hkl
 go_wp2_with (first|(with_reducible refine wpList_load_row rfl 190 (.tmp 3) rfl w.heap.size rfl 190 (La.cl u) (0,0) _ HB.out Tryz.underlying190 rfl (by rw[Y6,VQ,HLE.out]) ?_)|fail)
 refine HHAS.out.mono ?_
 rintro e w2 ⟨rfl,hb2⟩
 have hb2':=hb.trans (hb2.mono hb.size)
 have HB':=Hd ((hb2.block _ hltw).trans HB.out)
 have HB1':=Hd ((hb2.block _ hltw1).trans HB1.out)
 replace hci:w2.cell? ⟨w.heap.size,i,none⟩=some (.int .u64 (xi:Int)):=(hb2.cell (p:=⟨w.heap.size,i,none⟩) hltw).trans hci
 replace hck:w2.cell? ⟨w.heap.size,k,none⟩=some (.int .u64 (xk:Int)):=(hb2.cell (p:=⟨w.heap.size,k,none⟩) hltw).trans hck
 replace hfi:w2.frozen? ⟨w.heap.size,i,none⟩=false:=Zc HB'.out
 clear HHAS HB HB1 hb hb2 hltw hltw1
 cases hbit:xi.testBit k with
 |true=>(
 have HE:Hid (La.stepW s k (i+1)=u.set i y):=Hd (by rw[HN2.out,hbit];rfl)
 clear HN2 hbit
 go_wp2
 go_still_tail 8,(by kernel_rfl)
 change wpList _ _ _ _ _ w2.drew
 have HB3:Hid (w2.drew.heap[w.heap.size]?=some (.cells (La.cl u) 190 (0,0))):=HB'
 have HB4:Hid (w2.drew.heap[w.heap.size+1]?=some (.cells (La.cl (idK 0)) 190 (0,0))):=HB1'
 have f3:w2.drew.cell? ⟨w.heap.size,i,none⟩=some (.int .u64 (xi:Int)):=hci
 have f4:w2.drew.frozen? ⟨w.heap.size,i,none⟩=false:=hfi
 have hb3:Below w.heap.size w w2.drew:=hb2'.trans (La.Vb _)
 clear hci hck hfi hb2' HB' HB1'
 generalize w2.drew=w3 at*
 go_wp2
 go_roundw
 case rel=>exact⟨i+1,by go_num,by omega,by rw[Zm HB3.out,La.Q8,HE.out],(Below.heap_setCell w3 ⟨w.heap.size,i,none⟩ _ (w.heap.size+1) (Nat.succ_ne_self _)).trans HB4.out,hb3.setCell (p:=⟨w.heap.size,i,none⟩) lR _⟩
 case measure=>simp[intOf];omega)
 |false=>(
 have HE:Hid (La.stepW s k (i+1)=u):=Hd (by rw[HN2.out,hbit];rfl)
 clear HN2 hbit
 go_wp2
 go_roundw
 case rel=>exact⟨i+1,by go_num,by omega,by rw[HE.out];exact HB'.out,HB1'.out,hb2'⟩
 case measure=>simp[intOf];omega))
 ·(
 obtain rfl:i=q:=by omega
 clear hblk hblk1
 go_wp2
 go_roundw
 case rel=>exact⟨k+1,by go_num,by omega,by rw[HNX.out];exact HB.out,HB1.out,hb⟩
 case measure=>simp[intOf];omega)))
 ·obtain rfl:k=q:=by omega
  have hlen:=Zad (q:=k) HT.out k
  go_wp2_with (first|(with_reducible refine wpList_load_row rfl 190 (.tmp 3) rfl w.heap.size rfl 190 (La.cl (thrN k t k)) (0,0) _ HB.out Tryz.underlying190 rfl (by rw[Y6,VQ,hlen]) ?_)|(with_reducible refine wpList_store_row rfl 190 (.tmp 4) (.tmp 29) rfl (w.heap.size+1) (La.cl (thrN k t k)) rfl rfl 190 _ HB1.out (by rw[Y6,VQ,hlen]) (by rw[VQ,VQ,hlen,YA]) (Zi1 _) ?_))
  exact bodyPost_ret (results_cell_row (P:=Tryz.prog) rfl _ _ (w.heap.size+1) 190 _ (0,0) _ rfl (setRow_heap _ _ _ _ _ _ HB1.out) Tryz.underlying190 rfl (by rw[Y6,VQ,hlen])) rfl ⟨rfl,below_setRow hb (by omega) _⟩)
end Go.Proofs.YtmejhedegmjboaaGreat.Re
namespace Go.Proofs.YtmejhedegmjboaaGreat.Re
open Go.Proofs.YtmejhedegmjboaaGreat.Bo (Bd bdc Zr Ky tmv wrap_small Qz Uh U9)
open Go.RowKit
def hdr (gs:Nat→Nat)(n k:Nat):Array Value:=((List.range n).map fun i=>if i < k then Value.slice (some ⟨gs i,0,none⟩) n n else Value.slice none 0 0).toArray
def bls (f:Nat→Bool)(n k:Nat):Array Value:=((List.range n).map fun j=>Value.bool (decide (j < k) && f j)).toArray
theorem Rj {gs:Nat→Nat}{n k i:Nat}(hi:i < n)(hk:i < k):(hdr gs n k)[i]?=some (.slice (some ⟨gs i,0,none⟩) n n):=by
 simp[hdr,hi,hk]
theorem Ze2 {gs:Nat→Nat}{n k i:Nat}(hi:i < n)(hk: ¬i < k):(hdr gs n k)[i]?=some (.slice none 0 0):=by
 simp[hdr,hi,hk]
theorem Y7 {f:Nat→Bool}{n k j:Nat}(hj:j < n):(bls f n k)[j]?=some (.bool (decide (j < k) && f j)):=by
 simp[bls,hj]
theorem ZjR {gs:Nat→Nat}{n k b:Nat}:(hdr gs n k).setIfInBounds k (.slice (some ⟨b,0,none⟩) n n)=hdr (fun i=>if i=k then b else gs i) n (k+1):=by
 apply Array.ext_getElem?
 intro x
 by_cases hx:x < n
 ·(
 by_cases e:x=k
 ·subst e
  rw[Array.getElem?_setIfInBounds_self_of_lt (by simpa [hdr] using hx),Rj hx (by omega),if_pos rfl]
 ·rw[Array.getElem?_setIfInBounds_ne (by omega)]
  by_cases h:x < k
  ·rw[Rj hx h,Rj hx (by omega),if_neg e]
  ·rw[Ze2 hx h,Ze2 hx (by omega)])
 ·rw[Array.getElem?_eq_none (by simp[hdr];omega),Array.getElem?_eq_none (by simp[hdr];omega)]
theorem Ze3 {f:Nat→Bool}{n k:Nat}:(bls f n k).setIfInBounds k (.bool (f k))=bls f n (k+1):=by
 apply Array.ext_getElem?
 intro x
 by_cases hx:x < n
 ·(
 by_cases e:x=k
 ·subst e
  rw[Array.getElem?_setIfInBounds_self_of_lt (by simpa [bls] using hx),Y7 hx]
  simp
 ·rw[Array.getElem?_setIfInBounds_ne (by omega),Y7 hx,Y7 hx,show decide (x < k+1)=decide (x < k) from decide_eq_decide.2 ⟨fun h=>by omega,fun h=>by omega⟩])
 ·rw[Array.getElem?_eq_none (by simp[bls];omega),Array.getElem?_eq_none (by simp[bls];omega)]
structure Sqr (w:World)(base g n:Nat)(gs:Nat→Nat)(P:Nat→Nat→Bool):Prop where
 blk:w.heap[g]?=some (.cells (hdr gs n n) 71 (0,0))
 rows: ∀i,i < n→w.heap[gs i]?=some (.cells (bls (P i) n n) 4 (0,0))
 gbase:base≤g
 bases: ∀i,i < n→base≤gs i
 apart: ∀i j,i < n→j < n→i≠j→gs i≠gs j
theorem Zlv:(Tryz.prog.info? 71).map (fun i=>(i.zero,i.size,i.bytes))=some (some (.slice none 0 0),1,24):=by kernel_rfl
theorem inf4:(Tryz.prog.info? 4).map (fun i=>(i.zero,i.size,i.bytes))=some (some (.bool false),1,1):=by kernel_rfl
theorem ZcM (n:Nat)(gs:Nat→Nat):madeCells #[.slice none 0 0] n=hdr gs n 0:=by
 apply Array.ext
 ·simp[madeCells,hdr]
 ·intro i h1 h2
  simp[madeCells,hdr,Nat.mod_one]
theorem ZcN (n:Nat)(f:Nat→Bool):madeCells #[.bool false] n=bls f n 0:=by
 apply Array.ext
 ·simp[madeCells,bls]
 ·intro i h1 h2
  simp[madeCells,bls,Nat.mod_one]
theorem Zhl (n:Nat)(gs:Nat→Nat)(h:n≤64)(W:World):(Instr.makeSlice 26 (.int .i64 (n:Int)) (.int .i64 (n:Int))).run Tryz.prog W= .ok (.slice (some ⟨W.heap.size,0,none⟩) n n) (W.alloc (.cells (hdr gs n 0) 71)):=by
 obtain⟨i0,hi0,hz0,hz1,hz2⟩:=info_parts Zlv
 have:=run_make (P:=Tryz.prog) W 26 71 i0 _ Tryz.underlying26 hi0 hz0 .i64 .i64 n n (by omega) (Int.le_refl _) (by rw[hz2];omega) (by omega)
 rw[this,hz1,Nat.mul_one,Int.toNat_natCast]
 rw[show(Value.slice none 0 0).cells= #[.slice none 0 0] from rfl,ZcM n gs]
theorem Zhm (n:Nat)(f:Nat→Bool)(h:n≤64)(W:World):(Instr.makeSlice 71 (.int .i64 (n:Int)) (.int .i64 (n:Int))).run Tryz.prog W= .ok (.slice (some ⟨W.heap.size,0,none⟩) n n) (W.alloc (.cells (bls f n 0) 4)):=by
 obtain⟨i0,hi0,hz0,hz1,hz2⟩:=info_parts inf4
 have:=run_make (P:=Tryz.prog) W 71 4 i0 _ Tryz.underlying71 hi0 hz0 .i64 .i64 n n (by omega) (Int.le_refl _) (by rw[hz2];omega) (by omega)
 rw[this,hz1,Nat.mul_one,Int.toNat_natCast]
 rw[show(Value.bool false).cells= #[.bool false] from rfl,ZcN n f]
theorem Zhn {P:Program}{a:Act}{o:Oper}{w:World}(ty:TypeId)(x:Operand)(ho:o.op= .load ty x)(g:Nat)(hx:a.eval x= .pointer (some ⟨g,0,none⟩))(t:TypeId)(cs:Array Value)(fr:Nat×Nat)(d:TypeDesc)
  (hg:w.heap[g]?=some (.cells cs t fr)) (hu:P.underlying ty=some d) (hd:(match d with| .struct _| .array _ _=>true|_=>false)=true) (hi:(P.info? ty).map (·.size)=some cs.size):(execOp a.eval o).run P w= .ok (.value (.agg cs)) w:=by
 unfold execOp
 simp only[ho,hx,Instr.loadAt,Instr.sureAddr,Sem.run_bind,Sem.run_pure,Result.andThen_ok,run_loadVar_row w g t ty cs fr d hg hu hd hi]
structure LAt (t:List Nat)(n:Nat)(w:World)(k:Nat)(gs:Nat→Nat)(wr:World):Prop where
 tbl:wr.heap[w.heap.size]?=some (.cells (La.cl t) 190 (0,0))
 blk:wr.heap[w.heap.size+1]?=some (.cells (hdr gs n k) 71 (0,0))
 rows: ∀i,i < k→w.heap.size+2≤gs i∧wr.heap[gs i]?=some (.cells (bls (La.bt t i) n n) 4 (0,0))
 apart: ∀i j,i < k→j < k→i≠j→gs i≠gs j
 bel:Below w.heap.size w wr
def LRel (t:List Nat)(n:Nat)(w:World)(v12:Value)(wr:World):Prop:= ∃k gs,v12= .int .i64 ((k:Nat):Int)∧k≤n∧LAt t n w k gs wr
structure YJ (t:List Nat)(n:Nat)(w:World)(k b q:Nat)(gs:Nat→Nat)(wr:World):Prop where
 tbl:wr.heap[w.heap.size]?=some (.cells (La.cl t) 190 (0,0))
 blk:wr.heap[w.heap.size+1]?=some (.cells (hdr (fun i=>if i=k then b else gs i) n (k+1)) 71 (0,0))
 rows: ∀i,i < k→w.heap.size+2≤gs i∧gs i < b∧wr.heap[gs i]?=some (.cells (bls (La.bt t i) n n) 4 (0,0))
 row:wr.heap[b]?=some (.cells (bls (La.bt t k) n q) 4 (0,0))
 at_:w.heap.size+2≤b
 apart: ∀i j,i < k→j < k→i≠j→gs i≠gs j
 bel:Below w.heap.size w wr
def LIn (t:List Nat)(n:Nat)(w:World)(k b:Nat)(gs:Nat→Nat)(v25:Value)(wr:World):Prop:= ∃q:Nat,v25= .int .i64 (q:Int)∧q≤n∧YJ t n w k b q gs wr
theorem YJ.done {t:List Nat}{n:Nat}{w:World}{k b:Nat}{gs:Nat→Nat}{wr:World}(h:YJ t n w k b n gs wr):LAt t n w (k+1) (fun i=>if i=k then b else gs i) wr:=by
 refine⟨h.tbl,h.blk,fun i hi=> ?_,fun i j hi hj hne=> ?_,h.bel⟩
 ·(
 by_cases e:i=k
 ·subst e
  rw[if_pos rfl]
  exact⟨h.at_,h.row⟩
 ·rw[if_neg e]
  obtain⟨h1,_,h3⟩:=h.rows i (by omega)
  exact⟨h1,h3⟩)
 ·(
 by_cases e1:i=k
 ·have e2: ¬j=k:=by omega
  rw[if_pos e1,if_neg e2]
  have:=(h.rows j (by omega)).2.1
  omega
 ·(
 by_cases e2:j=k
 ·rw[if_neg e1,if_pos e2]
  have:=(h.rows i (by omega)).2.1
  omega
 ·rw[if_neg e1,if_neg e2]
  exact h.apart i j (by omega) (by omega) hne))
theorem YJ.keep {t:List Nat}{n:Nat}{w:World}{k b q:Nat}{gs:Nat→Nat}{wr wz:World}(h:YJ t n w k b q gs wr)(hb:Below wr.heap.size wr wz):YJ t n w k b q gs wz:=
 ⟨(hb.block _ (Zh h.tbl)).trans h.tbl,(hb.block _ (Zh h.blk)).trans h.blk,fun i hi=>by
  obtain⟨h1,h2,h3⟩:=h.rows i hi
  exact⟨h1,h2,(hb.block _ (Zh h3)).trans h3⟩,(hb.block _ (Zh h.row)).trans h.row,h.at_,h.apart,h.bel.trans (hb.mono h.bel.size)⟩
theorem YJ.put {t:List Nat}{n:Nat}{w:World}{k b q:Nat}{gs:Nat→Nat}{wr:World}(h:YJ t n w k b q gs wr):YJ t n w k b (q+1) gs (wr.setCell ⟨b,q,none⟩ (.bool (La.bt t k q))):=by
 have ha:=h.at_
 refine⟨(Below.heap_setCell wr ⟨b,q,none⟩ _ _ (show _≠b by omega)).trans h.tbl,(Below.heap_setCell wr ⟨b,q,none⟩ _ _ (show _≠b by omega)).trans h.blk,fun i hi=> ?_,?_,ha,h.apart,h.bel.setCell (p:=⟨b,q,none⟩) (show w.heap.size≤b by omega) _⟩
 ·obtain⟨h1,h2,h3⟩:=h.rows i hi
  exact⟨h1,h2,(Below.heap_setCell wr ⟨b,q,none⟩ _ _ (show _≠b by omega)).trans h3⟩
 ·rw[Zm h.row,Ze3]
theorem LAt.lay {t:List Nat}{n:Nat}{w:World}{k:Nat}{gs:Nat→Nat}{wr:World}(h:LAt t n w k gs wr):YJ t n w k wr.heap.size 0 gs ((wr.alloc (.cells (bls (La.bt t k) n 0) 4)).setCell ⟨w.heap.size+1,k,none⟩ (.slice (some ⟨wr.heap.size,0,none⟩) n n)):=by
 have h1:=Zh h.blk
 have h0:=Zh h.tbl
 refine⟨?_,?_,fun i hi=> ?_,?_,by omega,h.apart,?_⟩
 ·exact(Below.heap_setCell _ ⟨w.heap.size+1,k,none⟩ _ _ (show _≠w.heap.size+1 by omega)).trans ((Below.heap_alloc wr _ _ h0).trans h.tbl)
 ·rw[Zm ((Below.heap_alloc wr _ _ h1).trans h.blk),ZjR]
 ·obtain⟨g1,g2⟩:=h.rows i hi
  exact⟨g1,Zh g2,(Below.heap_setCell _ ⟨w.heap.size+1,k,none⟩ _ _ (show _≠w.heap.size+1 by omega)).trans ((Below.heap_alloc wr _ _ (Zh g2)).trans g2)⟩
 ·exact(Below.heap_setCell _ ⟨w.heap.size+1,k,none⟩ _ _ (show _≠w.heap.size+1 by omega)).trans (heap_alloc_new wr _)
 ·exact(h.bel.alloc h.bel.size _).setCell (p:=⟨w.heap.size+1,k,none⟩) (show w.heap.size≤w.heap.size+1 by omega) _
theorem Ze4 (n:Nat)(t:List Nat)(w:World)(hn:n≤64)(ht:t.length=64)(hf:La.Fit t):
  Calls Tryz.prog 122 #[tv t,.int .i64 (n:Int)] w fun e w'=> ∃g gs,e= .returned (.slice (some ⟨g,0,none⟩) n n)∧Sqr w' w.heap.size g n gs (La.bt t)∧Below w.heap.size w w':=by
 have hmk:=Zhl n (fun _=>0) hn
 have HN:=Hd hn
 have HT:=Hd ht
 have HF:=Hd hf
 have H0:Hid (LAt t n w 0 (fun _=>0) ((w.alloc (.cells (La.cl t) 190)).alloc (.cells (hdr (fun _=>0) n 0) 71))):=Hd (by
 refine⟨(Below.heap_alloc _ _ _ (by simp)).trans (heap_alloc_new _ _),?_,fun i hi=>absurd hi (Nat.not_lt_zero i),fun i _ hi=>absurd hi (Nat.not_lt_zero i),(bA).alloc (by simp) _⟩
 have:=heap_alloc_new (w.alloc (.cells (La.cl t) 190)) (.cells (hdr (fun _=>0) n 0) 71)
 rwa [show(w.alloc (.cells (La.cl t) 190)).heap.size=w.heap.size+1 by simp] at this)
 clear hn ht hf
 unfold tv
 go_enter Tryz.func122,Tryz.ntmps122
 go_wp2
 go_loopw [12] (fun v12 wr=>LRel t n w v12 wr) (fun v12 _=>n - (intOf v12).toNat)
 case atStart=>exact⟨0,fun _=>0,rfl,by omega,H0.out⟩
 case round=>(
 clear H0 hmk
 obtain⟨k,gs,rfl,hk,hL⟩:=hrel
 have HL:=Hd hL
 clear hL
 by_cases hlt:k < n
 ·(
 have hmk:=Zhm n (La.bt t k) HN.out
 have HI:=Hd HL.out.lay
 have hltw:=Zh HL.out.blk
 have hold:=(Zb (i:=k) ((Below.heap_alloc wr (.cells (bls (La.bt t k) n 0) 4) _ hltw).trans HL.out.blk)).trans (Ze2 hlt (Nat.lt_irrefl k))
 have hfz:=Zc (i:=k) ((Below.heap_alloc wr (.cells (bls (La.bt t k) n 0) 4) _ hltw).trans HL.out.blk)
 have hld:=(Zb (i:=k) HI.out.blk).trans (Rj hlt (Nat.lt_succ_self k))
 rw[if_pos rfl] at hld
 clear HL hltw
 obtain⟨wo,rfl⟩: ∃wo,wo=wr:=⟨_,rfl⟩
 have HLT:=Hd hlt
 go_wp2
 clear hold hfz hld hmk
 go_loopw [25] (fun v25 wr=>LIn t n w k wo.heap.size gs v25 wr) (fun v25 _=>n - (intOf v25).toNat)
 case atStart=>exact⟨0,rfl,by omega,HI.out⟩
 case round=>(
 clear HI
 obtain⟨q,rfl,hq,hI⟩:=hrel
 have HI:=Hd hI
 by_cases hlt2:q < n
 ·(
 have hk64:k < 64:=by have:=HN.out;omega
 have hq64:q < 64:=by have:=HN.out;omega
 have hcell: ∀W,YJ t n w k wo.heap.size q gs W→W.cell? ⟨w.heap.size+1,k,none⟩=some (.slice (some ⟨wo.heap.size,0,none⟩) n n):=fun W hW=>by
  have:=(Zb (i:=k) hW.blk).trans (Rj hlt (Nat.lt_succ_self k))
  rwa [if_pos rfl] at this
 have HC:=Hd hcell
 have hce:=hcell _ hI
 have hS0:YJ t n w k wo.heap.size q gs wr.drew:=hI.keep (La.Vb wr)
 have hkn:(k:Int) < (n:Int):=by omega
 have hqn:(q:Int) < (n:Int):=by omega
 clear hI hcell
 go_wp2
 refine wro [0,1,2,3,4,5,6,7,8,9,10] [8,10] 10 (fun w'=>YJ t n w k wo.heap.size q gs w') (by kernel_rfl) (fun _ _ _ _ _ h=>h) hS0 ?_
 simp only[steps,sE,sD]
 repeat(first
  |(refine Zd (v:= .agg (La.cl t)) rfl rfl (fun w' hS=>Zhn 190 (.tmp 2) rfl w.heap.size rfl 190 (La.cl t) (0,0) _ hS.tbl Tryz.underlying190 rfl (by rw[Y6,VQ,HT.out])) ?_;simp only[Act.put,sA,sB,sC])
  |(refine Zd (v:= ?_) rfl rfl ?_ ?_;rotate_left;(focus(rintro w' hS;have c0:=HC.out w' hS;clear hS;go_simp;try with_reducible rfl));simp only[Act.put,sA,sB,sC]))
 refine Ze rfl rfl (fun K hK=> ?_)
 go_simp
 refine(VP t k q wr.drew HT.out HF.out hk64 hq64).mono ?_
 rintro e w2 ⟨rfl,hb2⟩
 have HI2:=Hd (hS0.keep hb2)
 refine hK.out _ _ (fun _=>HI2.out) ?_
 clear hK K HI hS0 hb2 hce
 repeat(first
  |(refine Zd (v:= ?_) rfl rfl ?_ ?_;rotate_left;(focus(rintro w' hS;have c0:=HC.out w' hS;clear hS;go_simp;try with_reducible rfl));simp only[Act.put,sA,sB,sC]))
 refine Ze rfl rfl (fun K hK=> ?_)
 have hce1:=(Zb (i:=q) HI2.out.row).trans (Y7 hlt2)
 have hfz1:=Zc (i:=q) HI2.out.row
 go_simp
 refine hK.out _ _ (fun h=>absurd rfl h) ?_
 clear hK K
 refine Zg ?_
 have HI3:=Hd HI2.out.put
 clear hce1 hfz1
 go_wp2
 go_roundw
 case rel=>exact⟨q+1,by go_num,by omega,HI3.out⟩
 case measure=>simp[intOf];omega)
 ·(
 obtain rfl:q=n:=by omega
 have hk64:k < 64:=by have:=HN.out;omega
 clear hI
 go_wp2
 go_roundw
 case rel=>exact⟨k+1,_,by go_num,by omega,HI.out.done⟩
 case measure=>(
 have:=HLT.out
 simp[intOf]
 omega))))
 ·obtain rfl:k=n:=by omega
  go_wp2
  go_ret
  exact⟨w.heap.size+1,gs,rfl,⟨HL.out.blk,fun i hi=>(HL.out.rows i hi).2,by omega,fun i hi=>by have:=(HL.out.rows i hi).1;omega,HL.out.apart⟩,HL.out.bel⟩)
end Go.Proofs.YtmejhedegmjboaaGreat.Re
namespace Go.Proofs.YtmejhedegmjboaaGreat.Re
open Go.Proofs.YtmejhedegmjboaaGreat.Bo (Bd bdc Zr Ky tmv wrap_small Qz Uh U9)
open Go.RowKit
theorem Qc (v:Bool)(k n:Nat)(w:World)(hn:n≤64):
  Calls Tryz.prog 119 #[tmv v k,.int .i64 (n:Int)] w fun e w'=>e= .returned (.bool (mayV n v k))∧Below w.heap.size w w':=by
 have hw:=Bo.wrap_small (k:=n) (by omega)
 have hal:Below w.heap.size w (w.alloc (.cells #[.bool v,.int .u64 (k:Int)] 62)):=bA
 unfold tmv mayV
 cases v with
 |true=>(
 simp only[Bool.not_true,Bool.false_or]
 have e:decide (k < n)=decide ((k:Int) < (n:Int)):=by congr 1;simp
 rw[e]
 generalize hd:decide ((k:Int) < (n:Int))=d at*
 go_enter Tryz.func119,Tryz.ntmps119
 go_wp2
 go_ret
 exact⟨rfl,hal⟩)
 |false=>(
 simp only[Bool.not_false,Bool.true_or]
 go_enter Tryz.func119,Tryz.ntmps119
 go_wp2
 go_ret
 exact⟨rfl,hal⟩)
def OfE (k:Int)(l:List Bd)(x:Int)(w:World)(e:Ending)(w':World):Prop:=
 (x≠0∧e= .returned (.tuple #[.slice none 0 0,.int .i64 x])∧Below w.heap.size w w')∨
  (x=0∧ ∃q g gs,k=((q:Nat):Int)∧e= .returned (.tuple #[.slice (some ⟨g,0,none⟩) q q,.int .i64 0])∧Sqr w' w.heap.size g q gs (La.bt (rchN q l))∧Below w.heap.size w w')
theorem ZeS (k:Int)(A:Option Addr)(n c:Nat)(l:List Bd)(w:World)(x:Int)(h:Rs bdc 4 w w.heap.size A n c l)(hx:ofE k l=x):
  Calls Tryz.prog 74 #[.int .i64 k,.slice A n c] w (OfE k l x w):=by
 have hlen:=h.len
 by_cases h0:k < 0
 ·(
 obtain rfl:(3:Int)=x:=by rw[← hx,ofE,if_pos (.inl h0)]
 clear hx h
 go_enter Tryz.func74,Tryz.ntmps74
 go_wp2
 go_ret2
 exact .inl ⟨by decide,rfl,Below.refl _ _⟩)
 by_cases h1:64 < k
 ·(
 obtain rfl:(3:Int)=x:=by rw[← hx,ofE,if_pos (.inr (.inl h1))]
 clear hx h
 go_enter Tryz.func74,Tryz.ntmps74
 go_wp2
 go_ret2
 exact .inl ⟨by decide,rfl,Below.refl _ _⟩)
 by_cases h2:256 < n
 ·(
 obtain rfl:(3:Int)=x:=by rw[← hx,ofE,if_pos (.inr (.inr (by rw[hlen];exact h2)))]
 have h2':(256:Int) < (n:Int):=by omega
 clear hx h h2
 go_enter Tryz.func74,Tryz.ntmps74
 go_wp2
 go_ret2
 exact .inl ⟨by decide,rfl,Below.refl _ _⟩)
 obtain⟨q,rfl⟩: ∃q:Nat,k=(q:Int):=⟨k.toNat,by omega⟩
 have hq:q≤64:=by omega
 have h0': ¬(q:Int) < 0:=by omega
 have h2': ¬(256:Int) < (n:Int):=by omega
 have hx':(if l.all (mayB q) then(0:Int) else 1)=x:=by rw[← hx,ofE,if_neg (show ¬((q:Int) < 0∨64 < (q:Int)∨256 < l.length) by omega),Int.toNat_natCast]
 have HX:=Hd hx'
 have HQ:=Hd hq
 have HL:=Hd hlen
 have htop:=h.top
 have hcap:=h.cap
 unfold maxLen at htop
 have HR:=Hd h
 clear hx hx' hq hlen h h0 h2
 go_enter Tryz.func74,Tryz.ntmps74
 go_wp2_with fail
 clear h0' h1 h2'
 go_loopw [21] (fun v21 wr=>Qz (mayB q) l w v21 wr) (fun v21 _=>n - (intOf v21).toNat)
 case atStart=>exact⟨0,rfl,by omega,rfl,Below.refl _ _⟩
 case round=>(
 obtain⟨i,rfl,hi,hall,hb⟩:=hrel
 by_cases hlt:i < n
 ·(
 have hi':i < l.length:=by rw[HL.out];exact hlt
 have hr:=(HR.out.at_size lR hb)
 obtain⟨b,o,rfl,hbb,e0,e1,e2,e3⟩:=Ky hr hi'
 obtain⟨r1,hr1⟩: ∃r,mayV q l[i].av l[i].an=r:=⟨_,rfl⟩
 obtain⟨r2,hr2⟩: ∃r,mayV q l[i].bv l[i].bn=r:=⟨_,rfl⟩
 have HST:Hid ((l.take (i+1)).all (mayB q)=(r1 && r2)):=Hd (by rw[Uh hi' hall,mayB,hr1,hr2])
 have HNO:Hid ((r1 && r2)=false→l.all (mayB q)=false):=Hd fun e=>U9 hi' (by rw[mayB,hr1,hr2];exact e)
 generalize l[i]=y at*
 obtain⟨av,an,bv,bn⟩:=y
 simp only at e0 e1 e2 e3 hr1 hr2
 have hal:Below wr.heap.size wr (wr.alloc (.cells #[.bool av,.int .u64 (an:Int),.bool bv,.int .u64 (bn:Int)] 69)):=bA
 have hb1:=hb.trans (hal.mono hb.size)
 have hm1:=Qc av an q (wr.alloc (.cells #[.bool av,.int .u64 (an:Int),.bool bv,.int .u64 (bn:Int)] 69)) HQ.out
 have HM2:Hid (∀W,Calls Tryz.prog 119 #[tmv bv bn,.int .i64 (q:Int)] W fun e w'=>e= .returned (.bool r2)∧Below W.heap.size W w'):=
  Hd fun W=>hr2▸Qc bv bn q W HQ.out
 rw[hr1] at hm1
 have HM1:=Hd hm1
 have HB1:=Hd hb1
 have hcx:=fun (j:Nat) (hj:j < 4)=>Zb (i:=j) (heap_alloc_new wr (.cells #[.bool av,.int .u64 (an:Int),.bool bv,.int .u64 (bn:Int)] 69))
 have HLT:=Hd hlt
 clear hall hr hr1 hr2 hbb hal hb1 hm1 hi'
 unfold tmv at HM1 HM2
 go_wp2_with fail
 refine HM1.out.mono ?_
 rintro e w2 ⟨rfl,hb2⟩
 have g2:=(hb2.cell (p:=⟨wr.heap.size,2,none⟩) (show wr.heap.size < (wr.alloc _).heap.size by simp)).trans (hcx 2 (by decide))
 have g3:=(hb2.cell (p:=⟨wr.heap.size,3,none⟩) (show wr.heap.size < (wr.alloc _).heap.size by simp)).trans (hcx 3 (by decide))
 replace g2:_=some (Value.bool bv):=g2
 replace g3:_=some (Value.int .u64 (bn:Int)):=g3
 have HB2:=Hd (HB1.out.trans (hb2.mono HB1.out.size))
 clear hb2 hcx e0 e1 e2 e3 HM1
 cases r1 with
 |false=>(
 obtain rfl:(1:Int)=x:=by rw[← HX.out,HNO.out rfl];rfl
 clear HNO HST HX
 go_wp2_with fail
 go_ret2
 exact .inl ⟨by decide,rfl,HB2.out⟩)
 |true=>(
 have hm2:=HM2.out w2
 go_wp2_with fail
 refine hm2.mono ?_
 rintro e w3 ⟨rfl,hb3⟩
 have HB3:=Hd (HB2.out.trans (hb3.mono HB2.out.size))
 clear hb3 hm2 g2 g3
 cases r2 with
 |false=>(
 obtain rfl:(1:Int)=x:=by rw[← HX.out,HNO.out rfl];rfl
 clear HNO HST HX
 go_wp2_with fail
 go_ret2
 exact .inl ⟨by decide,rfl,HB3.out⟩)
 |true=>(
 clear HNO
 go_wp2_with fail
 go_roundw
 case rel=>exact⟨i+1,by go_num,by have:=HLT.out;have:=HL.out;omega,HST.out,HB3.out⟩
 case measure=>(
 have:=HLT.out
 simp[intOf]
 omega))))
 ·(
 obtain rfl:i=n:=by have:=HL.out;omega
 rw[List.take_of_length_le (by rw[HL.out];omega)] at hall
 have HE:Hid ((0:Int)=x):=Hd (by rw[← HX.out,hall];rfl)
 have HM:Hid (∀b∈l,mayB q b=true):=Hd (List.all_eq_true.1 hall)
 clear hall HX
 go_wp2_with fail
 refine(ZdO q A i c l wr (HR.out.at_size lR hb) HQ.out HM.out).mono ?_
 rintro e w2 ⟨rfl,hb2⟩
 have HB2:=Hd (hb.trans (hb2.mono hb.size))
 clear hb2
 have HD1:=Hd (ZbK HQ.out HM.out)
 have HD2:Hid (La.Fit (dirN q l)):=Hd (ZiW HQ.out HM.out)
 unfold tv
 go_wp2_with fail
 refine(ZbR q (dirN q l) w2 HQ.out HD1.out HD2.out).mono ?_
 rintro e w3 ⟨rfl,hb3⟩
 have HB3:=Hd (HB2.out.trans (hb3.mono HB2.out.size))
 clear hb3
 unfold tv
 go_wp2_with fail
 refine(Ze4 q (thrN q (dirN q l) q) w3 HQ.out (Zad HD1.out q) (ZbQ HD2.out q)).mono ?_
 rintro e w4 ⟨g,gs,rfl,hS,hb4⟩
 have HS:=Hd hS
 have HB4:=Hd (HB3.out.trans (hb4.mono HB3.out.size))
 have HSZ:=Hd HB3.out.size
 clear hS hb4
 go_wp2_with fail
 go_ret2
 refine .inr ⟨HE.out.symm,q,g,gs,rfl,rfl,⟨HS.out.blk,HS.out.rows,Nat.le_trans HSZ.out HS.out.gbase,fun i hi=>Nat.le_trans HSZ.out (HS.out.bases i hi),HS.out.apart⟩,HB4.out⟩))
end Go.Proofs.YtmejhedegmjboaaGreat.Re
