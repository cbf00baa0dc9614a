import Derived.Test.YtmejhedegmjboaaGreatProg
import Derived.Laws.CopyOwn
import Derived.Deep.RegionLaw
import Derived.Laws.BitsAllLaws
import Derived.Laws.ShiftsVar
import Derived.Laws.ShiftsVarLaws
import Derived.WalkKit
import Derived.LoopTactic
import Derived.Outline
import Derived.Laws.MakeOwn
import Derived.WalkMore
import Derived.ScopeJumps
import Derived.Test.YtmejhedegmjboaaGreatRange
import Derived.Test.YtmejhedegmjboaaGreatReRch
set_option maxRecDepth 100000
set_option maxHeartbeats 8000000
namespace Go.Proofs.YtmejhedegmjboaaGreat.Bo
open Go.RowKit
theorem Qj (m:Nat)(w:World)(hm:m≤64):Calls Tryz.prog 142 #[.int .u64 1,.int .u64 (m:Int)] w fun e w'=>e= .returned (.tuple #[.int .u64 0,.int .u64 (m:Int)])∧w=w':=by
 have h:m=0∨m=1∨m=2∨m=3∨m=4∨m=5∨m=6∨m=7∨m=8∨m=9∨m=10∨m=11∨m=12∨m=13∨m=14∨m=15∨m=16∨m=17∨m=18∨m=19∨m=20∨m=21∨m=22∨m=23∨m=24∨m=25∨m=26∨m=27∨m=28∨m=29∨m=30∨m=31∨m=32∨m=33∨m=34∨m=35∨m=36∨m=37∨m=38∨m=39∨m=40∨m=41∨m=42∨m=43∨m=44∨m=45∨m=46∨m=47∨m=48∨m=49∨m=50∨m=51∨m=52∨m=53∨m=54∨m=55∨m=56∨m=57∨m=58∨m=59∨m=60∨m=61∨m=62∨m=63∨m=64:=by omega
 clear hm
 rcases h with rfl|rfl|rfl|rfl|rfl|rfl|rfl|rfl|rfl|rfl|rfl|rfl|rfl|rfl|rfl|rfl|rfl|rfl|rfl|rfl|rfl|rfl|rfl|rfl|rfl|rfl|rfl|rfl|rfl|rfl|rfl|rfl|rfl|rfl|rfl|rfl|rfl|rfl|rfl|rfl|rfl|rfl|rfl|rfl|rfl|rfl|rfl|rfl|rfl|rfl|rfl|rfl|rfl|rfl|rfl|rfl|rfl|rfl|rfl|rfl|rfl|rfl|rfl|rfl|rfl
 all_goals(
 go_enter Tryz.func142,Tryz.ntmps142
 go_wp2
 exact bodyPost_ret (v:= .tuple #[.int .u64 0,.int .u64 _]) (by simp[results,Tryz.results142,go_sem];rfl) rfl ⟨rfl,rfl⟩)
theorem mul_any (m:Nat)(w:World)(hm:m≤64):Calls Tryz.prog 105 #[.int .u64 1,.int .u64 (m:Int)] w fun e w'=>e= .returned (.tuple #[.int .u64 0,.int .u64 (m:Int)])∧w=w':=by
 go_enter Tryz.func105,Tryz.ntmps105
 go_wp2_with fail
 refine(Qj m _ hm).mono ?_
 rintro e w1 ⟨rfl,rfl⟩
 go_wp2_with fail
 exact bodyPost_ret (v:= .tuple #[.int .u64 0,.int .u64 (m:Int)]) (by simp[results,Tryz.results105,go_sem]) rfl ⟨rfl,rfl⟩
theorem YM:(Tryz.prog.info? 60).map (fun i=>(i.zero,i.size,i.bytes))=some (some (.int .u64 0),1,8):=by kernel_rfl
theorem U7:(Tryz.prog.info? 60).map (·.size)=some 1:=by kernel_rfl
theorem VM (w:World):(Go.sizeOf 60).run Tryz.prog w= .ok 1 w:=by kernel_rfl
def half (d:Int)(k m:Nat):List Value:=List.replicate k (.int .u64 d)++List.replicate (m - k) (.int .u64 0)
theorem Ug (d:Int){k m:Nat}(h:k≤m):(half d k m).length=m:=by simp[half];omega
theorem Yl (d:Int)(m:Nat):half d m m=List.replicate m (.int .u64 d):=by simp[half]
theorem VE (d:Int){k j m:Nat}(h:k+j≤m):splice (half d k m) k (List.replicate j (.int .u64 d))=half d (k+j) m:=by
 unfold splice half
 rw[List.length_replicate,List.take_left' (by simp),List.drop_append,List.drop_eq_nil_of_le (by simp),List.nil_append,List.drop_replicate,List.length_replicate, ← List.append_assoc,List.replicate_append_replicate]
 congr 2
 omega
theorem Ym {w:World}{g:Nat}{d:Int}{k m:Nat}{t:TypeId}(h:w.heap[g]?=some (.cells (half d k m).toArray t (0,0))){j i:Nat}(hj:j≤k)(u:Value)(hu:(List.replicate j (.int .u64 d))[i]?=some u):w.cell? ((⟨g,0,none⟩:Addr).add i)=some u:=by
 rw[Addr.add_lit,Nat.zero_add,Zb h]
 rw[List.getElem?_replicate] at hu
 split at hu
 ·(
 rename_i hi
 injection hu with hu
 subst hu
 simp only[half,List.getElem?_toArray]
 rw[List.getElem?_append_left (by simp;omega),List.getElem?_replicate,if_pos (by omega)])
 ·cases hu
theorem VF {P:Program}{w:World}{o:Oper}{a:Act}{K:Act→World→Prop}{Q:Exit→Act→World→Prop}(x y:Operand)(dT sT:TypeId)
  (ho:o.op= .call {callee:= .builtin .copy,args:= #[x,y],argTypes:= #[dT,sT]}) (elem:TypeId) (hu:P.underlying dT=some (.slice elem)) (hsz:(P.info? elem).map (·.size)=some 1)
  (g off dLen dCap:Nat) (ad:Addr) (sLen sCap:Nat) (hd:a.eval x= .slice (some ⟨g,off,none⟩) dLen dCap) (hs:a.eval y= .slice (some ad) sLen sCap)
  (cur:List Value) (t:TypeId) (hg:w.heap[g]?=some (.cells cur.toArray t (0,0))) (cs:List Value) (hn:cs.length=Nat.min sLen dLen)
  (hsrc: ∀j v,cs[j]?=some v→w.cell? (ad.add j)=some v) (hfit:off+cs.length≤cur.length) (h1: ∀v∈cs,v.oneCell'=true) (B:Nat) (w0:World) (hb:Below B w0 w) (hBg:B≤g)
  (h: ∀w',w'.heap[g]?=some (.cells (splice cur off cs).toArray t (0,0))→Below B w0 w'→K (a.put o.dst (goInt cs.length)) w'):o.wp P a w K Q:=by
 have hrun:=run_copy_row (P:=P) w dT sT o.type elem g off dLen dCap ad sLen sCap cur.toArray t cs hu hsz hg hn hsrc (by simpa using hfit) h1
 unfold Oper.wp
 simp[execOp,ho,resolve,invoke,builtin,hd,hs,hrun,Result.andThen]
 exact h _ (by simpa [splice] using setRow_heap w g _ _ t _ hg) (below_setRow hb hBg _)
def Zko (w:World)(g:Nat)(d:Int)(m:Nat)(v8:Value)(wr:World):Prop:= ∃k:Nat,v8= .int .i64 (k:Int)∧k≤m∧(0 < m→0 < k)∧wr.heap[g]?=some (.cells (half d k m).toArray 60 (0,0))∧Below w.heap.size w wr
theorem YN (b o c:Nat)(d:Int)(m:Nat)(w:World)(hm:m≤64)(hb:b < w.heap.size)(hc:w.cell? ⟨b,o,none⟩=some (.int .u64 d)):
  Calls Tryz.prog 144 #[.slice (some ⟨b,o,none⟩) 1 c,.int .i64 (m:Int)] w fun e w'=> ∃g,e= .returned (.slice (some ⟨g,0,none⟩) m m)∧w.heap.size≤g∧w'.heap[g]?=some (.cells (List.replicate m (.int .u64 d)).toArray 60 (0,0))∧Below w.heap.size w w':=by
 obtain⟨i0,hi0,hz0,hz1,hz2⟩:=info_parts YM
 have hw1:IntKind.u64.wrap (m:Int)=(m:Int):=by rw[IntKind.wrap_u64];omega
 have hw2:IntKind.i64.wrap (m:Int)=(m:Int):=by rw[IntKind.wrap_i64];omega
 have hneg: ¬(m:Int) < 0:=by omega
 have hbig: ¬(9223372036854775807:Int) < (m:Int):=by omega
 go_enter Tryz.func144,Tryz.ntmps144
 go_wp2_with fail
 refine(mul_any m _ hm).mono ?_
 rintro e w1 ⟨rfl,rfl⟩
 have hmk: ∀W,(Instr.makeSlice 22 (.int .i64 (m:Int)) (.int .i64 (m:Int))).run Tryz.prog W= .ok (.slice (some ⟨W.heap.size,0,none⟩) m m) (W.alloc (.cells (half d 0 m).toArray 60)):=by(
 intro W
 have:=run_make (P:=Tryz.prog) W 22 60 i0 _ Tryz.underlying22 hi0 hz0 .i64 .i64 m m (by omega) (Int.le_refl _) (by rw[hz2];omega) (by omega)
 rw[this,hz1,Nat.mul_one,Int.toNat_natCast,show(Value.int IntKind.u64 0).cells= #[.int .u64 0] from rfl]
 congr 3
 apply Array.ext
 ·simp[madeCells,half]
 ·intro i h1 h2
  simp[madeCells,half,Nat.mod_one])
 have hg0:=heap_alloc_new w (.cells (half d 0 m).toArray 60)
 have hb0:Below w.heap.size w (w.alloc (.cells (half d 0 m).toArray 60)):=bA
 obtain⟨q,hq⟩: ∃q,q=min 1 m:=⟨_,rfl⟩
 have H1:Hid ((List.replicate q (Value.int .u64 d)).length=Nat.min 1 m):=Hd (by rw[List.length_replicate];exact hq)
 have H2:Hid (∀j v,(List.replicate q (Value.int .u64 d))[j]?=some v→(w.alloc (.cells (half d 0 m).toArray 60)).cell? ((⟨b,o,none⟩:Addr).add j)=some v):=by(
 refine Hd fun j v hv=> ?_
 rw[List.getElem?_replicate] at hv
 split at hv
 ·(
 injection hv with hv
 subst hv
 obtain rfl:j=0:=by omega
 rw[Addr.add_lit,Nat.add_zero]
 exact(hb0.cell (p:=⟨b,o,none⟩) hb).trans hc)
 ·cases hv)
 have H3:Hid ((List.replicate q (Value.int .u64 d)).length≤(half d 0 m).length):=Hd (by rw[List.length_replicate,Ug d (by omega)];omega)
 have H4:Hid (∀v∈List.replicate q (Value.int .u64 d),v.oneCell'=true):=Hd fun v hv=>by rw[List.eq_of_mem_replicate hv];rfl
 have H5:Hid (splice (half d 0 m) 0 (List.replicate q (.int .u64 d))=half d q m):=Hd (by have:=VE d (k:=0) (j:=q) (m:=m) (by omega);rw[Nat.zero_add] at this;exact this)
 have H6:Hid ((List.replicate q (Value.int .u64 d)).length=q):=Hd (List.length_replicate ..)
 obtain⟨cs,hcs⟩: ∃cs,cs=List.replicate q (Value.int .u64 d):=⟨_,rfl⟩
 rw[← hcs] at H1 H2 H3 H4 H5 H6
 clear hcs
 obtain⟨cur,hcur⟩: ∃cur,cur=half d 0 m:=⟨_,rfl⟩
 rw[← hcur] at H2 H3 H5 hmk hg0 hb0
 clear hcur hc
 have HG:=Hd hg0
 have HQ:=Hd hq
 clear hg0 hq
 go_wp2_with (with_reducible refine wpList_copy_splice rfl (.tmp 31) (.tmp 32) 22 22 rfl 60 Tryz.underlying22 U7 (some ⟨w.heap.size,0,none⟩) (some ⟨b,o,none⟩) m m 1 c rfl rfl w.heap.size 0 cur 60 HG.out cs H1.out (fun _=>⟨rfl,_,rfl,H2.out⟩) (by rw[Nat.zero_add];exact H3.out) H4.out w.heap.size w hb0 lR ?_;intro w2 HG2 hb2)
 have hg2:w2.heap[w.heap.size]?=some (.cells (half d q m).toArray 60 (0,0)):=by rw[← H5.out];exact HG2.out
 rw[H6.out]
 have hqm:q≤m∧(0 < m→0 < q):=by have:=HQ.out;omega
 clear HG HG2 hb0 H1 H2 H3 H4 H5 H6 hmk cs cur HQ
 go_loopw [8] (fun v8 wr=>Zko w w.heap.size d m v8 wr) (fun v8 _=>m - (intOf v8).toNat)
 case atStart=>exact⟨q,rfl,hqm.1,hqm.2,hg2,hb2⟩
 case round=>(
 clear hg2 hb2 hqm
 obtain⟨k,rfl,hk,hk0,hg,hbr⟩:=hrel
 by_cases hlt:k < m
 ·(
 have hkp:=hk0 (by omega)
 obtain⟨j,hj⟩: ∃j,j=min k (m - k):=⟨_,rfl⟩
 have hjm:k+j≤m:=by omega
 have hs1: ∀W,(Instr.slice 22 (.slice (some ⟨w.heap.size,0,none⟩) m m) (some (.int .i64 (k:Int))) none none).run Tryz.prog W= .ok (.slice (some ⟨w.heap.size,k,none⟩) (m - k) (m - k)) W:=by(
 intro W
 rw[run_slice_l W 22 _ _ _ (by rw[show Tryz.prog.elem 22=60 by simp[Program.elem,Tryz.underlying22]];exact Tryz.underlying22) .i64 _ (by omega) (by omega),show Tryz.prog.elem 22=60 by simp[Program.elem,Tryz.underlying22],VM]
 have: ¬m=k:=by omega
 simp[Result.andThen,sliced,this,Addr.add_lit])
 have hs2: ∀W,(Instr.slice 22 (.slice (some ⟨w.heap.size,0,none⟩) m m) none (some (.int .i64 (k:Int))) none).run Tryz.prog W= .ok (.slice (some ⟨w.heap.size,0,none⟩) k m) W:=by(
 intro W
 rw[run_slice_h W 22 _ _ _ (by rw[show Tryz.prog.elem 22=60 by simp[Program.elem,Tryz.underlying22]];exact Tryz.underlying22) .i64 _ (by omega) (by omega),show Tryz.prog.elem 22=60 by simp[Program.elem,Tryz.underlying22],VM]
 simp[Result.andThen,sliced,Addr.add_lit])
 have G1:Hid ((List.replicate j (Value.int .u64 d)).length=Nat.min k (m - k)):=Hd (by rw[List.length_replicate];exact hj)
 have G2:Hid (∀i v,(List.replicate j (Value.int .u64 d))[i]?=some v→wr.drew.cell? ((⟨w.heap.size,0,none⟩:Addr).add i)=some v):=
  Hd fun i v hv=>Ym (w:=wr.drew) hg (by omega) v hv
 have G3:Hid (k+(List.replicate j (Value.int .u64 d)).length≤(half d k m).length):=Hd (by rw[List.length_replicate,Ug d (by omega)];omega)
 have G4:Hid (∀v∈List.replicate j (Value.int .u64 d),v.oneCell'=true):=Hd fun v hv=>by rw[List.eq_of_mem_replicate hv];rfl
 have G5:Hid (splice (half d k m) k (List.replicate j (.int .u64 d))=half d (k+j) m):=Hd (VE d hjm)
 have G6:Hid ((List.replicate j (Value.int .u64 d)).length=j):=Hd (List.length_replicate ..)
 have G7:Hid (wr.drew.heap[w.heap.size]?=some (.cells (half d k m).toArray 60 (0,0))):=Hd hg
 have G8:Hid (Below w.heap.size w wr.drew):=Hd ⟨hbr.os,hbr.tape,hbr.output,hbr.size,hbr.block⟩
 obtain⟨cs,hcs⟩: ∃cs,cs=List.replicate j (Value.int .u64 d):=⟨_,rfl⟩
 rw[← hcs] at G1 G2 G3 G4 G5 G6
 clear hcs
 obtain⟨cur,hcur⟩: ∃cur,cur=half d k m:=⟨_,rfl⟩
 rw[← hcur] at G3 G5 G7
 clear hcur hg
 have HJ:=Hd hj
 clear hj
 go_wp2_with fail
 refine wro [0,1,2,3,4,5,6,7,8,9] [7,8,9] 10 (fun _=>True) (by kernel_rfl) (fun _ _ _ _ _ h=>h) trivial ?_
 simp only[steps,sE,sD]
 repeat(first
  |(refine Zd (v:= ?_) rfl rfl ?_ ?_;rotate_left;(focus(rintro w' -;go_simp;try with_reducible rfl));simp only[Act.put,sA,sB,sC]))
 refine Ze rfl rfl (fun K hK=> ?_)
 refine VF (.tmp 41) (.tmp 44) 22 22 rfl 60 Tryz.underlying22 U7 w.heap.size k (m - k) (m - k) ⟨w.heap.size,0,none⟩ k m rfl rfl cur 60 G7.out cs G1.out G2.out G3.out G4.out w.heap.size w G8.out lR ?_
 intro w4 hg4 hb4
 refine hK.out _ _ (fun _=>trivial) ?_
 clear hK K
 rw[G5.out] at hg4
 rw[show goInt cs.length= .int .i64 (j:Int) by rw[G6.out];rfl]
 have hwr:IntKind.i64.wrap ((k:Int)+(j:Int))=(k:Int)+(j:Int):=by rw[IntKind.wrap_i64];omega
 clear G1 G2 G3 G4 G5 G6 G7 G8
 simp only[Act.put,sA,sB,sC]
 refine Ze rfl rfl (fun K hK=> ?_)
 go_simp
 refine hK.out _ _ (fun _=>trivial) ?_
 clear hK K
 try simp only[Act.put,sA,sB,sC]
 refine Ze rfl rfl (fun K hK=> ?_)
 go_simp
 refine hK.out _ _ (fun _=>trivial) ?_
 clear hK K
 try simp only[Act.put,sA,sB,sC]
 refine Zg ?_
 have hj0:0 < j:=by have:=HJ.out;omega
 clear HJ
 go_wp2
 go_roundw
 case rel=>exact⟨k+j,by go_num,hjm,fun _=>by omega,hg4,hb4⟩
 case measure=>simp[intOf];omega)
 ·obtain rfl:k=m:=by omega
  go_wp2
  go_ret
  exact⟨w.heap.size,rfl,Nat.le_refl _,by rw[hg,Yl],hbr⟩)
end Go.Proofs.YtmejhedegmjboaaGreat.Bo
namespace Go.Proofs.YtmejhedegmjboaaGreat.Bo
open Go.RowKit
def Bd.turn (b:Bd):Bd:=⟨b.bv,b.bn,b.av,b.an⟩
def Us:Bd:=⟨false,0,false,0⟩
theorem Yn {α:Type}{enc:α→List Value}{sz:Nat}(he: ∀x,(enc x).length=sz){y:α}{u:Value}{i:Nat}(hi:i < sz): ∀(l:List α) (k:Nat) (h:k < l.length),enc y=(enc l[k]).set i u→(l.flatMap enc).set (k*sz+i) u=(l.set k y).flatMap enc
 | [],k,h,_=>by simp at h
 |x::l,0,_,e=>by(
 rw[List.flatMap_cons,Nat.zero_mul,Nat.zero_add,List.set_append_left _ _ (by rw[he];exact hi)]
 show _=(y::l).flatMap enc
 rw[List.flatMap_cons,e]
 rfl)
 |x::l,k+1,h,e=>by
  rw[List.flatMap_cons,List.set_append_right _ _ (by rw[he,Nat.add_mul];omega),he,show(k+1)*sz+i - sz=k*sz+i by rw[Nat.add_mul];omega,Yn he hi l k (by simpa using h) (by simpa using e)]
  rfl
def BdAt (w:World)(g:Nat)(l:List Bd):Prop:=w.heap[g]?=some (.cells (l.flatMap bdc).toArray 69 (0,0))
theorem BdAt.one {w:World}{g:Nat}{l:List Bd}(h:BdAt w g l){k:Nat}(hk:k < l.length){i:Nat}(hi:i < 4){u:Value}{y:Bd}(hy:bdc y=(bdc l[k]).set i u):BdAt (w.setCell ⟨g,k*4+i,none⟩ u) g (l.set k y):=by
 unfold BdAt at*
 rw[Zm h]
 congr 2
 rw[← Yn Zr hi l k hk hy]
 simp
theorem BdAt.set {w:World}{g:Nat}{l:List Bd}(h:BdAt w g l){k:Nat}(hk:k < l.length)(y:Bd):
  BdAt ((((w.setCell ⟨g,k*4,none⟩ (.bool y.av)).setCell ⟨g,k*4+1,none⟩ (.int .u64 (y.an:Int))).setCell ⟨g,k*4+2,none⟩ (.bool y.bv)).setCell ⟨g,k*4+3,none⟩ (.int .u64 (y.bn:Int))) g (l.set k y):=by
 have h0:=h.one hk (i:=0) (u:= .bool y.av) (by decide) (y:=⟨y.av,l[k].an,l[k].bv,l[k].bn⟩) rfl
 have h1:=h0.one (k:=k) (by simpa using hk) (i:=1) (u:= .int .u64 (y.an:Int)) (by decide) (y:=⟨y.av,y.an,l[k].bv,l[k].bn⟩) (by simp[bdc])
 have h2:=h1.one (k:=k) (by simpa using hk) (i:=2) (u:= .bool y.bv) (by decide) (y:=⟨y.av,y.an,y.bv,l[k].bn⟩) (by simp[bdc])
 have h3:=h2.one (k:=k) (by simpa using hk) (i:=3) (u:= .int .u64 (y.bn:Int)) (by decide) (y:=y) (by simp[bdc])
 rwa [List.set_set,List.set_set,List.set_set] at h3
theorem BdAt.cell {w:World}{g:Nat}{l:List Bd}(h:BdAt w g l){k:Nat}(hk:k < l.length){i:Nat}(hi:i < 4):w.cell? ⟨g,k*4+i,none⟩=(bdc l[k])[i]?:=by
 rw[Zb h, ← Array.getElem?_toList]
 exact flat_get Zr l k hk i hi
theorem BdAt.rs {w:World}{g:Nat}{l:List Bd}(h:BdAt w g l)(hl:l.length≤100000):Rs bdc 4 w w.heap.size (some ⟨g,0,none⟩) l.length l.length l:=
 Rs.of_blk (l:=l) (n:=l.length) (c:=l.length) Zr h ⟨[],by simp⟩ rfl lR (by unfold maxLen;omega)
def trn (l:List Bd)(i:Nat):List Bd:=(l.take i).map Bd.turn++List.replicate (l.length - i) Us
theorem Zkp {l:List Bd}{i:Nat}(h:i≤l.length):(trn l i).length=l.length:=by simp[trn];omega
theorem ZhK {l:List Bd}{i:Nat}(h:i < l.length):(trn l i).set i l[i].turn=trn l (i+1):=by
 unfold trn
 rw[List.set_append_right _ _ (by rw[List.length_map,List.length_take];omega),List.take_succ_eq_append_getElem h,List.map_append,List.length_map,List.length_take,Nat.min_eq_left (by omega),Nat.sub_self,show l.length - i=(l.length - (i+1))+1 by omega,List.replicate_succ]
 simp
theorem Zkq (l:List Bd):trn l l.length=l.map Bd.turn:=by simp[trn]
theorem Zfx:(Tryz.prog.info? 69).map (fun i=>(i.zero,i.size,i.bytes))=some (some (.agg #[.bool false,.int .u64 0,.bool false,.int .u64 0]),4,32):=by kernel_rfl
theorem Zkr (n:Nat):madeCells #[.bool false,.int .u64 0,.bool false,.int .u64 0] (n*4)=((List.replicate n Us).flatMap bdc).toArray:=by
 apply Array.ext
 ·rw[size_madeCells,List.size_toArray,Vr Zr,List.length_replicate]
 ·(
 intro i h1 h2
 rw[size_madeCells] at h1
 have hk:i / 4 < (List.replicate n Us).length:=by rw[List.length_replicate];omega
 have:=flat_get Zr (List.replicate n Us) (i / 4) hk (i%4) (Nat.mod_lt _ (by decide))
 rw[List.getElem_replicate,show i / 4*4+i%4=i by omega] at this
 have t2: ∀j,j < 4→(bdc Us)[j]?=some (#[Value.bool false,.int .u64 0,.bool false,.int .u64 0][j]!):=by(
 intro j hj
 have h4:j=0∨j=1∨j=2∨j=3:=by omega
 rcases h4 with rfl|rfl|rfl|rfl <;> rfl)
 rw[List.getElem?_eq_getElem (by simpa using h2)] at this
 simp only[madeCells,Array.getElem_map,Array.getElem_range,List.getElem_toArray]
 exact(Option.some.inj (this.trans (t2 _ (Nat.mod_lt _ (by decide))))).symm)
def ZmU (l:List Bd)(w:World)(v11:Value)(wr:World):Prop:= ∃i:Nat,v11= .int .i64 (i:Int)∧i≤l.length∧BdAt wr w.heap.size (trn l i)∧Below w.heap.size w wr
theorem Vd (A:Option Addr)(n c:Nat)(l:List Bd)(w:World)(h:Rs bdc 4 w w.heap.size A n c l)(hn:n≤256):
  Calls Tryz.prog 118 #[.slice A n c] w fun e w'=> ∃g,e= .returned (.slice (some ⟨g,0,none⟩) n n)∧Rs bdc 4 w' w'.heap.size (some ⟨g,0,none⟩) n n (l.map Bd.turn)∧Below w.heap.size w w':=by
 obtain⟨i0,hi0,hz0,hz1,hz2⟩:=info_parts Zfx
 have hlen:=h.len
 have hcap:=h.cap
 have htop:=h.top
 unfold maxLen at htop
 have hmk: ∀W,(Instr.makeSlice 42 (.int .i64 (n:Int)) (.int .i64 (n:Int))).run Tryz.prog W= .ok (.slice (some ⟨W.heap.size,0,none⟩) n n) (W.alloc (.cells ((trn l 0).flatMap bdc).toArray 69)):=by(
 intro W
 have:=run_make (P:=Tryz.prog) W 42 69 i0 _ Tryz.underlying42 hi0 hz0 .i64 .i64 n n (by omega) (Int.le_refl _) (by rw[hz2];omega) (by omega)
 rw[this,hz1,Int.toNat_natCast,show(Value.agg #[.bool false,.int .u64 0,.bool false,.int .u64 0]).cells= #[.bool false,.int .u64 0,.bool false,.int .u64 0] from rfl,Zkr,trn,hlen]
 rfl)
 have hg0:BdAt (w.alloc (.cells ((trn l 0).flatMap bdc).toArray 69)) w.heap.size (trn l 0):=heap_alloc_new w _
 have hb0:Below w.heap.size w (w.alloc (.cells ((trn l 0).flatMap bdc).toArray 69)):=bA
 have HR:=Hd h
 have HL:=Hd hlen
 have HG:=Hd hg0
 generalize ((trn l 0).flatMap bdc).toArray=cs at*
 clear h hg0 hi0 hz0 hz1 hz2 i0 hlen
 go_enter Tryz.func118,Tryz.ntmps118
 go_wp2
 clear hmk
 go_loopw [11] (fun v11 wr=>ZmU l w v11 wr) (fun v11 _=>n - (intOf v11).toNat)
 case atStart=>exact⟨0,rfl,by omega,HG.out,hb0⟩
 case round=>(
 clear HG hb0
 obtain⟨i,rfl,hi,hg,hb⟩:=hrel
 by_cases hlt:i < n
 ·(
 have hi':i < l.length:=by rw[HL.out];exact hlt
 have hr:=(HR.out.at_size lR hb)
 obtain⟨b,o,rfl,hbb,e0,e1,e2,e3⟩:=Ky hr hi'
 have hgl:w.heap.size < wr.heap.size:=Zh hg
 have hit:i < (trn l i).length:=by rw[Zkp hi];exact hi'
 obtain⟨ws,hws⟩: ∃ws,ws=(((wr.setCell ⟨w.heap.size,i*4,none⟩ (.bool l[i].bv)).setCell ⟨w.heap.size,i*4+1,none⟩ (.int .u64 (l[i].bn:Int))).setCell ⟨w.heap.size,i*4+2,none⟩ (.bool l[i].av)).setCell ⟨w.heap.size,i*4+3,none⟩ (.int .u64 (l[i].an:Int)):=⟨_,rfl⟩
 have hst:BdAt ws w.heap.size ((trn l i).set i l[i].turn):=hws▸hg.set hit l[i].turn
 rw[ZhK hi'] at hst
 have hbs:Below w.heap.size w ws:=hws▸(((hb.setCell (p:=⟨w.heap.size,i*4,none⟩) lR _).setCell (p:=⟨w.heap.size,i*4+1,none⟩) lR _).setCell (p:=⟨w.heap.size,i*4+2,none⟩) lR _).setCell (p:=⟨w.heap.size,i*4+3,none⟩) lR _
 have HST:Hid (∀o,BdAt (ws.alloc o) w.heap.size (trn l (i+1))∧Below w.heap.size w (ws.alloc o)):=Hd fun o=>⟨(((Below.refl ws.heap.size ws).alloc lR o).block _ (Zh hst)).trans hst,hbs.alloc hbs.size o⟩
 rw[hws] at HST
 have f0:wr.frozen? ⟨w.heap.size,i*4,none⟩=false:=Zc hg
 have f1:wr.frozen? ⟨w.heap.size,i*4+1,none⟩=false:=Zc hg
 have f2:wr.frozen? ⟨w.heap.size,i*4+2,none⟩=false:=Zc hg
 have f3:wr.frozen? ⟨w.heap.size,i*4+3,none⟩=false:=Zc hg
 have d0:=hg.cell hit (i:=0) (by decide)
 have d1:=hg.cell hit (i:=1) (by decide)
 have d2:=hg.cell hit (i:=2) (by decide)
 have d3:=hg.cell hit (i:=3) (by decide)
 have HLT:=Hd hlt
 clear hws hst hbs
 clear ws
 generalize (trn l i)[i]=z at*
 generalize l[i]=y at*
 clear hr hbb hg hit hi' hb
 obtain⟨av,an,bv,bn⟩:=y
 obtain⟨zv,zn,yv,yn⟩:=z
 simp only at e0 e1 e2 e3 HST
 replace d0:_=some (Value.bool zv):=d0
 replace d1:_=some (Value.int .u64 (zn:Int)):=d1
 replace d2:_=some (Value.bool yv):=d2
 replace d3:_=some (Value.int .u64 (yn:Int)):=d3
 simp only[Nat.add_zero] at d0
 go_wp2_with fail
 go_roundw
 case rel=>exact⟨i+1,by go_num,by have:=HLT.out;have:=HL.out;omega,(HST.out _).1,(HST.out _).2⟩
 case measure=>(
 have:=HLT.out
 simp[intOf]
 omega))
 ·(
 have hin:i=n:=by have:=HL.out;omega
 subst hin
 have hg':BdAt wr w.heap.size (l.map Bd.turn):=by(
 have e:=Zkq l
 rw[HL.out] at e
 rw[← e]
 exact hg)
 have hrs:=hg'.rs (by rw[List.length_map,HL.out];omega)
 rw[List.length_map,HL.out] at hrs
 have HRS:=Hd hrs
 clear hg hg' hrs
 go_wp2
 go_ret
 exact⟨_,rfl,HRS.out,hb⟩))
end Go.Proofs.YtmejhedegmjboaaGreat.Bo
namespace Go.Proofs.YtmejhedegmjboaaGreat.Bo
open Go.RowKit
theorem getD_at {l:List Nat}{i:Nat}(h:i < l.length):l.getD i 0=l[i]:=by rw[List.getD_eq_getElem?_getD,List.getElem?_eq_getElem h];rfl
theorem ZcZ {l:List Nat}{i j v:Nat}(h:i < l.length):(l.set i v).getD j 0=if i=j then v else l.getD j 0:=by
 rw[List.getD_eq_getElem?_getD,List.getElem?_set]
 by_cases e:i=j
 ·subst e
  rw[if_pos rfl,if_pos rfl,if_pos h]
  rfl
 ·rw[if_neg e,if_neg e,List.getD_eq_getElem?_getD]
theorem Zc0 {k i x:Nat}(h:i < k):(List.replicate k x).getD i 0=x:=by
 rw[getD_at (by simpa using h)]
 simp
def Led (S:Sr)(l:List Bd)(u:List Nat):Prop:= ∀b∈l,b.bv=true→S.below (vl u b.av b.an) (u.getD b.bn 0)=true
def Qk (S:Sr)(k:Nat)(u:List Nat):Prop:=u.length=k∧ ∀i,i < k→S.has (u.getD i 0)=true
structure Under (S:Sr)(k:Nat)(l:List Bd)(v:List Nat):Prop where
 has:Qk S k v
 low: ∀u,Qk S k u→Led S l u→ ∀i,i < k→S.below (v.getD i 0) (u.getD i 0)=true
structure QV (S:Sr)(k:Nat)(l:List Bd)(v:List Nat):Prop extends Under S k l v where
 led:Led S l v
theorem Under.start {S:Sr}(h:S.Ok){k:Nat}{l:List Bd}(hb:0 < k→S.has S.bot=true):Under S k l (List.replicate k S.bot):=by
 refine⟨⟨by simp,fun i hi=> ?_⟩,fun u hu _ i hi=> ?_⟩
 ·rw[Zc0 hi]
  exact hb (by omega)
 ·rw[Zc0 hi]
  exact h.botl _ (hu.2 i hi)
theorem KI {S:Sr}{k:Nat}{b:Bd}{v:List Nat}(hm:mayB S k b=true)(hv:Qk S k v):S.has (vl v b.av b.an)=true:=by
 obtain⟨h1,_⟩:=Bool.and_eq_true_iff.1 hm
 unfold mayT at h1
 unfold vl
 cases hav:b.av with
 |true=>
  rw[hav] at h1
  exact hv.2 _ (of_decide_eq_true h1)
 |false=>
  rw[hav] at h1
  exact h1
theorem Zc1 {S:Sr}{k:Nat}{b:Bd}(hm:mayB S k b=true)(hb:b.bv=true):b.bn < k:=by
 obtain⟨_,h2⟩:=Bool.and_eq_true_iff.1 hm
 unfold mayT at h2
 rw[hb] at h2
 exact of_decide_eq_true h2
theorem Under.step {S:Sr}(h:S.Ok){k:Nat}{l:List Bd}{v:List Nat}(hv:Under S k l v){b:Bd}(hbl:b∈l)(hm:mayB S k b=true)(hb:b.bv=true):
  Under S k l (v.set b.bn (S.join (v.getD b.bn 0) (vl v b.av b.an))):=by
 have hat:=Zc1 hm hb
 have h1:=hv.has.2 _ hat
 have h2:=KI hm hv.has
 have hj:=h.joinA _ _ h1 h2
 have hl:b.bn < v.length:=by rw[hv.has.1];exact hat
 refine⟨⟨by rw[List.length_set];exact hv.has.1,fun i hi=> ?_⟩,fun u hu hled i hi=> ?_⟩
 ·rw[ZcZ hl]
  split
  ·exact(h.sub _ _ hj).2
  ·exact hv.has.2 i hi
 ·(
 rw[ZcZ hl]
 split
 ·(
 rename_i e
 subst e
 refine h.joinL _ _ _ (hv.low u hu hled _ hat) (h.trans _ _ _ ?_ (hled b hbl hb))
 unfold vl
 cases hav:b.av with
 |true=>(
 have ha:b.an < k:=by(
 obtain⟨k1,_⟩:=Bool.and_eq_true_iff.1 hm
 unfold mayT at k1
 rw[hav] at k1
 exact of_decide_eq_true k1)
 exact hv.low u hu hled _ ha)
 |false=>(
 have:S.has b.an=true:=by(
 obtain⟨k1,_⟩:=Bool.and_eq_true_iff.1 hm
 unfold mayT at k1
 rw[hav] at k1
 exact k1)
 exact h.refl _ this))
 ·exact hv.low u hu hled i hi)
def room (r:Nat→Nat)(v:List Nat):Nat:=(v.map fun x=>64 - r x).sum
theorem Zc2 (r:Nat→Nat): ∀(v:List Nat) (i x:Nat),i < v.length→room r (v.set i x)+(64 - r (v.getD i 0))=room r v+(64 - r x)
 | [],i,_,h=>by simp at h
 |y::v,0,x,_=>by simp[room];omega
 |y::v,i+1,x,h=>by(
 have:=Zc2 r v i x (by simpa using h)
 simp[room] at this ⊢
 omega)
theorem Zfy {S:Sr}(h:S.Ok){r:Nat→Nat}(hr: ∀a,r a≤64)(hs: ∀a b,S.below a b=true→a≠b→r a < r b){k:Nat}{l:List Bd}{v:List Nat}(hv:Under S k l v){b:Bd}(hm:mayB S k b=true)(hb:b.bv=true)
  (hne:S.join (v.getD b.bn 0) (vl v b.av b.an)≠v.getD b.bn 0):room r (v.set b.bn (S.join (v.getD b.bn 0) (vl v b.av b.an))) < room r v:=by
 have hat:=Zc1 hm hb
 have hj:=h.joinA _ _ (hv.has.2 _ hat) (KI hm hv.has)
 have h1:=hs _ _ hj (Ne.symm hne)
 have h2:=Zc2 r v b.bn (S.join (v.getD b.bn 0) (vl v b.av b.an)) (by rw[hv.has.1];exact hat)
 have:=hr (S.join (v.getD b.bn 0) (vl v b.av b.an))
 omega
theorem ZhL {v:List Nat}{i:Nat}(h:i < v.length):v.set i (v.getD i 0)=v:=by
 rw[getD_at h,List.set_getElem_self]
def Zks (S:Sr)(l:List Bd)(i:Nat)(u:List Nat):Prop:= ∀j (h:j < l.length),j < i→l[j].bv=true→S.below (vl u l[j].av l[j].an) (u.getD l[j].bn 0)=true
theorem Zks.all {S:Sr}{l:List Bd}{u:List Nat}(h:Zks S l l.length u):Led S l u:=fun b hb hv=>by
 obtain⟨j,hj,rfl⟩:=List.mem_iff_getElem.1 hb
 exact h j hj hj hv
structure Pass (S:Sr)(r:Nat→Nat)(k:Nat)(l:List Bd)(v0:List Nat)(i:Nat)(grew:Bool)(v:List Nat):Prop where
 un:Under S k l v
 rm:room r v≤room r v0
 yes:grew=true→room r v < room r v0
 no:grew=false→v=v0∧Zks S l i v0
theorem Pass.start {S:Sr}{r:Nat→Nat}{k:Nat}{l:List Bd}{v:List Nat}(h:Under S k l v):Pass S r k l v 0 false v:=
 ⟨h,Nat.le_refl _,(fun e=>by cases e),fun _=>⟨rfl,fun _ _ h=>absurd h (Nat.not_lt_zero _)⟩⟩
theorem Pass.skip {S:Sr}{r:Nat→Nat}{k:Nat}{l:List Bd}{v0:List Nat}{i:Nat}{grew:Bool}{v:List Nat}(h:Pass S r k l v0 i grew v)(hi:i < l.length)(hb:l[i].bv=false):Pass S r k l v0 (i+1) grew v:=
 ⟨h.un,h.rm,h.yes,fun e=>⟨(h.no e).1,fun j hj hlt hv=>by
  by_cases hji:j=i
  ·(
 subst hji
 rw[hb] at hv
 cases hv)
  ·exact(h.no e).2 j hj (by omega) hv⟩⟩
theorem Pass.step {S:Sr}(hS:S.Ok){r:Nat→Nat}(hr: ∀a,r a≤64)(hs: ∀a b,S.below a b=true→a≠b→r a < r b){k:Nat}{l:List Bd}{v0:List Nat}{i:Nat}{grew:Bool}{v:List Nat}(h:Pass S r k l v0 i grew v)(hi:i < l.length)(hm:mayB S k l[i]=true)(hb:l[i].bv=true)
  {x:Nat} (hx:S.join (v.getD l[i].bn 0) (vl v l[i].av l[i].an)=x):Pass S r k l v0 (i+1) (grew|| !(x==v.getD l[i].bn 0)) (v.set l[i].bn x):=by
 have hat:=Zc1 hm hb
 have hl:l[i].bn < v.length:=by rw[h.un.has.1];exact hat
 have hu:=h.un.step hS (List.getElem_mem hi) hm hb
 have h1:=h.rm
 by_cases e:x=v.getD l[i].bn 0
 ·(
 have e2:v.set l[i].bn x=v:=by rw[e];exact ZhL hl
 have eb:(x==v.getD l[i].bn 0)=true:=by rw[e];simp
 rw[e2,eb,Bool.not_true,Bool.or_false]
 refine⟨h.un,h1,h.yes,fun eg=>⟨(h.no eg).1,fun j hj hlt hv=> ?_⟩⟩
 by_cases hji:j=i
 ·(
 subst hji
 obtain⟨ev,-⟩:=h.no eg
 subst ev
 have:=hS.joinB _ _ (h.un.has.2 _ hat) (KI hm h.un.has)
 rw[hx,e] at this
 exact this)
 ·exact(h.no eg).2 j hj (by omega) hv)
 ·(
 have hlt:=Zfy hS hr hs h.un hm hb (by rw[hx];exact e)
 rw[hx] at hu hlt
 have eb:(x==v.getD l[i].bn 0)=false:=by simpa using e
 rw[eb,Bool.not_false,Bool.or_true]
 exact⟨hu,by omega,fun _=>by omega,fun e=>by cases e⟩)
theorem Pass.done {S:Sr}{r:Nat→Nat}{k:Nat}{l:List Bd}{v0 v:List Nat}(h:Pass S r k l v0 l.length false v):QV S k l v:=by
 obtain⟨e,hl⟩:=h.no rfl
 subst e
 exact⟨h.un,hl.all⟩
theorem Ql {S:Sr}(h:S.Ok){k:Nat}{v:List Nat}(hv:Qk S k v):La.Fit v:=fun x hx=>by
 obtain⟨i,hi,rfl⟩:=List.mem_iff_getElem.1 hx
 have:=hv.2 i (by rw[← hv.1];exact hi)
 rw[getD_at hi] at this
 exact h.fit _ this
end Go.Proofs.YtmejhedegmjboaaGreat.Bo
namespace Go.Proofs.YtmejhedegmjboaaGreat.Bo
open Go.RowKit
def Zbh (w:World)(g:Nat):List Nat:=match w.heap[g]? with
 |some (.cells cs _ _)=>cs.toList.map fun v=>(intOf v).toNat
 |_=> []
def NmAt (w:World)(g:Nat)(l:List Nat):Prop:=w.heap[g]?=some (.cells (La.cl l) 60 (0,0))
theorem NmAt.nums {w:World}{g:Nat}{l:List Nat}(h:NmAt w g l):Zbh w g=l:=by
 unfold Zbh
 rw[show w.heap[g]?=_ from h]
 simp only[La.cl,List.map_map]
 conv=>rhs;rw[← List.map_id l]
 apply List.map_congr_left
 intro x _
 simp[La.nm,intOf]
theorem Zbi {P:Program}{pre rest:Code}{Q:Exit→Act→World→Prop}{a:Act}{w:World}(J:Act→World→Prop)(μ:Act→World→Nat)(hf:findLabel (pre.seq ((Code.label 0).seq rest)) 0=some (Code.skip.seq rest))
  (first:pre.wp P (Exit.then J fun _ _ _=>False) a w)
  (hp: ∀a w,J a w→rest.wp P (Exit.jump 0 (fun a' w'=>J a' w'∧μ a' w' < μ a w) Q) a w):(Code.scope (pre.seq ((Code.label 0).seq rest))).wp P Q a w:=by
 refine wp_scope_jumps 0 J μ hf (wp_seq (wp_mono first ?_)) (fun a w h=>wp_seq (wp_skip (hp a w h)))
 intro e a' w' hh
 cases e with
 |normal=>(
 refine wp_seq (wp_label ?_)
 refine wp_mono (hp a' w' hh) ?_
 intro e a2 w2 h2
 cases e with
 |goto l'=>exact⟨h2.1,h2.2.1⟩
 |normal=>exact h2
 |exit id=>exact h2
 |ret=>exact h2
 |panic ch=>exact h2
 |outgrown=>exact h2)
 |goto l'=>exact False.elim hh
 |exit id=>exact False.elim hh
 |ret=>exact False.elim hh
 |panic ch=>exact False.elim hh
 |outgrown=>exact False.elim hh
def Fm (w:World)(fb fj:Nat)(p:Value)(S:Sr):Prop:=
 (∀W,Below w.heap.size w W→Calls Tryz.prog fb #[p] W fun e w'=>e= .returned (.int .u64 (S.bot:Int))∧Below W.heap.size W w')∧
 (∀W,Below w.heap.size w W→ ∀x y:Nat,x < 18446744073709551616→y < 18446744073709551616→Calls Tryz.prog fj #[p,.int .u64 (x:Int),.int .u64 (y:Int)] W fun e w'=>e= .returned (.int .u64 (S.join x y:Int))∧Below W.heap.size W w')
def Mts (w:World)(f g:Value)(S:Sr):Prop:=
 (∃a,f= .func (.method "Bottom") #[.iface 74 (.pointer a)] #[]∧g= .func (.method "Join") #[.iface 74 (.pointer a)] #[]∧Fm w 191 193 (.pointer a) S)∨
 (∃a,f= .func (.method "Bottom") #[.iface 77 (.pointer a)] #[]∧g= .func (.method "Join") #[.iface 77 (.pointer a)] #[]∧Fm w 202 204 (.pointer a) S)∨
 (f= .func (.method "Bottom") #[.iface 226 (.agg #[])] #[]∧g= .func (.method "Join") #[.iface 226 (.agg #[])] #[]∧Fm w 212 214 (.agg #[]) S)∨
 (∃a,f= .func (.method "Top") #[.iface 74 (.pointer a)] #[]∧g= .func (.method "Meet") #[.iface 74 (.pointer a)] #[]∧Fm w 195 194 (.pointer a) S)∨
 (∃a,f= .func (.method "Top") #[.iface 77 (.pointer a)] #[]∧g= .func (.method "Meet") #[.iface 77 (.pointer a)] #[]∧Fm w 206 205 (.pointer a) S)∨
 (f= .func (.method "Top") #[.iface 226 (.agg #[])] #[]∧g= .func (.method "Meet") #[.iface 226 (.agg #[])] #[]∧Fm w 216 215 (.agg #[]) S)
structure EnAt (S:Sr)(k:Nat)(l:List Bd)(w:World)(q:Nat)(wr:World)(v:List Nat):Prop where
 new:w.heap.size≤q
 un:Under S k l v
 blk:NmAt wr q v
 kept:Below w.heap.size w wr
def ZmV (a:Act):Nat:=match a.tmps.getD 9 undef with
 | .slice (some p) _ _=>p.block
 |_=>0
def EnJ (S:Sr)(k:Nat)(l:List Bd)(w:World)(s1 s3:Value)(a':Act)(w':World):Prop:=
 ∃(q:Nat) (v:List Nat) (u0 u2 u4 u5 u6 u7 u8 u10 u11 u12 u13 u14 u15 u16 u17 u18 u19 u20 u21 u22 u23 u24 u25 u26 u27 u28 u29 u30 u31 u32 u33 u34 u35 u36 u37 u38 u39 u40 u41 u42 u43 u44 u45 u46 u47 u48 u49 u50 u51 u52 u53 u54 u55 u56 u57 u58 u59 u60 u61 u62 u63 u64:Value),EnAt S k l w q w' v∧a'={tmps:= #[u0,s1,u2,s3,u4,u5,u6,u7,u8,.slice (some ⟨q,0,none⟩) k k,u10,u11,u12,u13,u14,u15,u16,u17,u18,u19,u20,u21,u22,u23,u24,u25,u26,u27,u28,u29,u30,u31,u32,u33,u34,u35,u36,u37,u38,u39,u40,u41,u42,u43,u44,u45,u46,u47,u48,u49,u50,u51,u52,u53,u54,u55,u56,u57,u58,u59,u60,u61,u62,u63,u64],defers:= []}
def ZmW (S:Sr)(r:Nat→Nat)(k:Nat)(l:List Bd)(w:World)(q:Nat)(v0:List Nat)(v10 v24:Value)(wr:World):Prop:=
 ∃(i:Nat) (b:Bool) (v:List Nat),v24= .int .i64 (i:Int)∧i≤l.length∧v10= .bool b∧Pass S r k l v0 i b v∧NmAt wr q v∧Below w.heap.size w wr
theorem NmAt.set {w:World}{q:Nat}{v:List Nat}(h:NmAt w q v)(i x:Nat):NmAt (w.setCell ⟨q,i,none⟩ (.int .u64 (x:Int))) q (v.set i x):=by
 unfold NmAt at*
 rw[Zm h,La.Q8]
theorem NmAt.keep {w w':World}{q:Nat}{v:List Nat}(h:NmAt w q v)(hb:Below w.heap.size w w'):NmAt w' q v:=(hb.block q (Zh h)).trans h
theorem NmAt.rd {w:World}{q k:Nat}{v:List Nat}(h:NmAt w q v)(hk:v.length=k)(h6:k≤64):Rd La.nm w w.heap.size (some ⟨q,0,none⟩) k k v:=La.Rf h hk (by omega)
theorem UU (f g:Value)(k:Nat)(A:Option Addr)(n c:Nat)(l:List Bd)(S:Sr)(w:World)(hS:S.Ok)(hm:Mts w f g S)(hk:k≤64)(h:Rs bdc 4 w w.heap.size A n c l)(hf: ∀b∈l,b.Fit)(hl: ∀b∈l,mayB S k b=true)(hbot:0 < k→S.has S.bot=true):
  Calls Tryz.prog 116 #[.int .i64 (k:Int),.slice A n c,f,g] w fun e w'=> ∃q v,e= .returned (.slice (some ⟨q,0,none⟩) k k)∧Rd La.nm w' w'.heap.size (some ⟨q,0,none⟩) k k v∧QV S k l v∧Below w.heap.size w w':=by
 obtain⟨r,hr1,hr2⟩:=hS.rk
 have HR1:=Hd hr1
 have HR2:=Hd hr2
 have HS:=Hd hS
 have HF:=Hd hf
 have HMB:=Hd hl
 have HK:=Hd hk
 have HL:=Hd h.len
 have hcap:=h.cap
 have htop:=h.top
 unfold maxLen at htop
 have HR:=Hd h
 have HU:=Hd (Under.start hS (l:=l) hbot)
 clear hr1 hr2 hS hf hl hk h hbot
 rcases hm with⟨a,rfl,hgv,hfm⟩|⟨a,rfl,hgv,hfm⟩|⟨rfl,hgv,hfm⟩|⟨a,rfl,hgv,hfm⟩|⟨a,rfl,hgv,hfm⟩|⟨rfl,hgv,hfm⟩
 all_goals(
 obtain⟨hf1,hf2⟩:=hfm
 have HGV:=Hd hgv
 clear hgv
 have HM:=Hd hf2
 have hcb:=hf1 w (Below.refl _ _)
 clear hf1 hf2
 go_enter Tryz.func116,Tryz.ntmps116
 go_wp2_with fail
 refine Zbi (EnJ S k l w (.slice A n c) g) (fun a' w'=>room r (Zbh w' (ZmV a'))) rfl ?_ ?_
 focus(
 go_wp2_with fail
 refine hcb.mono ?_
 rintro e w1 ⟨rfl,hb1⟩
 clear hcb
 have hal:Below w1.heap.size w1 (w1.alloc (.cells #[.int .u64 (S.bot:Int)] 60)):=bA
 have hrep:=YN w1.heap.size 0 1 (S.bot:Int) k (w1.alloc (.cells #[.int .u64 (S.bot:Int)] 60)) HK.out (by simp) ((Zb (i:=0) (heap_alloc_new w1 _)).trans rfl)
 have HB1:=Hd (hb1.trans (hal.mono hb1.size))
 have HREP:=Hd hrep
 clear hal hrep hb1
 go_wp2_with fail
 refine HREP.out.mono ?_
 rintro e w2 ⟨q,rfl,hqn,hq,hb2⟩
 have HE:Hid (EnAt S k l w q w2 (List.replicate k S.bot)):=Hd ⟨Nat.le_trans HB1.out.size hqn,HU.out,by unfold NmAt;rw[hq];simp[La.cl,La.nm],HB1.out.trans (hb2.mono HB1.out.size)⟩
 clear hq hqn hb2 HREP HB1 HU
 go_wp2_with fail
 exact⟨q,_,_,_,_,_,_,_,_,_,_,_,_,_,_,_,_,_,_,_,_,_,_,_,_,_,_,_,_,_,_,_,_,_,_,_,_,_,_,_,_,_,_,_,_,_,_,_,_,_,_,_,_,_,_,_,_,_,_,_,_,_,_,_,HE.out,rfl⟩)
 clear hcb HU
 obtain rfl:=HGV.out
 clear HGV
 rintro a' w' ⟨q,v0,u0,u2,u4,u5,u6,u7,u8,u10,u11,u12,u13,u14,u15,u16,u17,u18,u19,u20,u21,u22,u23,u24,u25,u26,u27,u28,u29,u30,u31,u32,u33,u34,u35,u36,u37,u38,u39,u40,u41,u42,u43,u44,u45,u46,u47,u48,u49,u50,u51,u52,u53,u54,u55,u56,u57,u58,u59,u60,u61,u62,u63,u64,hE,rfl⟩
 have HN:=Hd hE.blk.nums
 have HEV:=Hd hE
 have HQ:=Hd hE.new
 clear hE
 go_wp2_with fail
 go_loopw [10,24] (fun v10 v24 wr=>ZmW S r k l w q v0 v10 v24 wr) (fun _ v24 _=>n - (intOf v24).toNat)
 case atStart=>exact⟨0,false,v0,rfl,by omega,rfl,Pass.start HEV.out.un,HEV.out.blk,HEV.out.kept⟩
 case round=>
  obtain⟨i,grew,v,rfl,hi,rfl,hp,hblk,hb⟩:=hrel
  by_cases hlt:i < n
  ·(
 have hi':i < l.length:=by rw[HL.out];exact hlt
 have hrr:=(HR.out.at_size lR hb)
 obtain⟨b,o,rfl,hbb,e0,e1,e2,e3⟩:=Ky hrr hi'
 have hu:=HF.out _ (List.getElem_mem hi')
 have hmy:=HMB.out _ (List.getElem_mem hi')
 have hvl:=hp.un.has.1
 have hvf:=Ql HS.out hp.un.has
 have HSK:=Hd (fun e=>hp.skip hi' e)
 have HSTP:=Hd (fun e x (hx:S.join _ _=x)=>hp.step HS.out HR1.out HR2.out hi' hmy e hx)
 have HAT:=Hd (fun e=>Zc1 hmy e)
 generalize l[i]=y at*
 obtain⟨av,an,bv,bn⟩:=y
 simp only at e0 e1 e2 e3 hu HSK HSTP HAT
 have HLT:=Hd hlt
 have hal:Below wr.heap.size wr (wr.alloc (.cells #[.bool av,.int .u64 (an:Int),.bool bv,.int .u64 (bn:Int)] 69)):=bA
 have HB1:=Hd (hb.trans (hal.mono hb.size))
 cases bv with
 |false=>(
 have HSK:=Hd (HSK.out rfl)
 have HBL:=Hd (hblk.keep hal)
 clear hp hblk hb hrr hbb hu hmy hvl hvf hal hi' HSTP HAT
 go_wp2_with fail
 go_roundw
 case rel=>exact⟨i+1,grew,v,by go_num,by have:=HLT.out;have:=HL.out;omega,rfl,HSK.out,HBL.out,HB1.out⟩
 case measure=>(
 have:=HLT.out
 simp[intOf]
 omega))
 |true=>(
 have hbk:=HAT.out rfl
 have hbv:bn < v.length:=by rw[hvl];exact hbk
 have HSTP:=Hd (HSTP.out rfl)
 obtain⟨x1,hx1⟩: ∃x,vl v av an=x:=⟨_,rfl⟩
 obtain⟨y1,hy1⟩: ∃x,okT v av an=x:=⟨_,rfl⟩
 obtain⟨x2,hx2⟩: ∃x,v.getD bn 0=x:=⟨_,rfl⟩
 obtain⟨x3,hx3⟩: ∃x,S.join x2 x1=x:=⟨_,rfl⟩
 have hx1f:x1 < 18446744073709551616:=hx1▸Zby hvf hu.1
 have hx2f:x2 < 18446744073709551616:=by rw[← hx2,getD_at hbv];exact hvf.get bn hbv
 have HST:=Hd (HSTP.out x3 (by rw[hx1,hx2];exact hx3))
 rw[hx2] at HST
 have HBK:=Hd (hblk.keep hal)
 have hval:=Qy av an (some ⟨q,0,none⟩) k k _ v _ (HBK.out.rd hvl HK.out) lR hu.1 x1 y1 hx1 hy1
 have HVAL:=Hd hval
 have HVC:Hid ((La.cl v)[bn]?=some (.int .u64 (x2:Int))):=Hd (by rw[← hx2,getD_at hbv];exact La.Uc hbv)
 have hcx:=fun (j:Nat) (hj:j < 4)=>Zb (i:=j) (heap_alloc_new wr (.cells #[.bool av,.int .u64 (an:Int),.bool true,.int .u64 (bn:Int)] 69))
 have HM3:=Hd (fun W hW=>hx3▸HM.out W hW x2 x1 hx2f hx1f)
 have hbki:(bn:Int) < (k:Int):=by omega
 clear hp hblk hb hrr hbb hu hmy hvl hvf hal hi' HSTP HAT HSK hx1 hy1 hx2 hx3 hx1f hx2f hval hbv
 unfold tmv at HVAL
 go_wp2_with fail
 refine HVAL.out.mono ?_
 rintro e w2 ⟨rfl,hb2⟩
 have HB2:=Hd (HB1.out.trans (hb2.mono HB1.out.size))
 have HK2:=Hd (HBK.out.keep hb2)
 have hc2:=(Zb (i:=bn) HK2.out).trans HVC.out
 clear hb2 hcx e0 e1 e2 e3 HVAL HBK HB1
 have hm3:=HM3.out _ HB2.out
 go_wp2_with fail
 refine hm3.mono ?_
 rintro e w3 ⟨rfl,hb3⟩
 have HB3:=Hd (HB2.out.trans (hb3.mono HB2.out.size))
 have HK3:=Hd (HK2.out.keep hb3)
 have hc3:=(Zb (i:=bn) HK3.out).trans HVC.out
 have hfz:w3.frozen? ⟨q,bn,none⟩=false:=Zc HK3.out
 have HKS:=Hd (HK3.out.set bn x3)
 have HBS:Hid (Below w.heap.size w (w3.setCell ⟨q,bn,none⟩ (.int .u64 (x3:Int)))):=Hd (HB3.out.setCell (p:=⟨q,bn,none⟩) HQ.out _)
 obtain⟨d,hd⟩: ∃d,(x3==x2)=d:=⟨_,rfl⟩
 rw[hd] at HST
 have hne:((x3:Int) !=(x2:Int))= !d:=by(
 rw[← hd]
 by_cases e:x3=x2
 ·subst e
  simp
 ·have e1:((x3:Int) !=(x2:Int))=true:=by simp;omega
  have e2:(x3==x2)=false:=by simpa using e
  rw[e1,e2]
  rfl)
 clear hb3 hm3 hc2 HK2 HB2 HK3 HB3 hd HM3 HVC
 cases grew with
 |true=>(
 clear hne
 go_wp2_with fail
 go_roundw
 case rel=>exact⟨i+1,true,_,by go_num,by have:=HLT.out;have:=HL.out;omega,rfl,HST.out,HKS.out,HBS.out⟩
 case measure=>(
 have:=HLT.out
 simp[intOf]
 omega))
 |false=>(
 go_wp2_with fail
 go_roundw
 case rel=>exact⟨i+1, !d,_,by go_num,by have:=HLT.out;have:=HL.out;omega,rfl,HST.out,HKS.out,HBS.out⟩
 case measure=>(
 have:=HLT.out
 simp[intOf]
 omega))))
  ·have hin:i=l.length:=by have:=HL.out;omega
   subst hin
   have HE:Hid (EnAt S k l w q wr v):=Hd ⟨HQ.out,hp.un,hblk,hb⟩
   cases grew with
   |true=>(
 have HRM:=Hd (hp.yes rfl)
 clear hp hblk hb
 go_wp2
 go_step3
 refine⟨rfl,⟨q,v,_,_,_,_,_,_,_,_,_,_,_,_,_,_,_,_,_,_,_,_,_,_,_,_,_,_,_,_,_,_,_,_,_,_,_,_,_,_,_,_,_,_,_,_,_,_,_,_,_,_,_,_,_,_,_,_,_,_,_,_,_,_,HE.out,rfl⟩,?_⟩
 show room r (Zbh wr q) < room r (Zbh _ q)
 rw[HN.out,HE.out.blk.nums]
 exact HRM.out)
   |false=>
    have HD:=Hd hp.done
    clear hp hblk hb
    go_wp2
    simp only[Exit.jump]
    go_ret
    exact⟨q,v,rfl,HE.out.blk.rd HD.out.has.1 HK.out,HD.out,HE.out.kept⟩)
end Go.Proofs.YtmejhedegmjboaaGreat.Bo
