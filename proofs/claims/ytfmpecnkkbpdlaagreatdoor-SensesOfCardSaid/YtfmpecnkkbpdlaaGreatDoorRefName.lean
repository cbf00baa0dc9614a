import Derived.Test.YtfmpecnkkbpdlaaGreatDoorProg
import Derived.Laws.CopyOwn
import Derived.Deep.RegionLaw
import Derived.Laws.BitsAllLaws
import Derived.Laws.ShiftsVar
import Derived.Laws.ShiftsVarLaws
import Derived.WalkKit
import Derived.LoopTactic
import Derived.Outline
import Derived.Sort.EncStr
import Derived.Lib.Strings
import Derived.Lib.RowBridge
import Derived.OwnWalk
import Derived.Laws.StructEq
import Derived.Deep.QuietTactic
import Derived.BigQuiet
import Derived.Test.YtfmpecnkkbpdlaaGreatDoorBoChk
import Derived.Test.YtfmpecnkkbpdlaaGreatDoorNdFun
import Derived.Test.YtfmpecnkkbpdlaaGreatDoorRange
set_option maxRecDepth 100000
set_option maxHeartbeats 1000000
namespace Go.Proofs.YtfmpecnkkbpdlaaGreatDoor
open Go.RowKit
theorem KW (m:Nat)(w:World)(hm:m≤8):Calls Tryz.prog 237 #[.int .u64 1,.int .u64 (m:Int)] w fun e w'=>e= .returned (.tuple #[.int .u64 0,.int .u64 (m:Int)])∧w=w':=by
 have h:m=0∨m=1∨m=2∨m=3∨m=4∨m=5∨m=6∨m=7∨m=8:=by omega
 clear hm
 rcases h with rfl|rfl|rfl|rfl|rfl|rfl|rfl|rfl|rfl
 all_goals(
  go_enter Tryz.func237,Tryz.ntmps237
  go_wp2
  exact bodyPost_ret (v:= .tuple #[.int .u64 0,.int .u64 _]) (by simp[results,Tryz.results237,go_sem];rfl) rfl ⟨rfl,rfl⟩)
theorem mul_any (m:Nat)(w:World)(hm:m≤8):Calls Tryz.prog 231 #[.int .u64 1,.int .u64 (m:Int)] w fun e w'=>e= .returned (.tuple #[.int .u64 0,.int .u64 (m:Int)])∧w=w':=by
 go_enter Tryz.func231,Tryz.ntmps231
 go_wp2_with fail
 refine(KW m _ hm).mono ?_
 rintro e w1 ⟨rfl,rfl⟩
 go_wp2_with fail
 exact bodyPost_ret (v:= .tuple #[.int .u64 0,.int .u64 (m:Int)]) (by simp[results,Tryz.results231,go_sem]) rfl ⟨rfl,rfl⟩
theorem RZ:(Tryz.prog.info? 3).map (fun i=>(i.zero,i.size,i.bytes))=some (some (.int .i64 0),1,8):=by kernel_rfl
theorem KX:(Tryz.prog.info? 3).map (·.size)=some 1:=by kernel_rfl
theorem UI (w:World):(Go.sizeOf 3).run Tryz.prog w= .ok 1 w:=by kernel_rfl
def half (d:Int)(k m:Nat):List Value:=List.replicate k (.int .i64 d)++List.replicate (m - k) (.int .i64 0)
theorem Yb (d:Int){k m:Nat}(h:k≤m):(half d k m).length=m:=by simp[half];omega
theorem KY (d:Int)(m:Nat):half d m m=List.replicate m (.int .i64 d):=by simp[half]
theorem Ux (d:Int){k j m:Nat}(h:k+j≤m):splice (half d k m) k (List.replicate j (.int .i64 d))=half d (k+j) m:=by
 unfold splice half
 rw[List.length_replicate,List.take_left' (by simp),List.drop_append,List.drop_eq_nil_of_le (by simp),List.nil_append,List.drop_replicate,List.length_replicate, ← List.append_assoc,List.replicate_append_replicate]
 congr 2
 omega
theorem KZ {w:World}{g:Nat}{d:Int}{k m:Nat}{t:TypeId}(h:w.heap[g]?=some (.cells (half d k m).toArray t (0,0))){j i:Nat}(hj:j≤k)(u:Value)(hu:(List.replicate j (.int .i64 d))[i]?=some u):w.cell? ((⟨g,0,none⟩:Addr).add i)=some u:=by
 rw[Addr.add_lit,Nat.zero_add,Za h]
 rw[List.getElem?_replicate] at hu
 split at hu
 ·rename_i hi
  injection hu with hu
  subst hu
  simp only[half,List.getElem?_toArray]
  rw[List.getElem?_append_left (by simp;omega),List.getElem?_replicate,if_pos (by omega)]
 ·cases hu
theorem V9 {P:Program}{w:World}{o:Oper}{a:Act}{K:Act→World→Prop}{Q:Exit→Act→World→Prop}(x y:Operand)(dT sT:TypeId)
  (ho:o.op= .call {callee:= .builtin .copy,args:= #[x,y],argTypes:= #[dT,sT]}) (elem:TypeId) (hu:P.underlying dT=some (.slice elem)) (hsz:(P.info? elem).map (·.size)=some 1)
  (g off dLen dCap:Nat) (ad:Addr) (sLen sCap:Nat) (hd:a.eval x= .slice (some ⟨g,off,none⟩) dLen dCap) (hs:a.eval y= .slice (some ad) sLen sCap)
  (cur:List Value) (t:TypeId) (hg:w.heap[g]?=some (.cells cur.toArray t (0,0))) (cs:List Value) (hn:cs.length=Nat.min sLen dLen)
  (hsrc: ∀j v,cs[j]?=some v→w.cell? (ad.add j)=some v) (hfit:off+cs.length≤cur.length) (h1: ∀v∈cs,v.oneCell'=true) (B:Nat) (w0:World) (hb:Below B w0 w) (hBg:B≤g)
  (h: ∀w',w'.heap[g]?=some (.cells (splice cur off cs).toArray t (0,0))→Below B w0 w'→K (a.put o.dst (goInt cs.length)) w'):o.wp P a w K Q:=by
 have hrun:=run_copy_row (P:=P) w dT sT o.type elem g off dLen dCap ad sLen sCap cur.toArray t cs hu hsz hg hn hsrc (by simpa using hfit) h1
 unfold Oper.wp
 simp[execOp,ho,resolve,invoke,builtin,hd,hs,hrun,Result.andThen]
 exact h _ (by simpa [splice] using setRow_heap w g _ _ t _ hg) (below_setRow hb hBg _)
def ZiW (w:World)(g:Nat)(d:Int)(m:Nat)(v8:Value)(wr:World):Prop:= ∃k:Nat,v8= .int .i64 (k:Int)∧k≤m∧(0 < m→0 < k)∧wr.heap[g]?=some (.cells (half d k m).toArray 3 (0,0))∧Below w.heap.size w wr
theorem YA (b o c:Nat)(d:Int)(m:Nat)(w:World)(hm:m≤8)(hb:b < w.heap.size)(hc:w.cell? ⟨b,o,none⟩=some (.int .i64 d)):
  Calls Tryz.prog 212 #[.slice (some ⟨b,o,none⟩) 1 c,.int .i64 (m:Int)] w fun e w'=> ∃g,e= .returned (.slice (some ⟨g,0,none⟩) m m)∧w'.heap[g]?=some (.cells (List.replicate m (.int .i64 d)).toArray 3 (0,0))∧Below w.heap.size w w':=by
 obtain⟨i0,hi0,hz0,hz1,hz2⟩:=info_parts RZ
 have hw1:IntKind.u64.wrap (m:Int)=(m:Int):=by rw[IntKind.wrap_u64];omega
 have hw2:IntKind.i64.wrap (m:Int)=(m:Int):=by rw[IntKind.wrap_i64];omega
 have hneg: ¬(m:Int) < 0:=by omega
 have hbig: ¬(9223372036854775807:Int) < (m:Int):=by omega
 go_enter Tryz.func212,Tryz.ntmps212
 go_wp2_with fail
 refine(mul_any m _ hm).mono ?_
 rintro e w1 ⟨rfl,rfl⟩
 have hmk: ∀W,(Instr.makeSlice 168 (.int .i64 (m:Int)) (.int .i64 (m:Int))).run Tryz.prog W= .ok (.slice (some ⟨W.heap.size,0,none⟩) m m) (W.alloc (.cells (half d 0 m).toArray 3)):=by
  intro W
  have:=run_make (P:=Tryz.prog) W 168 3 i0 _ Tryz.underlying168 hi0 hz0 .i64 .i64 m m (by omega) (Int.le_refl _) (by rw[hz2];omega) (by omega)
  rw[this,hz1,Nat.mul_one,Int.toNat_natCast,show(Value.int IntKind.i64 0).cells= #[.int .i64 0] from rfl]
  congr 3
  apply Array.ext
  ·simp[madeCells,half]
  ·intro i h1 h2
   simp[madeCells,half,Nat.mod_one]
 have hg0:=heap_alloc_new w (.cells (half d 0 m).toArray 3)
 have hb0:Below w.heap.size w (w.alloc (.cells (half d 0 m).toArray 3)):=bA
 obtain⟨q,hq⟩: ∃q,q=min 1 m:=⟨_,rfl⟩
 have H1:Hid ((List.replicate q (Value.int .i64 d)).length=Nat.min 1 m):=Hd (by rw[List.length_replicate];exact hq)
 have H2:Hid (∀j v,(List.replicate q (Value.int .i64 d))[j]?=some v→(w.alloc (.cells (half d 0 m).toArray 3)).cell? ((⟨b,o,none⟩:Addr).add j)=some v):=by
  refine Hd fun j v hv=> ?_
  rw[List.getElem?_replicate] at hv
  split at hv
  ·injection hv with hv
   subst hv
   obtain rfl:j=0:=by omega
   rw[Addr.add_lit,Nat.add_zero]
   exact(hb0.cell (p:=⟨b,o,none⟩) hb).trans hc
  ·cases hv
 have H3:Hid ((List.replicate q (Value.int .i64 d)).length≤(half d 0 m).length):=Hd (by rw[List.length_replicate,Yb d (by omega)];omega)
 have H4:Hid (∀v∈List.replicate q (Value.int .i64 d),v.oneCell'=true):=Hd fun v hv=>by rw[List.eq_of_mem_replicate hv];rfl
 have H5:Hid (splice (half d 0 m) 0 (List.replicate q (.int .i64 d))=half d q m):=Hd (by have:=Ux d (k:=0) (j:=q) (m:=m) (by omega);rw[Nat.zero_add] at this;exact this)
 have H6:Hid ((List.replicate q (Value.int .i64 d)).length=q):=Hd (List.length_replicate ..)
 obtain⟨cs,hcs⟩: ∃cs,cs=List.replicate q (Value.int .i64 d):=⟨_,rfl⟩
 rw[← hcs] at H1 H2 H3 H4 H5 H6
 clear hcs
 obtain⟨cur,hcur⟩: ∃cur,cur=half d 0 m:=⟨_,rfl⟩
 rw[← hcur] at H2 H3 H5 hmk hg0 hb0
 clear hcur hc
 have HG:=Hd hg0
 have HQ:=Hd hq
 clear hg0 hq
 go_wp2_with (with_reducible refine wpList_copy_splice rfl (.tmp 31) (.tmp 32) 168 168 rfl 3 Tryz.underlying168 KX (some ⟨w.heap.size,0,none⟩) (some ⟨b,o,none⟩) m m 1 c rfl rfl w.heap.size 0 cur 3 HG.out cs H1.out (fun _=>⟨rfl,_,rfl,H2.out⟩) (by rw[Nat.zero_add];exact H3.out) H4.out w.heap.size w hb0 lR ?_;intro w2 HG2 hb2)
 have hg2:w2.heap[w.heap.size]?=some (.cells (half d q m).toArray 3 (0,0)):=by rw[← H5.out];exact HG2.out
 rw[H6.out]
 have hqm:q≤m∧(0 < m→0 < q):=by have:=HQ.out;omega
 clear HG HG2 hb0 H1 H2 H3 H4 H5 H6 hmk cs cur HQ
 go_loopw [8] (fun v8 wr=>ZiW w w.heap.size d m v8 wr) (fun v8 _=>m - (intOf v8).toNat)
 case atStart=>exact⟨q,rfl,hqm.1,hqm.2,hg2,hb2⟩
 case round=>
  clear hg2 hb2 hqm
  obtain⟨k,rfl,hk,hk0,hg,hbr⟩:=hrel
  by_cases hlt:k < m
  ·have hkp:=hk0 (by omega)
   obtain⟨j,hj⟩: ∃j,j=min k (m - k):=⟨_,rfl⟩
   have hjm:k+j≤m:=by omega
   have hs1: ∀W,(Instr.slice 168 (.slice (some ⟨w.heap.size,0,none⟩) m m) (some (.int .i64 (k:Int))) none none).run Tryz.prog W= .ok (.slice (some ⟨w.heap.size,k,none⟩) (m - k) (m - k)) W:=by
    intro W
    rw[run_slice_l W 168 _ _ _ (by rw[show Tryz.prog.elem 168=3 by simp[Program.elem,Tryz.underlying168]];exact Tryz.underlying168) .i64 _ (by omega) (by omega),show Tryz.prog.elem 168=3 by simp[Program.elem,Tryz.underlying168],UI]
    have: ¬m=k:=by omega
    simp[Result.andThen,sliced,this,Addr.add_lit]
   have hs2: ∀W,(Instr.slice 168 (.slice (some ⟨w.heap.size,0,none⟩) m m) none (some (.int .i64 (k:Int))) none).run Tryz.prog W= .ok (.slice (some ⟨w.heap.size,0,none⟩) k m) W:=by
    intro W
    rw[run_slice_h W 168 _ _ _ (by rw[show Tryz.prog.elem 168=3 by simp[Program.elem,Tryz.underlying168]];exact Tryz.underlying168) .i64 _ (by omega) (by omega),show Tryz.prog.elem 168=3 by simp[Program.elem,Tryz.underlying168],UI]
    simp[Result.andThen,sliced,Addr.add_lit]
   have G1:Hid ((List.replicate j (Value.int .i64 d)).length=Nat.min k (m - k)):=Hd (by rw[List.length_replicate];exact hj)
   have G2:Hid (∀i v,(List.replicate j (Value.int .i64 d))[i]?=some v→wr.drew.cell? ((⟨w.heap.size,0,none⟩:Addr).add i)=some v):=
    Hd fun i v hv=>KZ (w:=wr.drew) hg (by omega) v hv
   have G3:Hid (k+(List.replicate j (Value.int .i64 d)).length≤(half d k m).length):=Hd (by rw[List.length_replicate,Yb d (by omega)];omega)
   have G4:Hid (∀v∈List.replicate j (Value.int .i64 d),v.oneCell'=true):=Hd fun v hv=>by rw[List.eq_of_mem_replicate hv];rfl
   have G5:Hid (splice (half d k m) k (List.replicate j (.int .i64 d))=half d (k+j) m):=Hd (Ux d hjm)
   have G6:Hid ((List.replicate j (Value.int .i64 d)).length=j):=Hd (List.length_replicate ..)
   have G7:Hid (wr.drew.heap[w.heap.size]?=some (.cells (half d k m).toArray 3 (0,0))):=Hd hg
   have G8:Hid (Below w.heap.size w wr.drew):=Hd ⟨hbr.os,hbr.tape,hbr.output,hbr.size,hbr.block⟩
   obtain⟨cs,hcs⟩: ∃cs,cs=List.replicate j (Value.int .i64 d):=⟨_,rfl⟩
   rw[← hcs] at G1 G2 G3 G4 G5 G6
   clear hcs
   obtain⟨cur,hcur⟩: ∃cur,cur=half d k m:=⟨_,rfl⟩
   rw[← hcur] at G3 G5 G7
   clear hcur hg
   have HJ:=Hd hj
   clear hj
   go_wp2_with fail
   refine wro [0,1,2,3,4,5,6,7,8,9] [7,8,9] 10 (fun _=>True) (by kernel_rfl) (fun _ _ _ _ _ h=>h) trivial ?_
   simp only[steps,sE,sD]
   repeat(first
    |(refine Zf (v:= ?_) rfl rfl ?_ ?_;rotate_left;(focus(rintro w' -;go_simp;try with_reducible rfl));simp only[Act.put,sA,sB,sC]))
   refine Ze rfl rfl (fun K hK=> ?_)
   refine V9 (.tmp 41) (.tmp 44) 168 168 rfl 3 Tryz.underlying168 KX w.heap.size k (m - k) (m - k) ⟨w.heap.size,0,none⟩ k m rfl rfl cur 3 G7.out cs G1.out G2.out G3.out G4.out w.heap.size w G8.out lR ?_
   intro w4 hg4 hb4
   refine hK.out _ _ (fun _=>trivial) ?_
   clear hK K
   rw[G5.out] at hg4
   rw[show goInt cs.length= .int .i64 (j:Int) by rw[G6.out];rfl]
   have hwr:IntKind.i64.wrap ((k:Int)+(j:Int))=(k:Int)+(j:Int):=by rw[IntKind.wrap_i64];omega
   clear G1 G2 G3 G4 G5 G6 G7 G8
   simp only[Act.put,sA,sB,sC]
   refine Ze rfl rfl (fun K hK=> ?_)
   go_simp
   refine hK.out _ _ (fun _=>trivial) ?_
   clear hK K
   try simp only[Act.put,sA,sB,sC]
   refine Ze rfl rfl (fun K hK=> ?_)
   go_simp
   refine hK.out _ _ (fun _=>trivial) ?_
   clear hK K
   try simp only[Act.put,sA,sB,sC]
   refine Zi ?_
   have hj0:0 < j:=by have:=HJ.out;omega
   clear HJ
   go_wp2
   go_roundw
   case rel=>exact⟨k+j,by go_num,hjm,fun _=>by omega,hg4,hb4⟩
   case measure=>simp[intOf];omega
  ·obtain rfl:k=m:=by omega
   go_wp2
   go_ret
   exact⟨w.heap.size,rfl,by rw[hg,KY],hbr⟩
end Go.Proofs.YtfmpecnkkbpdlaaGreatDoor
namespace Go.Proofs.YtfmpecnkkbpdlaaGreatDoor
open Go.RowKit
theorem ZgY:(Tryz.prog.info? 117).map (fun i=>(i.zero,i.size,i.bytes))=some (some (.int .u8 0),1,1):=by kernel_rfl
theorem ZcP:(Tryz.prog.info? 117).map (·.size)=some 1:=by kernel_rfl
theorem Qa (w:World):(Go.sizeOf 117).run Tryz.prog w= .ok 1 w:=by kernel_rfl
def Vu (d:Int)(k m:Nat):List Value:=List.replicate k (.int .u8 d)++List.replicate (m - k) (.int .u8 0)
theorem Zbj (d:Int){k m:Nat}(h:k≤m):(Vu d k m).length=m:=by simp[Vu];omega
theorem ZdQ (d:Int)(m:Nat):Vu d m m=List.replicate m (.int .u8 d):=by simp[Vu]
theorem Rf (d:Int){k j m:Nat}(h:k+j≤m):splice (Vu d k m) k (List.replicate j (.int .u8 d))=Vu d (k+j) m:=by
 unfold splice Vu
 rw[List.length_replicate,List.take_left' (by simp),List.drop_append,List.drop_eq_nil_of_le (by simp),List.nil_append,List.drop_replicate,List.length_replicate, ← List.append_assoc,List.replicate_append_replicate]
 congr 2
 omega
theorem ZdR {w:World}{g:Nat}{d:Int}{k m:Nat}{t:TypeId}(h:w.heap[g]?=some (.cells (Vu d k m).toArray t (0,0))){j i:Nat}(hj:j≤k)(u:Value)(hu:(List.replicate j (.int .u8 d))[i]?=some u):w.cell? ((⟨g,0,none⟩:Addr).add i)=some u:=by
 rw[Addr.add_lit,Nat.zero_add,Za h]
 rw[List.getElem?_replicate] at hu
 split at hu
 ·rename_i hi
  injection hu with hu
  subst hu
  simp only[Vu,List.getElem?_toArray]
  rw[List.getElem?_append_left (by simp;omega),List.getElem?_replicate,if_pos (by omega)]
 ·cases hu
def Zj9 (w:World)(g:Nat)(d:Int)(m:Nat)(v8:Value)(wr:World):Prop:= ∃k:Nat,v8= .int .i64 (k:Int)∧k≤m∧(0 < m→0 < k)∧wr.heap[g]?=some (.cells (Vu d k m).toArray 117 (0,0))∧Below w.heap.size w wr
theorem Zce (b o c:Nat)(d:Int)(m:Nat)(w:World)(hm:m≤8)(hb:b < w.heap.size)(hc:w.cell? ⟨b,o,none⟩=some (.int .u8 d)):
  Calls Tryz.prog 215 #[.slice (some ⟨b,o,none⟩) 1 c,.int .i64 (m:Int)] w fun e w'=> ∃g,e= .returned (.slice (some ⟨g,0,none⟩) m m)∧w'.heap[g]?=some (.cells (List.replicate m (.int .u8 d)).toArray 117 (0,0))∧Below w.heap.size w w':=by
 obtain⟨i0,hi0,hz0,hz1,hz2⟩:=info_parts ZgY
 have hw1:IntKind.u64.wrap (m:Int)=(m:Int):=by rw[IntKind.wrap_u64];omega
 have hw2:IntKind.i64.wrap (m:Int)=(m:Int):=by rw[IntKind.wrap_i64];omega
 have hneg: ¬(m:Int) < 0:=by omega
 have hbig: ¬(9223372036854775807:Int) < (m:Int):=by omega
 go_enter Tryz.func215,Tryz.ntmps215
 go_wp2_with fail
 refine(mul_any m _ hm).mono ?_
 rintro e w1 ⟨rfl,rfl⟩
 have hmk: ∀W,(Instr.makeSlice 268 (.int .i64 (m:Int)) (.int .i64 (m:Int))).run Tryz.prog W= .ok (.slice (some ⟨W.heap.size,0,none⟩) m m) (W.alloc (.cells (Vu d 0 m).toArray 117)):=by
  intro W
  have:=run_make (P:=Tryz.prog) W 268 117 i0 _ Tryz.underlying268 hi0 hz0 .i64 .i64 m m (by omega) (Int.le_refl _) (by rw[hz2];omega) (by omega)
  rw[this,hz1,Nat.mul_one,Int.toNat_natCast,show(Value.int IntKind.u8 0).cells= #[.int .u8 0] from rfl]
  congr 3
  apply Array.ext
  ·simp[madeCells,Vu]
  ·intro i h1 h2
   simp[madeCells,Vu,Nat.mod_one]
 have hg0:=heap_alloc_new w (.cells (Vu d 0 m).toArray 117)
 have hb0:Below w.heap.size w (w.alloc (.cells (Vu d 0 m).toArray 117)):=bA
 obtain⟨q,hq⟩: ∃q,q=min 1 m:=⟨_,rfl⟩
 have H1:Hid ((List.replicate q (Value.int .u8 d)).length=Nat.min 1 m):=Hd (by rw[List.length_replicate];exact hq)
 have H2:Hid (∀j v,(List.replicate q (Value.int .u8 d))[j]?=some v→(w.alloc (.cells (Vu d 0 m).toArray 117)).cell? ((⟨b,o,none⟩:Addr).add j)=some v):=by
  refine Hd fun j v hv=> ?_
  rw[List.getElem?_replicate] at hv
  split at hv
  ·injection hv with hv
   subst hv
   obtain rfl:j=0:=by omega
   rw[Addr.add_lit,Nat.add_zero]
   exact(hb0.cell (p:=⟨b,o,none⟩) hb).trans hc
  ·cases hv
 have H3:Hid ((List.replicate q (Value.int .u8 d)).length≤(Vu d 0 m).length):=Hd (by rw[List.length_replicate,Zbj d (by omega)];omega)
 have H4:Hid (∀v∈List.replicate q (Value.int .u8 d),v.oneCell'=true):=Hd fun v hv=>by rw[List.eq_of_mem_replicate hv];rfl
 have H5:Hid (splice (Vu d 0 m) 0 (List.replicate q (.int .u8 d))=Vu d q m):=Hd (by have:=Rf d (k:=0) (j:=q) (m:=m) (by omega);rw[Nat.zero_add] at this;exact this)
 have H6:Hid ((List.replicate q (Value.int .u8 d)).length=q):=Hd (List.length_replicate ..)
 obtain⟨cs,hcs⟩: ∃cs,cs=List.replicate q (Value.int .u8 d):=⟨_,rfl⟩
 rw[← hcs] at H1 H2 H3 H4 H5 H6
 clear hcs
 obtain⟨cur,hcur⟩: ∃cur,cur=Vu d 0 m:=⟨_,rfl⟩
 rw[← hcur] at H2 H3 H5 hmk hg0 hb0
 clear hcur hc
 have HG:=Hd hg0
 have HQ:=Hd hq
 clear hg0 hq
 go_wp2_with (with_reducible refine wpList_copy_splice rfl (.tmp 31) (.tmp 32) 268 268 rfl 117 Tryz.underlying268 ZcP (some ⟨w.heap.size,0,none⟩) (some ⟨b,o,none⟩) m m 1 c rfl rfl w.heap.size 0 cur 117 HG.out cs H1.out (fun _=>⟨rfl,_,rfl,H2.out⟩) (by rw[Nat.zero_add];exact H3.out) H4.out w.heap.size w hb0 lR ?_;intro w2 HG2 hb2)
 have hg2:w2.heap[w.heap.size]?=some (.cells (Vu d q m).toArray 117 (0,0)):=by rw[← H5.out];exact HG2.out
 rw[H6.out]
 have hqm:q≤m∧(0 < m→0 < q):=by have:=HQ.out;omega
 clear HG HG2 hb0 H1 H2 H3 H4 H5 H6 hmk cs cur HQ
 go_loopw [8] (fun v8 wr=>Zj9 w w.heap.size d m v8 wr) (fun v8 _=>m - (intOf v8).toNat)
 case atStart=>exact⟨q,rfl,hqm.1,hqm.2,hg2,hb2⟩
 case round=>
  clear hg2 hb2 hqm
  obtain⟨k,rfl,hk,hk0,hg,hbr⟩:=hrel
  by_cases hlt:k < m
  ·have hkp:=hk0 (by omega)
   obtain⟨j,hj⟩: ∃j,j=min k (m - k):=⟨_,rfl⟩
   have hjm:k+j≤m:=by omega
   have hs1: ∀W,(Instr.slice 268 (.slice (some ⟨w.heap.size,0,none⟩) m m) (some (.int .i64 (k:Int))) none none).run Tryz.prog W= .ok (.slice (some ⟨w.heap.size,k,none⟩) (m - k) (m - k)) W:=by
    intro W
    rw[run_slice_l W 268 _ _ _ (by rw[show Tryz.prog.elem 268=117 by simp[Program.elem,Tryz.underlying268]];exact Tryz.underlying268) .i64 _ (by omega) (by omega),show Tryz.prog.elem 268=117 by simp[Program.elem,Tryz.underlying268],Qa]
    have: ¬m=k:=by omega
    simp[Result.andThen,sliced,this,Addr.add_lit]
   have hs2: ∀W,(Instr.slice 268 (.slice (some ⟨w.heap.size,0,none⟩) m m) none (some (.int .i64 (k:Int))) none).run Tryz.prog W= .ok (.slice (some ⟨w.heap.size,0,none⟩) k m) W:=by
    intro W
    rw[run_slice_h W 268 _ _ _ (by rw[show Tryz.prog.elem 268=117 by simp[Program.elem,Tryz.underlying268]];exact Tryz.underlying268) .i64 _ (by omega) (by omega),show Tryz.prog.elem 268=117 by simp[Program.elem,Tryz.underlying268],Qa]
    simp[Result.andThen,sliced,Addr.add_lit]
   have G1:Hid ((List.replicate j (Value.int .u8 d)).length=Nat.min k (m - k)):=Hd (by rw[List.length_replicate];exact hj)
   have G2:Hid (∀i v,(List.replicate j (Value.int .u8 d))[i]?=some v→wr.drew.cell? ((⟨w.heap.size,0,none⟩:Addr).add i)=some v):=
    Hd fun i v hv=>ZdR (w:=wr.drew) hg (by omega) v hv
   have G3:Hid (k+(List.replicate j (Value.int .u8 d)).length≤(Vu d k m).length):=Hd (by rw[List.length_replicate,Zbj d (by omega)];omega)
   have G4:Hid (∀v∈List.replicate j (Value.int .u8 d),v.oneCell'=true):=Hd fun v hv=>by rw[List.eq_of_mem_replicate hv];rfl
   have G5:Hid (splice (Vu d k m) k (List.replicate j (.int .u8 d))=Vu d (k+j) m):=Hd (Rf d hjm)
   have G6:Hid ((List.replicate j (Value.int .u8 d)).length=j):=Hd (List.length_replicate ..)
   have G7:Hid (wr.drew.heap[w.heap.size]?=some (.cells (Vu d k m).toArray 117 (0,0))):=Hd hg
   have G8:Hid (Below w.heap.size w wr.drew):=Hd ⟨hbr.os,hbr.tape,hbr.output,hbr.size,hbr.block⟩
   obtain⟨cs,hcs⟩: ∃cs,cs=List.replicate j (Value.int .u8 d):=⟨_,rfl⟩
   rw[← hcs] at G1 G2 G3 G4 G5 G6
   clear hcs
   obtain⟨cur,hcur⟩: ∃cur,cur=Vu d k m:=⟨_,rfl⟩
   rw[← hcur] at G3 G5 G7
   clear hcur hg
   have HJ:=Hd hj
   clear hj
   go_wp2_with fail
   refine wro [0,1,2,3,4,5,6,7,8,9] [7,8,9] 10 (fun _=>True) (by kernel_rfl) (fun _ _ _ _ _ h=>h) trivial ?_
   simp only[steps,sE,sD]
   repeat(first
    |(refine Zf (v:= ?_) rfl rfl ?_ ?_;rotate_left;(focus(rintro w' -;go_simp;try with_reducible rfl));simp only[Act.put,sA,sB,sC]))
   refine Ze rfl rfl (fun K hK=> ?_)
   refine V9 (.tmp 41) (.tmp 44) 268 268 rfl 117 Tryz.underlying268 ZcP w.heap.size k (m - k) (m - k) ⟨w.heap.size,0,none⟩ k m rfl rfl cur 117 G7.out cs G1.out G2.out G3.out G4.out w.heap.size w G8.out lR ?_
   intro w4 hg4 hb4
   refine hK.out _ _ (fun _=>trivial) ?_
   clear hK K
   rw[G5.out] at hg4
   rw[show goInt cs.length= .int .i64 (j:Int) by rw[G6.out];rfl]
   have hwr:IntKind.i64.wrap ((k:Int)+(j:Int))=(k:Int)+(j:Int):=by rw[IntKind.wrap_i64];omega
   clear G1 G2 G3 G4 G5 G6 G7 G8
   simp only[Act.put,sA,sB,sC]
   refine Ze rfl rfl (fun K hK=> ?_)
   go_simp
   refine hK.out _ _ (fun _=>trivial) ?_
   clear hK K
   try simp only[Act.put,sA,sB,sC]
   refine Ze rfl rfl (fun K hK=> ?_)
   go_simp
   refine hK.out _ _ (fun _=>trivial) ?_
   clear hK K
   try simp only[Act.put,sA,sB,sC]
   refine Zi ?_
   have hj0:0 < j:=by have:=HJ.out;omega
   clear HJ
   go_wp2
   go_roundw
   case rel=>exact⟨k+j,by go_num,hjm,fun _=>by omega,hg4,hb4⟩
   case measure=>simp[intOf];omega
  ·obtain rfl:k=m:=by omega
   go_wp2
   go_ret
   exact⟨w.heap.size,rfl,by rw[hg,ZdQ],hbr⟩
end Go.Proofs.YtfmpecnkkbpdlaaGreatDoor
namespace Go.Proofs.YtfmpecnkkbpdlaaGreatDoor
open Go.RowKit
theorem VC (r:Nat)(b:Bool)(w:World)(h:lett r=b):Calls Tryz.prog 238 #[.int .u8 (r:Int)] w fun e w'=>e= .returned (.bool b)∧w=w':=by
 have HB:=Hd h
 clear h
 go_enter Tryz.func238,Tryz.ntmps238
 by_cases h1:97≤r <;> by_cases h2:r≤122 <;> by_cases h3:65≤r <;> by_cases h4:r≤90 <;> first|omega|skip
 all_goals(
  go_wp2
  go_ret
  refine⟨?_,rfl⟩
  rw[← HB.out]
  simp[lett,h1,h2,h3,h4]
  try omega)
theorem Zb7 (s:List UInt8)(w:World)(hs:s.length≤9223372036854775807):Calls Tryz.prog 232 #[.string (str s)] w fun e w'=>e= .returned (.bool (nameB s))∧w=w':=by
 have hsz:=Zdr s
 generalize hn:s.length=n at*
 have HL:=Hd hn
 clear hn
 go_enter Tryz.func232,Tryz.ntmps232
 by_cases h0:n < 1
 ·have HN:Hid (nameB s=false):=by show _=_;simp only[nameB,HL.out,decide_eq_false_iff_not];omega
  have h0':(n:Int) < 1:=by omega
  go_wp2
  go_ret
  exact⟨by rw[HN.out];rfl,rfl⟩
 have h0': ¬(n:Int) < 1:=by omega
 by_cases h32:32 < n
 ·have HN:Hid (nameB s=false):=by show _=_;simp only[nameB,HL.out,decide_eq_false_iff_not];omega
  have h32':(32:Int) < (n:Int):=by omega
  go_wp2
  go_ret
  exact⟨by rw[HN.out];rfl,rfl⟩
 have h32': ¬(32:Int) < (n:Int):=by omega
 have hl0:0 < s.length:=by rw[HL.out];omega
 have hx0: ∀W,(Instr.index 9 (.string (str s)) (.int .i64 0)).run Tryz.prog W= .ok (.int .u8 (s[0].toNat:Int)) W:=Za0 s 0 hl0
 cases hlt:lett s[0].toNat with
 |false=>
  have HN:Hid (nameB s=false):=by
   show _=_
   simp only[nameB,decide_eq_false_iff_not]
   intro h
   have:=h.2.2 0 hl0
   simp[okAt,hlt] at this
  have HT:=Hd hlt
  clear hlt
  generalize s[0].toNat=q at*
  generalize str s=S at*
  go_wp2_with fail
  refine(VC q _ _ HT.out).mono ?_
  rintro e w1 ⟨rfl,rfl⟩
  go_wp2_with fail
  go_ret
  exact⟨by rw[HN.out];rfl,rfl⟩
 |true=>
  have HT:=Hd hlt
  have H0:Hid (∀i (h:i < s.length),i < 1→okAt i s[i].toNat=true):=by
   intro i hi h1
   obtain rfl:i=0:=by omega
   simp[okAt,hlt]
  clear hlt
  generalize s[0].toNat=q at*
  go_wp2_with fail
  refine(VC q _ _ HT.out).mono ?_
  rintro e w1 ⟨rfl,rfl⟩
  go_wp2_with fail
  go_loop [3] (fun i3=> ∃k:Nat,i3= .int .i64 (k:Int)∧1≤k∧k≤n∧ ∀i (h:i < s.length),i < k→okAt i s[i].toNat=true) (fun i3=>n - (intOf i3).toNat)
  case atStart=>exact⟨1,rfl,Nat.le_refl _,by omega,H0.out⟩
  case round=>
   obtain⟨k,rfl,hk1,hk,hok⟩:=hrel
   clear hx0 HT H0
   by_cases hlt:k < n
   ·have hk':k < s.length:=by rw[HL.out];exact hlt
    have hxk:=Za0 s k hk'
    have hlti:(k:Int) < (n:Int):=by omega
    by_cases hy:okAt k s[k].toNat=true
    ·have HS:Hid (∀i (h:i < s.length),i < k+1→okAt i s[i].toNat=true):=by
      intro i hi hj
      rcases Nat.lt_or_ge i k with h|h
      ·exact hok i hi h
      ·obtain rfl:i=k:=by omega
       exact hy
     clear hok
     generalize s[k].toNat=r at*
     unfold okAt at hy
     generalize hb1:lett r=b1 at*
     have HB:=Hd hb1
     clear hb1
     go_wp2_with fail
     refine(VC r _ _ HB.out).mono ?_
     rintro e w1 ⟨rfl,rfl⟩
     cases b1 with
     |true=>
      go_wp2_with fail
      go_round
      case rel=>exact⟨k+1,by go_num,by omega,by omega,HS.out⟩
      case measure=>simp[intOf];omega
     |false=>
      have hd:(48≤r∧r≤57)∨r=95:=by
       simp[digi] at hy
       omega
      go_wp2_with fail
      all_goals(
       first
        |(exfalso;omega)
        |(go_round
          case rel=>exact⟨k+1,by go_num,by omega,by omega,HS.out⟩
          case measure=>simp[intOf];omega)
        |(exfalso;simp at*;omega))
    ·have HN:Hid (nameB s=false):=by
      show _=_
      simp only[nameB,decide_eq_false_iff_not]
      exact fun h=>hy (h.2.2 k hk')
     clear hok
     rw[Bool.not_eq_true] at hy
     generalize s[k].toNat=r at*
     unfold okAt at hy
     generalize hb1:lett r=b1 at*
     have HB:=Hd hb1
     clear hb1
     go_wp2_with fail
     refine(VC r _ _ HB.out).mono ?_
     rintro e w1 ⟨rfl,rfl⟩
     cases b1 with
     |true=>simp at hy
     |false=>
      have hd:(r < 48∨57 < r)∧r≠95:=by
       simp[digi] at hy
       omega
      go_wp2_with fail
      all_goals(
       first
        |(exfalso;omega)
        |(go_ret;exact⟨by rw[HN.out];rfl,rfl⟩)
        |(exfalso;simp at*;omega))
   ·have hlti: ¬(k:Int) < (n:Int):=by omega
    have HN:Hid (nameB s=true):=by
     show _=_
     have hl:=HL.out
     simp only[nameB,decide_eq_true_eq]
     exact⟨by omega,by omega,fun i h=>hok i h (by omega)⟩
    clear hok
    go_wp2
    go_ret
    exact⟨by rw[HN.out];rfl,rfl⟩
end Go.Proofs.YtfmpecnkkbpdlaaGreatDoor
