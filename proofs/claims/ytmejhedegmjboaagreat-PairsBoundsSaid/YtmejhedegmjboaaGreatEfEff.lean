import Derived.Test.YtmejhedegmjboaaGreatProg
import Derived.Laws.BitsAllLaws
import Derived.Laws.ShiftsVar
import Derived.Laws.ShiftsVarLaws
import Derived.WalkKit
import Derived.OwnWalk
import Derived.Outline
import Derived.Deep.QuietTactic
import Derived.BigQuiet
import Derived.Test.YtmejhedegmjboaaGreatRange
set_option maxRecDepth 100000
set_option maxHeartbeats 400000
namespace Go.Proofs.YtmejhedegmjboaaGreat.Ef
def Sub (a b:Nat):Prop:= ∀i,a.testBit i=true→b.testBit i=true
def subB (a b:Nat):Bool:=(a|||b==b)
theorem Zy (a b:Nat):subB a b=true↔Sub a b:=by
 rw[subB,beq_iff_eq]
 constructor
 ·intro h i hi
  rw[← h,Nat.testBit_or,hi]
  rfl
 ·(
 intro h
 apply Nat.eq_of_testBit_eq
 intro i
 rw[Nat.testBit_or]
 cases hi:a.testBit i with
 |true=>rw[h i hi];rfl
 |false=>rfl)
theorem ZjS (a b:Nat):(a &&& b==a)=true↔Sub a b:=by
 rw[beq_iff_eq]
 constructor
 ·intro h i hi
  have:(a &&& b).testBit i=true:=by rw[h];exact hi
  rw[Nat.testBit_and,hi] at this
  simpa using this
 ·(
 intro h
 apply Nat.eq_of_testBit_eq
 intro i
 rw[Nat.testBit_and]
 cases hi:a.testBit i with
 |true=>rw[h i hi];rfl
 |false=>rfl)
theorem KG {x y:Bool}(h:x=true↔y=true):x=y:=by
 cases x <;> cases y <;> simp_all
theorem ZjT (a b:Nat):(a &&& b==a)=subB a b:=KG ((ZjS a b).trans (Zy a b).symm)
theorem Ze8 {t:Nat}(ht:t < 18446744073709551616)(i:Nat):(18446744073709551615 - t).testBit i=(decide (i < 64) && !t.testBit i):=by
 have:=Nat.testBit_two_pow_sub_succ (n:=64) (x:=t) ht i
 have e:2 ^ 64 - (t+1)=18446744073709551615 - t:=by omega
 rw[e] at this
 exact this
theorem ZjU {a t:Nat}(ha:a < 18446744073709551616)(ht:t < 18446744073709551616):(a &&& (18446744073709551615 - t)==0)=subB a t:=by
 apply KG
 rw[Zy,beq_iff_eq]
 constructor
 ·(
 intro h i hi
 have hlt:i < 64:=by(
 rcases Nat.lt_or_ge i 64 with h'|h'
 ·exact h'
 ·rw[Nat.testBit_lt_two_pow (Nat.lt_of_lt_of_le (show a < 2 ^ 64 from ha) (Nat.pow_le_pow_right (by decide) h'))] at hi
  cases hi)
 have h0:(a &&& (18446744073709551615 - t)).testBit i=false:=by rw[h];simp
 rw[Nat.testBit_and,hi,Ze8 ht] at h0
 cases ht':t.testBit i with
 |true=>rfl
 |false=>(
 rw[ht'] at h0
 simp at h0
 omega))
 ·(
 intro h
 apply Nat.eq_of_testBit_eq
 intro i
 rw[Nat.testBit_and,Ze8 ht,Nat.zero_testBit]
 cases hi:a.testBit i with
 |true=>rw[h i hi];simp
 |false=>rfl)
def topN (n:Nat):Nat:=2 ^ n - 1
theorem ZcQ (n i:Nat):(topN n).testBit i=decide (i < n):=by
 rw[topN,Nat.testBit_two_pow_sub_one]
theorem Qd {n:Nat}(h:n≤64):topN n < 18446744073709551616:=by
 have h1:2 ^ n≤2 ^ 64:=Nat.pow_le_pow_right (by decide) h
 have h2:0 < 2 ^ n:=Nat.pow_pos (by decide)
 have e:(2:Nat) ^ 64=18446744073709551616:=by decide
 rw[topN]
 omega
theorem Ze9 (n:Nat):topN n|||2 ^ n=topN (n+1):=by
 apply Nat.eq_of_testBit_eq
 intro i
 rw[Nat.testBit_or,ZcQ,ZcQ,Nat.testBit_two_pow]
 by_cases h:n=i
 ·subst h
  simp
 ·have e1:decide (n=i)=false:=by simpa using h
  have e2:decide (i < n+1)=decide (i < n):=decide_eq_decide.2 (by omega)
  rw[e1,e2,Bool.or_false]
theorem sub_self (a:Nat):subB a a=true:=(Zy a a).2 fun _ h=>h
theorem sub_zero (a:Nat):subB 0 a=true:=(Zy 0 a).2 fun i h=>by simp at h
theorem Zfa {a b t:Nat}(h:subB a t=true)(k:subB b t=true):subB (a|||b) t=true:=(Zy _ _).2 fun i hi=>by
 rw[Nat.testBit_or] at hi
 rcases Bool.or_eq_true_iff.1 hi with hi|hi
 ·exact(Zy _ _).1 h i hi
 ·exact(Zy _ _).1 k i hi
theorem ZbS {a b t:Nat}(h:subB a t=true):subB (a &&& b) t=true:=(Zy _ _).2 fun i hi=>by
 rw[Nat.testBit_and] at hi
 exact(Zy _ _).1 h i (by revert hi;cases a.testBit i <;> simp)
theorem ZdP (a b c:Nat):(subB a c && subB b c)=subB (a|||b) c:=by
 apply KG
 rw[Bool.and_eq_true,Zy,Zy,Zy]
 constructor
 ·(
 intro⟨h,k⟩ i hi
 rw[Nat.testBit_or] at hi
 rcases Bool.or_eq_true_iff.1 hi with hi|hi
 ·exact h i hi
 ·exact k i hi)
 ·intro h
  exact⟨fun i hi=>h i (by rw[Nat.testBit_or,hi];rfl),fun i hi=>h i (by rw[Nat.testBit_or,hi,Bool.or_true])⟩
theorem ZdQ (a b c:Nat):(subB c a && subB c b)=subB c (a &&& b):=by
 apply KG
 rw[Bool.and_eq_true,Zy,Zy,Zy]
 constructor
 ·intro⟨h,k⟩ i hi
  rw[Nat.testBit_and,h i hi,k i hi]
  rfl
 ·(
 intro h
 refine⟨fun i hi=> ?_,fun i hi=> ?_⟩
 ·have:=h i hi
  rw[Nat.testBit_and] at this
  exact(Bool.and_eq_true_iff.1 this).1
 ·have:=h i hi
  rw[Nat.testBit_and] at this
  exact(Bool.and_eq_true_iff.1 this).2)
theorem Zlw {a b:Nat}(ha:a < 18446744073709551616):a &&& b < 18446744073709551616:=Nat.lt_of_le_of_lt Nat.and_le_left ha
end Go.Proofs.YtmejhedegmjboaaGreat.Ef
namespace Go.Proofs.YtmejhedegmjboaaGreat.Ef
open Go.RowKit
def nm (x:Nat):Value:= .int .u64 (x:Int)
def Fit (l:List Nat):Prop:= ∀x∈l,x < 18446744073709551616
theorem Fit.get {l:List Nat}(h:Fit l)(i:Nat)(hi:i < l.length):l[i] < 18446744073709551616:=h _ (List.getElem_mem hi)
theorem Below.next {w w1 w2:World}{o:Obj}(h:Below w.heap.size w w1)(k:Below (w1.alloc o).heap.size (w1.alloc o) w2):Below w.heap.size w w2:=(h.alloc h.size _).trans (k.mono (by have:=h.size;simp;omega))
structure Za7 (w:World)(g:Nat)(m:Bool)(t:Nat):Prop where
 blk:w.heap[g]?=some (.cells #[.bool m,.int .u64 (t:Int)] 132 (0,0))
 fit:t < 18446744073709551616
section
variable {w w':World} {g t:Nat} {m:Bool} (h:Za7 w g m t)
include h
theorem Za7.lt:g < w.heap.size:=(Array.getElem?_eq_some_iff.1 h.blk).1
theorem Za7.keep (hb:Below w.heap.size w w'):Za7 w' g m t:=⟨(hb.block g h.lt).trans h.blk,h.fit⟩
theorem Za7.made:w.cell? ⟨g,0,none⟩=some (.bool m):=by
 rw[Zb h.blk]
 rfl
theorem Za7.all:w.cell? ⟨g,1,none⟩=some (.int .u64 (t:Int)):=by
 rw[Zb h.blk]
 rfl
end
def EffP (w:World)(a:Option Addr)(m:Bool)(t:Nat):Prop:=(a=none∧m=false∧t=0)∨ ∃g,a=some ⟨g,0,none⟩∧Za7 w g m t
theorem EffP.keep {w w':World}{a:Option Addr}{m:Bool}{t:Nat}(h:EffP w a m t)(hb:Below w.heap.size w w'):EffP w' a m t:=by
 rcases h with h|⟨g,e,h⟩
 ·exact .inl h
 ·exact .inr ⟨g,e,h.keep hb⟩
def ZmL (l:List Nat)(t:Nat)(w:World)(v18:Value)(wr:World):Prop:= ∃k:Nat,v18= .int .i64 (k:Int)∧k≤l.length∧(∀j,(h:j < l.length)→j < k→subB l[j] t=true)∧wr=w
theorem ZjV {l:List Nat}{t:Nat}(h: ∀j,(h:j < l.length)→subB l[j] t=true):l.all (fun x=>subB x t)=true:=by
 rw[List.all_eq_true]
 intro x hx
 obtain⟨j,hj,rfl⟩:=List.getElem_of_mem hx
 exact h j hj
theorem Zlx {l:List Nat}{t k:Nat}(hk:k < l.length)(h:subB l[k] t=false):l.all (fun x=>subB x t)=false:=by
 rw[List.all_eq_false]
 exact⟨_,List.getElem_mem hk,by rw[h];decide⟩
theorem Rk (a:Option Addr)(m:Bool)(t:Nat)(A:Option Addr)(n c B:Nat)(l:List Nat)(w:World)(he:EffP w a m t)(h:Rd nm w B A n c l)(hf:Fit l):
  Calls Tryz.prog 207 #[.pointer a,.slice A n c] w fun e w'=>e= .returned (.bool (m && l.all (fun x=>subB x t)))∧w=w':=by
 rcases he with⟨rfl,rfl,rfl⟩|⟨g,rfl,he⟩
 ·(
 clear h
 go_enter Tryz.func207,Tryz.ntmps207
 go_wp2
 go_ret
 exact⟨rfl,rfl⟩)
 ·(
 have hm:=he.made
 have hall:=he.all
 have ht:=he.fit
 have HL:=Hd h.len
 have hcap:=h.cap
 have htop:=h.top
 unfold maxLen at htop
 clear he
 cases m with
 |false=>(
 clear h
 go_enter Tryz.func207,Tryz.ntmps207
 go_wp2
 go_ret
 exact⟨rfl,rfl⟩)
 |true=>(
 go_enter Tryz.func207,Tryz.ntmps207
 go_wp2
 go_loopw [18] (fun v18 wr=>ZmL l t w v18 wr) (fun v18 _=>n - (intOf v18).toNat)
 case atStart=>exact⟨0,rfl,by omega,fun j _ h=>absurd h (by omega),rfl⟩
 case round=>(
 obtain⟨k,rfl,hk,hkn,rfl⟩:=hrel
 have HK:=Hd hkn
 clear hkn
 by_cases hlt:k < n
 ·(
 obtain⟨b,o,rfl,_,hc⟩:=h.spot (by omega)
 have hk':k < l.length:=by rw[HL.out];exact hlt
 have hcell:wr.cell? ⟨b,o+k,none⟩=some (.int .u64 (l[k]:Int)):=hc k hk'
 have hx:=hf.get k hk'
 have han:=u64_andNot_nat l[k] t hx ht
 have hns:=ZjU hx ht
 have hbad:=Zlx (t:=t) hk'
 have hnext:subB l[k] t=true→ ∀j,(h:j < l.length)→j < k+1→subB l[j] t=true:=by(
 intro hs j hj hjk
 rcases Nat.lt_or_ge j k with h1|h1
 ·exact HK.out j hj h1
 ·obtain rfl:j=k:=by omega
  exact hs)
 generalize l[k] &&& (18446744073709551615 - t)=q at*
 generalize subB l[k] t=s at*
 generalize l[k]=x at*
 have HB:=Hd hbad
 have HN:=Hd hnext
 clear hc hbad hnext
 cases s with
 |true=>(
 obtain rfl:q=0:=by simpa using hns
 clear hns
 go_wp2
 go_roundw
 case rel=>exact⟨k+1,by go_num,by omega,HN.out rfl,rfl⟩
 case measure=>simp[intOf];omega)
 |false=>(
 have hne:((q:Int) !=0)=true:=by
  have: ¬q=0:=by simpa using hns
  simpa using this
 have HB2:=Hd (HB.out rfl)
 clear hns HB
 go_wp2
 go_ret
 exact⟨by rw[HB2.out];rfl,rfl⟩))
 ·obtain rfl:k=n:=by have:=HL.out;omega
  go_wp2
  go_ret
  exact⟨by rw[ZjV fun j hj=>HK.out j hj (by rw[← HL.out];exact hj)];rfl,rfl⟩)))
theorem ZjW (w:World)(a b:Nat):Rd nm (w.alloc (.cells #[.int .u64 (a:Int),.int .u64 (b:Int)] 60)) (w.alloc (.cells #[.int .u64 (a:Int),.int .u64 (b:Int)] 60)).heap.size (some ⟨w.heap.size,0,none⟩) 2 2 [a,b]:=Rd.new w _ 60 2 [a,b] rfl rfl (by decide)
theorem ZjX (w:World)(a:Nat):Rd nm (w.alloc (.cells #[.int .u64 (a:Int)] 60)) (w.alloc (.cells #[.int .u64 (a:Int)] 60)).heap.size (some ⟨w.heap.size,0,none⟩) 1 1 [a]:=Rd.new w _ 60 1 [a] rfl rfl (by decide)
theorem ZjY {a:Nat}(ha:a < 18446744073709551616):Fit [a]:=by
 intro x hx
 rw[List.mem_singleton.1 hx]
 exact ha
theorem ZjZ {a b:Nat}(ha:a < 18446744073709551616)(hb:b < 18446744073709551616):Fit [a,b]:=by
 intro x hx
 rcases List.mem_cons.1 hx with rfl|hx
 ·exact ha
 ·rw[List.mem_singleton.1 hx]
  exact hb
def hasE (m:Bool)(t a:Nat):Bool:=m && subB a t
def Kw (m:Bool)(t a b:Nat):Bool:=m && (subB a t && subB b t)
def Qe (m:Bool)(t a b:Nat):Bool:=Kw m t a b && subB a b
def Zfb (m:Bool)(t a b:Nat):Nat:=if Kw m t a b then a|||b else 0
def Zfc (m:Bool)(t a b:Nat):Nat:=if Kw m t a b then a &&& b else 0
theorem both_any (x y:Nat)(hx:x < 18446744073709551616)(hy:y < 18446744073709551616)(W:World):Calls Tryz.prog 208 #[.int .u64 (x:Int),.int .u64 (y:Int)] W fun e w'=>e= .returned (.int .u64 ((x &&& y:Nat):Int))∧W=w':=by
 have h:=u64_and_nat x y hx hy
 go_enter Tryz.func208,Tryz.ntmps208
 go_wp2
 go_ret
 exact⟨rfl,rfl⟩
theorem ZdR (x y:Nat)(hx:x < 18446744073709551616)(hy:y < 18446744073709551616)(W:World):Calls Tryz.prog 210 #[.int .u64 (x:Int),.int .u64 (y:Int)] W fun e w'=>e= .returned (.int .u64 ((x|||y:Nat):Int))∧W=w':=by
 have h:=u64_or_nat x y hx hy
 go_enter Tryz.func210,Tryz.ntmps210
 go_wp2
 go_ret
 exact⟨rfl,rfl⟩
section
variable (a:Option Addr) (m:Bool) (t:Nat) (w:World) (he:EffP w a m t)
include he
theorem one_any (x:Nat)(hx:x < 18446744073709551616):
  Calls Tryz.prog 207 #[.pointer a,.slice (some ⟨w.heap.size,0,none⟩) 1 1] (w.alloc (.cells #[.int .u64 (x:Int)] 60)) fun e w'=>e= .returned (.bool (hasE m t x))∧w.alloc (.cells #[.int .u64 (x:Int)] 60)=w':=by
 have:=Rk a m t _ 1 1 _ [x] _ (he.keep (bA)) (ZjX w x) (ZjY hx)
 simpa [hasE] using this
theorem two_any (k:Nat)(hk:w.heap.size=k)(x y:Nat)(hx:x < 18446744073709551616)(hy:y < 18446744073709551616):
  Calls Tryz.prog 207 #[.pointer a,.slice (some ⟨k,0,none⟩) 2 2] (w.alloc (.cells #[.int .u64 (x:Int),.int .u64 (y:Int)] 60)) fun e w'=>e= .returned (.bool (Kw m t x y))∧Below w.heap.size w w':=by
 subst hk
 refine(Rk a m t _ 2 2 _ [x,y] _ (he.keep (bA)) (ZjW w x y) (ZjZ hx hy)).mono ?_
 rintro e w' ⟨rfl,rfl⟩
 exact⟨by simp[Kw],bA⟩
theorem VP (x:Nat)(hx:x < 18446744073709551616):Calls Tryz.prog 203 #[.pointer a,.int .u64 (x:Int)] w fun e w'=>e= .returned (.bool (hasE m t x))∧Below w.heap.size w w':=by
 have hc:=one_any a m t w he x hx
 generalize hasE m t x=r at*
 clear he
 go_enter Tryz.func203,Tryz.ntmps203
 go_wp2_with fail
 refine hc.mono ?_
 rintro e w' ⟨rfl,rfl⟩
 go_wp2_with fail
 go_ret
 exact⟨rfl,bA⟩
theorem VW (x y:Nat)(hx:x < 18446744073709551616)(hy:y < 18446744073709551616):Calls Tryz.prog 201 #[.pointer a,.int .u64 (x:Int),.int .u64 (y:Int)] w fun e w'=>e= .returned (.bool (Qe m t x y))∧Below w.heap.size w w':=by
 have hc:=two_any a m t w he _ rfl x y hx hy
 have hb:=both_any x y hx hy
 have hs:=ZjT x y
 have hlt:=Zlw (b:=y) hx
 rw[Qe]
 generalize Kw m t x y=r at*
 generalize x &&& y=q at*
 clear he
 cases r with
 |false=>(
 go_enter Tryz.func201,Tryz.ntmps201
 go_wp2_with fail
 refine hc.mono ?_
 rintro e w' ⟨rfl,hw⟩
 go_wp2_with fail
 go_ret
 exact⟨rfl,hw⟩)
 |true=>(
 have hq:((q:Int)==(x:Int))=subB x y:=by(
 rw[← hs]
 by_cases h:q=x
 ·subst h
  simp
 ·have: ¬(q:Int)=(x:Int):=by omega
  rw[beq_eq_false_iff_ne.2 h,beq_eq_false_iff_ne.2 this])
 generalize subB x y=s at*
 clear hs
 go_enter Tryz.func201,Tryz.ntmps201
 go_wp2_with fail
 refine hc.mono ?_
 rintro e w1 ⟨rfl,hw⟩
 go_wp2_with fail
 refine(hb _).mono ?_
 rintro e w' ⟨rfl,rfl⟩
 go_wp2_with fail
 go_ret
 exact⟨rfl,hw⟩)
theorem Zfd (x y:Nat)(hx:x < 18446744073709551616)(hy:y < 18446744073709551616):Calls Tryz.prog 209 #[.pointer a,.agg #[.func (.func 210) #[] #[]],.int .u64 (x:Int),.int .u64 (y:Int)] w fun e w'=>e= .returned (.int .u64 (Zfb m t x y:Int))∧Below w.heap.size w w':=by
 have hal:=(Below.refl w.heap.size w).alloc lR (.cells #[.func (.func 210) #[] #[]] 268)
 have hc:=two_any a m t _ (he.keep hal) (w.heap.size+1) (by simp) x y hx hy
 have hb:=ZdR x y hx hy
 rw[Zfb]
 generalize Kw m t x y=r at*
 generalize x|||y=q at*
 clear he
 cases r with
 |false=>(
 go_enter Tryz.func209,Tryz.ntmps209
 go_wp2_with fail
 refine hc.mono ?_
 rintro e w1 ⟨rfl,hw⟩
 have hw2:=Below.next (Below.refl _ w) hw
 clear hw hal hc
 go_wp2_with fail
 go_ret
 exact⟨rfl,hw2⟩)
 |true=>(
 go_enter Tryz.func209,Tryz.ntmps209
 go_wp2_with fail
 refine hc.mono ?_
 rintro e w1 ⟨rfl,hw⟩
 have hcell:w1.cell? ⟨w.heap.size,0,none⟩=some (.func (.func 210) #[] #[]):=by
  rw[hw.cell (p:=⟨w.heap.size,0,none⟩) (by simp),Zb (heap_alloc_new _ _)]
  rfl
 have hw2:=Below.next (Below.refl _ w) hw
 clear hw hal hc
 go_wp2_with fail
 refine(hb _).mono ?_
 rintro e w' ⟨rfl,rfl⟩
 go_wp2_with fail
 go_ret
 exact⟨rfl,hw2⟩)
theorem Zfe (x y:Nat)(hx:x < 18446744073709551616)(hy:y < 18446744073709551616):Calls Tryz.prog 209 #[.pointer a,.agg #[.func (.func 208) #[] #[]],.int .u64 (x:Int),.int .u64 (y:Int)] w fun e w'=>e= .returned (.int .u64 (Zfc m t x y:Int))∧Below w.heap.size w w':=by
 have hal:=(Below.refl w.heap.size w).alloc lR (.cells #[.func (.func 208) #[] #[]] 268)
 have hc:=two_any a m t _ (he.keep hal) (w.heap.size+1) (by simp) x y hx hy
 have hb:=both_any x y hx hy
 rw[Zfc]
 generalize Kw m t x y=r at*
 generalize x &&& y=q at*
 clear he
 cases r with
 |false=>(
 go_enter Tryz.func209,Tryz.ntmps209
 go_wp2_with fail
 refine hc.mono ?_
 rintro e w1 ⟨rfl,hw⟩
 have hw2:=Below.next (Below.refl _ w) hw
 clear hw hal hc
 go_wp2_with fail
 go_ret
 exact⟨rfl,hw2⟩)
 |true=>(
 go_enter Tryz.func209,Tryz.ntmps209
 go_wp2_with fail
 refine hc.mono ?_
 rintro e w1 ⟨rfl,hw⟩
 have hcell:w1.cell? ⟨w.heap.size,0,none⟩=some (.func (.func 208) #[] #[]):=by
  rw[hw.cell (p:=⟨w.heap.size,0,none⟩) (by simp),Zb (heap_alloc_new _ _)]
  rfl
 have hw2:=Below.next (Below.refl _ w) hw
 clear hw hal hc
 go_wp2_with fail
 refine(hb _).mono ?_
 rintro e w' ⟨rfl,rfl⟩
 go_wp2_with fail
 go_ret
 exact⟨rfl,hw2⟩)
theorem Zho (x y:Nat)(hx:x < 18446744073709551616)(hy:y < 18446744073709551616):Calls Tryz.prog 204 #[.pointer a,.int .u64 (x:Int),.int .u64 (y:Int)] w fun e w'=>e= .returned (.int .u64 (Zfb m t x y:Int))∧Below w.heap.size w w':=by
 have hm:=Zfd a m t w he x y hx hy
 clear he
 go_enter Tryz.func204,Tryz.ntmps204
 go_wp2_with fail
 refine hm.mono ?_
 rintro e w' ⟨rfl,hb⟩
 go_wp2_with fail
 go_ret
 exact⟨rfl,hb⟩
theorem Zhp (x y:Nat)(hx:x < 18446744073709551616)(hy:y < 18446744073709551616):Calls Tryz.prog 205 #[.pointer a,.int .u64 (x:Int),.int .u64 (y:Int)] w fun e w'=>e= .returned (.int .u64 (Zfc m t x y:Int))∧Below w.heap.size w w':=by
 have hm:=Zfe a m t w he x y hx hy
 clear he
 go_enter Tryz.func205,Tryz.ntmps205
 go_wp2_with fail
 refine hm.mono ?_
 rintro e w' ⟨rfl,hb⟩
 go_wp2_with fail
 go_ret
 exact⟨rfl,hb⟩
omit he in
theorem ZdS:Calls Tryz.prog 202 #[.pointer a] w fun e w'=>e= .returned (.int .u64 0)∧w=w':=by
 go_enter Tryz.func202,Tryz.ntmps202
 go_wp2
 go_ret
 exact⟨rfl,rfl⟩
theorem Zj0:Calls Tryz.prog 206 #[.pointer a] w fun e w'=>e= .returned (.int .u64 (t:Int))∧w=w':=by
 rcases he with⟨rfl,rfl,rfl⟩|⟨g,rfl,he⟩
 ·go_enter Tryz.func206,Tryz.ntmps206
  go_wp2
  go_ret
  exact⟨rfl,rfl⟩
 ·(
 have hall:=he.all
 have ht:=he.fit
 clear he
 go_enter Tryz.func206,Tryz.ntmps206
 go_wp2
 go_ret
 exact⟨rfl,rfl⟩)
end
theorem Zff (n:Int)(hn: ¬(0≤n∧n≤64))(w:World):Calls Tryz.prog 27 #[.int .i64 n] w fun e w'=>e= .returned (.tuple #[.pointer none,.int .i64 1])∧w=w':=by
 by_cases h0:n < 0
 ·go_enter Tryz.func27,Tryz.ntmps27
  go_wp2_with fail
  exact bodyPost_ret (v:= .tuple #[.pointer none,.int .i64 1]) (by simp[results,Tryz.results27,go_sem]) rfl ⟨rfl,rfl⟩
 ·(
 have h64:64 < n:=by omega
 clear hn
 go_enter Tryz.func27,Tryz.ntmps27
 go_wp2_with fail
 exact bodyPost_ret (v:= .tuple #[.pointer none,.int .i64 1]) (by simp[results,Tryz.results27,go_sem]) rfl ⟨rfl,rfl⟩)
theorem Zhq {n:Nat}(h:n≤64):IntKind.u64.wrap (IntKind.u64.wrap (2 ^ n) - 1)=(topN n:Int):=by
 have e: ∀z:Int,IntKind.u64.wrap z=z%18446744073709551616:=fun z=>rfl
 have h2:0 < 2 ^ n:=Nat.pow_pos (by decide)
 have e2:(2:Int) ^ n=((2 ^ n:Nat):Int):=by rw[Int.natCast_pow];rfl
 have h3:=Qd h
 rw[e,e,Int.emod_sub_emod,e2]
 unfold topN at*
 generalize 2 ^ n=p at*
 omega
theorem ZbT (n:Nat)(hn:n≤64)(w:World):Calls Tryz.prog 27 #[.int .i64 (n:Int)] w fun e w'=> ∃g,e= .returned (.tuple #[.pointer (some ⟨g,0,none⟩),.int .i64 0])∧Za7 w' g true (topN n)∧Below w.heap.size w w':=by
 have ht:=Zhq hn
 have hlt:=Qd hn
 generalize topN n=t at*
 go_enter Tryz.func27,Tryz.ntmps27
 go_wp2_with fail
 exact bodyPost_ret (v:= .tuple #[.pointer (some ⟨w.heap.size,0,none⟩),.int .i64 0]) (by simp[results,Tryz.results27,go_sem]) rfl ⟨_,rfl,⟨heap_alloc_new _ _,hlt⟩,bA⟩
end Go.Proofs.YtmejhedegmjboaaGreat.Ef
