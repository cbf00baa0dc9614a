/- EfEffMath; EfEff: merged. -/
import Derived.Test.YtmejhedegmjboaaGreatProg
import Derived.Laws.BitsAllLaws
import Derived.Laws.ShiftsVar
import Derived.Laws.ShiftsVarLaws
import Derived.WalkKit
import Derived.OwnWalk
import Derived.Outline
import Derived.Deep.QuietTactic
import Derived.BigQuiet
import Derived.Test.YtmejhedegmjboaaGreatRs
namespace Go.Proofs.YtmejhedegmjboaaGreat.Ef
def Sub (a b:Nat):Prop:= ∀i,a.testBit i=true→b.testBit i=true
def subB (a b:Nat):Bool:=(a|||b==b)
theorem subB_iff (a b:Nat):subB a b=true↔Sub a b:=by
 rw[subB,beq_iff_eq]
 constructor
 ·intro h i hi
  rw[← h,Nat.testBit_or,hi]
  rfl
 ·intro h
  apply Nat.eq_of_testBit_eq
  intro i
  rw[Nat.testBit_or]
  cases hi:a.testBit i with
  |true=>rw[h i hi];rfl
  |false=>rfl
theorem and_iff (a b:Nat):(a &&& b==a)=true↔Sub a b:=by
 rw[beq_iff_eq]
 constructor
 ·intro h i hi
  have:(a &&& b).testBit i=true:=by rw[h];exact hi
  rw[Nat.testBit_and,hi] at this
  simpa using this
 ·intro h
  apply Nat.eq_of_testBit_eq
  intro i
  rw[Nat.testBit_and]
  cases hi:a.testBit i with
  |true=>rw[h i hi];rfl
  |false=>rfl
theorem bool_iff {x y:Bool}(h:x=true↔y=true):x=y:=by
 cases x <;> cases y <;> simp_all
theorem and_sub (a b:Nat):(a &&& b==a)=subB a b:=bool_iff ((and_iff a b).trans (subB_iff a b).symm)
theorem not_bit {t:Nat}(ht:t < 18446744073709551616)(i:Nat):(18446744073709551615 - t).testBit i=(decide (i < 64) && !t.testBit i):=by
 have:=Nat.testBit_two_pow_sub_succ (n:=64) (x:=t) ht i
 have e:2 ^ 64 - (t+1)=18446744073709551615 - t:=by omega
 rw[e] at this
 exact this
theorem not_sub {a t:Nat}(ha:a < 18446744073709551616)(ht:t < 18446744073709551616):(a &&& (18446744073709551615 - t)==0)=subB a t:=by
 apply bool_iff
 rw[subB_iff,beq_iff_eq]
 constructor
 ·intro h i hi
  have hlt:i < 64:=by
   rcases Nat.lt_or_ge i 64 with h'|h'
   ·exact h'
   ·rw[Nat.testBit_lt_two_pow (Nat.lt_of_lt_of_le (show a < 2 ^ 64 from ha) (Nat.pow_le_pow_right (by decide) h'))] at hi
    cases hi
  have h0:(a &&& (18446744073709551615 - t)).testBit i=false:=by rw[h];simp
  rw[Nat.testBit_and,hi,not_bit ht] at h0
  cases ht':t.testBit i with
  |true=>rfl
  |false=>
   rw[ht'] at h0
   simp at h0
   omega
 ·intro h
  apply Nat.eq_of_testBit_eq
  intro i
  rw[Nat.testBit_and,not_bit ht,Nat.zero_testBit]
  cases hi:a.testBit i with
  |true=>rw[h i hi];simp
  |false=>rfl
def topN (n:Nat):Nat:=2 ^ n - 1
theorem topN_lt {n:Nat}(h:n≤64):topN n < 18446744073709551616:=by
 have h1:2 ^ n≤2 ^ 64:=Nat.pow_le_pow_right (by decide) h
 have h2:0 < 2 ^ n:=Nat.pow_pos (by decide)
 have e:(2:Nat) ^ 64=18446744073709551616:=by decide
 rw[topN]
 omega
theorem sub_self (a:Nat):subB a a=true:=(subB_iff a a).2 fun _ h=>h
theorem sub_zero (a:Nat):subB 0 a=true:=(subB_iff 0 a).2 fun i h=>by simp at h
theorem sub_or {a b t:Nat}(h:subB a t=true)(k:subB b t=true):subB (a|||b) t=true:=(subB_iff _ _).2 fun i hi=>by
 rw[Nat.testBit_or] at hi
 rcases Bool.or_eq_true_iff.1 hi with hi|hi
 ·exact(subB_iff _ _).1 h i hi
 ·exact(subB_iff _ _).1 k i hi
theorem sub_and {a b t:Nat}(h:subB a t=true):subB (a &&& b) t=true:=(subB_iff _ _).2 fun i hi=>by
 rw[Nat.testBit_and] at hi
 exact(subB_iff _ _).1 h i (by revert hi;cases a.testBit i <;> simp)
theorem join_bound (a b c:Nat):(subB a c && subB b c)=subB (a|||b) c:=by
 apply bool_iff
 rw[Bool.and_eq_true,subB_iff,subB_iff,subB_iff]
 constructor
 ·intro⟨h,k⟩ i hi
  rw[Nat.testBit_or] at hi
  rcases Bool.or_eq_true_iff.1 hi with hi|hi
  ·exact h i hi
  ·exact k i hi
 ·intro h
  exact⟨fun i hi=>h i (by rw[Nat.testBit_or,hi];rfl),fun i hi=>h i (by rw[Nat.testBit_or,hi,Bool.or_true])⟩
theorem meet_bound (a b c:Nat):(subB c a && subB c b)=subB c (a &&& b):=by
 apply bool_iff
 rw[Bool.and_eq_true,subB_iff,subB_iff,subB_iff]
 constructor
 ·intro⟨h,k⟩ i hi
  rw[Nat.testBit_and,h i hi,k i hi]
  rfl
 ·intro h
  refine⟨fun i hi=> ?_,fun i hi=> ?_⟩
  ·have:=h i hi
   rw[Nat.testBit_and] at this
   exact(Bool.and_eq_true_iff.1 this).1
  ·have:=h i hi
   rw[Nat.testBit_and] at this
   exact(Bool.and_eq_true_iff.1 this).2
theorem and_lt {a b:Nat}(ha:a < 18446744073709551616):a &&& b < 18446744073709551616:=Nat.lt_of_le_of_lt Nat.and_le_left ha
end Go.Proofs.YtmejhedegmjboaaGreat.Ef
namespace Go.Proofs.YtmejhedegmjboaaGreat.Ef
open Go.RowKit
def nm (x:Nat):Value:= .int .u64 (x:Int)
def Fit (l:List Nat):Prop:= ∀x∈l,x < 18446744073709551616
theorem Fit.get {l:List Nat}(h:Fit l)(i:Nat)(hi:i < l.length):l[i] < 18446744073709551616:=h _ (List.getElem_mem hi)
theorem Below.next {w w1 w2:World}{o:Obj}(h:Below w.heap.size w w1)(k:Below (w1.alloc o).heap.size (w1.alloc o) w2):Below w.heap.size w w2:=(h.alloc h.size _).trans (k.mono (by have:=h.size;simp;omega))
structure EffAt (w:World)(g:Nat)(m:Bool)(t:Nat):Prop where
 blk:w.heap[g]?=some (.cells #[.bool m,.int .u64 (t:Int)] 132 (0,0))
 fit:t < 18446744073709551616
section
variable {w w':World} {g t:Nat} {m:Bool} (h:EffAt w g m t)
include h
theorem EffAt.lt:g < w.heap.size:=(Array.getElem?_eq_some_iff.1 h.blk).1
theorem EffAt.keep (hb:Below w.heap.size w w'):EffAt w' g m t:=⟨(hb.block g h.lt).trans h.blk,h.fit⟩
theorem EffAt.made:w.cell? ⟨g,0,none⟩=some (.bool m):=by
 rw[cell_blk h.blk]
 rfl
theorem EffAt.all:w.cell? ⟨g,1,none⟩=some (.int .u64 (t:Int)):=by
 rw[cell_blk h.blk]
 rfl
end
def EffP (w:World)(a:Option Addr)(m:Bool)(t:Nat):Prop:=(a=none∧m=false∧t=0)∨ ∃g,a=some ⟨g,0,none⟩∧EffAt w g m t
theorem EffP.keep {w w':World}{a:Option Addr}{m:Bool}{t:Nat}(h:EffP w a m t)(hb:Below w.heap.size w w'):EffP w' a m t:=by
 rcases h with h|⟨g,e,h⟩
 ·exact .inl h
 ·exact .inr ⟨g,e,h.keep hb⟩
def HaRel (l:List Nat)(t:Nat)(w:World)(v18:Value)(wr:World):Prop:= ∃k:Nat,v18= .int .i64 (k:Int)∧k≤l.length∧(∀j,(h:j < l.length)→j < k→subB l[j] t=true)∧wr=w
theorem all_yes {l:List Nat}{t:Nat}(h: ∀j,(h:j < l.length)→subB l[j] t=true):l.all (fun x=>subB x t)=true:=by
 rw[List.all_eq_true]
 intro x hx
 obtain⟨j,hj,rfl⟩:=List.getElem_of_mem hx
 exact h j hj
theorem all_no {l:List Nat}{t k:Nat}(hk:k < l.length)(h:subB l[k] t=false):l.all (fun x=>subB x t)=false:=by
 rw[List.all_eq_false]
 exact⟨_,List.getElem_mem hk,by rw[h];decide⟩
set_option maxRecDepth 100000 in
set_option maxHeartbeats 400000 in
theorem hasAll_any (a:Option Addr)(m:Bool)(t:Nat)(A:Option Addr)(n c B:Nat)(l:List Nat)(w:World)(he:EffP w a m t)(h:Rd nm w B A n c l)(hf:Fit l):
  Calls Tryz.prog 207 #[.pointer a,.slice A n c] w fun e w'=>e= .returned (.bool (m && l.all (fun x=>subB x t)))∧w=w':=by
 rcases he with⟨rfl,rfl,rfl⟩|⟨g,rfl,he⟩
 ·clear h
  go_enter Tryz.func207,Tryz.ntmps207
  go_wp2
  go_ret
  exact⟨rfl,rfl⟩
 ·have hm:=he.made
  have hall:=he.all
  have ht:=he.fit
  have HL:=Lib.hid h.len
  have hcap:=h.cap
  have htop:=h.top
  unfold maxLen at htop
  clear he
  cases m with
  |false=>
   clear h
   go_enter Tryz.func207,Tryz.ntmps207
   go_wp2
   go_ret
   exact⟨rfl,rfl⟩
  |true=>
   go_enter Tryz.func207,Tryz.ntmps207
   go_wp2
   go_loopw [18] (fun v18 wr=>HaRel l t w v18 wr) (fun v18 _=>n - (intOf v18).toNat)
   case atStart=>exact⟨0,rfl,by omega,fun j _ h=>absurd h (by omega),rfl⟩
   case round=>
    obtain⟨k,rfl,hk,hkn,rfl⟩:=hrel
    have HK:=Lib.hid hkn
    clear hkn
    by_cases hlt:k < n
    ·obtain⟨b,o,rfl,_,hc⟩:=h.spot (by omega)
     have hk':k < l.length:=by rw[HL.out];exact hlt
     have hcell:wr.cell? ⟨b,o+k,none⟩=some (.int .u64 (l[k]:Int)):=hc k hk'
     have hx:=hf.get k hk'
     have han:=u64_andNot_nat l[k] t hx ht
     have hns:=not_sub hx ht
     have hbad:=all_no (t:=t) hk'
     have hnext:subB l[k] t=true→ ∀j,(h:j < l.length)→j < k+1→subB l[j] t=true:=by
      intro hs j hj hjk
      rcases Nat.lt_or_ge j k with h1|h1
      ·exact HK.out j hj h1
      ·obtain rfl:j=k:=by omega
       exact hs
     generalize l[k] &&& (18446744073709551615 - t)=q at*
     generalize subB l[k] t=s at*
     generalize l[k]=x at*
     have HB:=Lib.hid hbad
     have HN:=Lib.hid hnext
     clear hc hbad hnext
     cases s with
     |true=>
      obtain rfl:q=0:=by simpa using hns
      clear hns
      go_wp2
      go_roundw
      case rel=>exact⟨k+1,by go_num,by omega,HN.out rfl,rfl⟩
      case measure=>simp[intOf];omega
     |false=>
      have hne:((q:Int) !=0)=true:=by
       have: ¬q=0:=by simpa using hns
       simpa using this
      have HB2:=Lib.hid (HB.out rfl)
      clear hns HB
      go_wp2
      go_ret
      exact⟨by rw[HB2.out];rfl,rfl⟩
    ·obtain rfl:k=n:=by have:=HL.out;omega
     go_wp2
     go_ret
     exact⟨by rw[all_yes fun j hj=>HK.out j hj (by rw[← HL.out];exact hj)];rfl,rfl⟩
theorem new_two (w:World)(a b:Nat):Rd nm (w.alloc (.cells #[.int .u64 (a:Int),.int .u64 (b:Int)] 60)) (w.alloc (.cells #[.int .u64 (a:Int),.int .u64 (b:Int)] 60)).heap.size (some ⟨w.heap.size,0,none⟩) 2 2 [a,b]:=Rd.new w _ 60 2 [a,b] rfl rfl (by decide)
theorem new_one (w:World)(a:Nat):Rd nm (w.alloc (.cells #[.int .u64 (a:Int)] 60)) (w.alloc (.cells #[.int .u64 (a:Int)] 60)).heap.size (some ⟨w.heap.size,0,none⟩) 1 1 [a]:=Rd.new w _ 60 1 [a] rfl rfl (by decide)
theorem fit_one {a:Nat}(ha:a < 18446744073709551616):Fit [a]:=by
 intro x hx
 rw[List.mem_singleton.1 hx]
 exact ha
theorem fit_two {a b:Nat}(ha:a < 18446744073709551616)(hb:b < 18446744073709551616):Fit [a,b]:=by
 intro x hx
 rcases List.mem_cons.1 hx with rfl|hx
 ·exact ha
 ·rw[List.mem_singleton.1 hx]
  exact hb
def hasE (m:Bool)(t a:Nat):Bool:=m && subB a t
def bothE (m:Bool)(t a b:Nat):Bool:=m && (subB a t && subB b t)
def belowE (m:Bool)(t a b:Nat):Bool:=bothE m t a b && subB a b
def joinE (m:Bool)(t a b:Nat):Nat:=if bothE m t a b then a|||b else 0
def meetE (m:Bool)(t a b:Nat):Nat:=if bothE m t a b then a &&& b else 0
set_option maxRecDepth 100000 in
set_option maxHeartbeats 400000 in
theorem both_any (x y:Nat)(hx:x < 18446744073709551616)(hy:y < 18446744073709551616)(W:World):Calls Tryz.prog 208 #[.int .u64 (x:Int),.int .u64 (y:Int)] W fun e w'=>e= .returned (.int .u64 ((x &&& y:Nat):Int))∧W=w':=by
 have h:=u64_and_nat x y hx hy
 go_enter Tryz.func208,Tryz.ntmps208
 go_wp2
 go_ret
 exact⟨rfl,rfl⟩
set_option maxRecDepth 100000 in
set_option maxHeartbeats 400000 in
theorem either_any (x y:Nat)(hx:x < 18446744073709551616)(hy:y < 18446744073709551616)(W:World):Calls Tryz.prog 210 #[.int .u64 (x:Int),.int .u64 (y:Int)] W fun e w'=>e= .returned (.int .u64 ((x|||y:Nat):Int))∧W=w':=by
 have h:=u64_or_nat x y hx hy
 go_enter Tryz.func210,Tryz.ntmps210
 go_wp2
 go_ret
 exact⟨rfl,rfl⟩
section
variable (a:Option Addr) (m:Bool) (t:Nat) (w:World) (he:EffP w a m t)
include he
theorem one_any (x:Nat)(hx:x < 18446744073709551616):
  Calls Tryz.prog 207 #[.pointer a,.slice (some ⟨w.heap.size,0,none⟩) 1 1] (w.alloc (.cells #[.int .u64 (x:Int)] 60)) fun e w'=>e= .returned (.bool (hasE m t x))∧w.alloc (.cells #[.int .u64 (x:Int)] 60)=w':=by
 have:=hasAll_any a m t _ 1 1 _ [x] _ (he.keep ((Below.refl _ _).alloc (Nat.le_refl _) _)) (new_one w x) (fit_one hx)
 simpa [hasE] using this
theorem two_any (k:Nat)(hk:w.heap.size=k)(x y:Nat)(hx:x < 18446744073709551616)(hy:y < 18446744073709551616):
  Calls Tryz.prog 207 #[.pointer a,.slice (some ⟨k,0,none⟩) 2 2] (w.alloc (.cells #[.int .u64 (x:Int),.int .u64 (y:Int)] 60)) fun e w'=>e= .returned (.bool (bothE m t x y))∧Below w.heap.size w w':=by
 subst hk
 refine(hasAll_any a m t _ 2 2 _ [x,y] _ (he.keep ((Below.refl _ _).alloc (Nat.le_refl _) _)) (new_two w x y) (fit_two hx hy)).mono ?_
 rintro e w' ⟨rfl,rfl⟩
 exact⟨by simp[bothE],(Below.refl _ _).alloc (Nat.le_refl _) _⟩
set_option maxRecDepth 100000 in
set_option maxHeartbeats 400000 in
theorem has_any (x:Nat)(hx:x < 18446744073709551616):Calls Tryz.prog 203 #[.pointer a,.int .u64 (x:Int)] w fun e w'=>e= .returned (.bool (hasE m t x))∧Below w.heap.size w w':=by
 have hc:=one_any a m t w he x hx
 generalize hasE m t x=r at*
 clear he
 go_enter Tryz.func203,Tryz.ntmps203
 go_wp2_with fail
 refine hc.mono ?_
 rintro e w' ⟨rfl,rfl⟩
 go_wp2_with fail
 go_ret
 exact⟨rfl,(Below.refl _ _).alloc (Nat.le_refl _) _⟩
set_option maxRecDepth 100000 in
set_option maxHeartbeats 400000 in
theorem below_any (x y:Nat)(hx:x < 18446744073709551616)(hy:y < 18446744073709551616):Calls Tryz.prog 201 #[.pointer a,.int .u64 (x:Int),.int .u64 (y:Int)] w fun e w'=>e= .returned (.bool (belowE m t x y))∧Below w.heap.size w w':=by
 have hc:=two_any a m t w he _ rfl x y hx hy
 have hb:=both_any x y hx hy
 have hs:=and_sub x y
 have hlt:=and_lt (b:=y) hx
 rw[belowE]
 generalize bothE m t x y=r at*
 generalize x &&& y=q at*
 clear he
 cases r with
 |false=>
  go_enter Tryz.func201,Tryz.ntmps201
  go_wp2_with fail
  refine hc.mono ?_
  rintro e w' ⟨rfl,hw⟩
  go_wp2_with fail
  go_ret
  exact⟨rfl,hw⟩
 |true=>
  have hq:((q:Int)==(x:Int))=subB x y:=by
   rw[← hs]
   by_cases h:q=x
   ·subst h
    simp
   ·have: ¬(q:Int)=(x:Int):=by omega
    rw[beq_eq_false_iff_ne.2 h,beq_eq_false_iff_ne.2 this]
  generalize subB x y=s at*
  clear hs
  go_enter Tryz.func201,Tryz.ntmps201
  go_wp2_with fail
  refine hc.mono ?_
  rintro e w1 ⟨rfl,hw⟩
  go_wp2_with fail
  refine(hb _).mono ?_
  rintro e w' ⟨rfl,rfl⟩
  go_wp2_with fail
  go_ret
  exact⟨rfl,hw⟩
set_option maxRecDepth 100000 in
set_option maxHeartbeats 400000 in
theorem joinM_any (x y:Nat)(hx:x < 18446744073709551616)(hy:y < 18446744073709551616):Calls Tryz.prog 209 #[.pointer a,.agg #[.func (.func 210) #[] #[]],.int .u64 (x:Int),.int .u64 (y:Int)] w fun e w'=>e= .returned (.int .u64 (joinE m t x y:Int))∧Below w.heap.size w w':=by
 have hal:=(Below.refl w.heap.size w).alloc (Nat.le_refl _) (.cells #[.func (.func 210) #[] #[]] 268)
 have hc:=two_any a m t _ (he.keep hal) (w.heap.size+1) (by simp) x y hx hy
 have hb:=either_any x y hx hy
 rw[joinE]
 generalize bothE m t x y=r at*
 generalize x|||y=q at*
 clear he
 cases r with
 |false=>
  go_enter Tryz.func209,Tryz.ntmps209
  go_wp2_with fail
  refine hc.mono ?_
  rintro e w1 ⟨rfl,hw⟩
  have hw2:=Below.next (Below.refl _ w) hw
  clear hw hal hc
  go_wp2_with fail
  go_ret
  exact⟨rfl,hw2⟩
 |true=>
  go_enter Tryz.func209,Tryz.ntmps209
  go_wp2_with fail
  refine hc.mono ?_
  rintro e w1 ⟨rfl,hw⟩
  have hcell:w1.cell? ⟨w.heap.size,0,none⟩=some (.func (.func 210) #[] #[]):=by
   rw[hw.cell (p:=⟨w.heap.size,0,none⟩) (by simp),cell_blk (heap_alloc_new _ _)]
   rfl
  have hw2:=Below.next (Below.refl _ w) hw
  clear hw hal hc
  go_wp2_with fail
  refine(hb _).mono ?_
  rintro e w' ⟨rfl,rfl⟩
  go_wp2_with fail
  go_ret
  exact⟨rfl,hw2⟩
set_option maxRecDepth 100000 in
set_option maxHeartbeats 400000 in
theorem meetM_any (x y:Nat)(hx:x < 18446744073709551616)(hy:y < 18446744073709551616):Calls Tryz.prog 209 #[.pointer a,.agg #[.func (.func 208) #[] #[]],.int .u64 (x:Int),.int .u64 (y:Int)] w fun e w'=>e= .returned (.int .u64 (meetE m t x y:Int))∧Below w.heap.size w w':=by
 have hal:=(Below.refl w.heap.size w).alloc (Nat.le_refl _) (.cells #[.func (.func 208) #[] #[]] 268)
 have hc:=two_any a m t _ (he.keep hal) (w.heap.size+1) (by simp) x y hx hy
 have hb:=both_any x y hx hy
 rw[meetE]
 generalize bothE m t x y=r at*
 generalize x &&& y=q at*
 clear he
 cases r with
 |false=>
  go_enter Tryz.func209,Tryz.ntmps209
  go_wp2_with fail
  refine hc.mono ?_
  rintro e w1 ⟨rfl,hw⟩
  have hw2:=Below.next (Below.refl _ w) hw
  clear hw hal hc
  go_wp2_with fail
  go_ret
  exact⟨rfl,hw2⟩
 |true=>
  go_enter Tryz.func209,Tryz.ntmps209
  go_wp2_with fail
  refine hc.mono ?_
  rintro e w1 ⟨rfl,hw⟩
  have hcell:w1.cell? ⟨w.heap.size,0,none⟩=some (.func (.func 208) #[] #[]):=by
   rw[hw.cell (p:=⟨w.heap.size,0,none⟩) (by simp),cell_blk (heap_alloc_new _ _)]
   rfl
  have hw2:=Below.next (Below.refl _ w) hw
  clear hw hal hc
  go_wp2_with fail
  refine(hb _).mono ?_
  rintro e w' ⟨rfl,rfl⟩
  go_wp2_with fail
  go_ret
  exact⟨rfl,hw2⟩
set_option maxRecDepth 100000 in
set_option maxHeartbeats 400000 in
theorem join_any (x y:Nat)(hx:x < 18446744073709551616)(hy:y < 18446744073709551616):Calls Tryz.prog 204 #[.pointer a,.int .u64 (x:Int),.int .u64 (y:Int)] w fun e w'=>e= .returned (.int .u64 (joinE m t x y:Int))∧Below w.heap.size w w':=by
 have hm:=joinM_any a m t w he x y hx hy
 clear he
 go_enter Tryz.func204,Tryz.ntmps204
 go_wp2_with fail
 refine hm.mono ?_
 rintro e w' ⟨rfl,hb⟩
 go_wp2_with fail
 go_ret
 exact⟨rfl,hb⟩
set_option maxRecDepth 100000 in
set_option maxHeartbeats 400000 in
theorem meet_any (x y:Nat)(hx:x < 18446744073709551616)(hy:y < 18446744073709551616):Calls Tryz.prog 205 #[.pointer a,.int .u64 (x:Int),.int .u64 (y:Int)] w fun e w'=>e= .returned (.int .u64 (meetE m t x y:Int))∧Below w.heap.size w w':=by
 have hm:=meetM_any a m t w he x y hx hy
 clear he
 go_enter Tryz.func205,Tryz.ntmps205
 go_wp2_with fail
 refine hm.mono ?_
 rintro e w' ⟨rfl,hb⟩
 go_wp2_with fail
 go_ret
 exact⟨rfl,hb⟩
omit he in
set_option maxRecDepth 100000 in
set_option maxHeartbeats 400000 in
theorem bottom_any:Calls Tryz.prog 202 #[.pointer a] w fun e w'=>e= .returned (.int .u64 0)∧w=w':=by
 go_enter Tryz.func202,Tryz.ntmps202
 go_wp2
 go_ret
 exact⟨rfl,rfl⟩
set_option maxRecDepth 100000 in
set_option maxHeartbeats 400000 in
theorem top_any:Calls Tryz.prog 206 #[.pointer a] w fun e w'=>e= .returned (.int .u64 (t:Int))∧w=w':=by
 rcases he with⟨rfl,rfl,rfl⟩|⟨g,rfl,he⟩
 ·go_enter Tryz.func206,Tryz.ntmps206
  go_wp2
  go_ret
  exact⟨rfl,rfl⟩
 ·have hall:=he.all
  have ht:=he.fit
  clear he
  go_enter Tryz.func206,Tryz.ntmps206
  go_wp2
  go_ret
  exact⟨rfl,rfl⟩
end
set_option maxRecDepth 100000 in
set_option maxHeartbeats 400000 in
theorem new_no (n:Int)(hn: ¬(0≤n∧n≤64))(w:World):Calls Tryz.prog 27 #[.int .i64 n] w fun e w'=>e= .returned (.tuple #[.pointer none,.int .i64 1])∧w=w':=by
 by_cases h0:n < 0
 ·go_enter Tryz.func27,Tryz.ntmps27
  go_wp2_with fail
  exact bodyPost_ret (v:= .tuple #[.pointer none,.int .i64 1]) (by simp[results,Tryz.results27,go_sem]) rfl ⟨rfl,rfl⟩
 ·have h64:64 < n:=by omega
  clear hn
  go_enter Tryz.func27,Tryz.ntmps27
  go_wp2_with fail
  exact bodyPost_ret (v:= .tuple #[.pointer none,.int .i64 1]) (by simp[results,Tryz.results27,go_sem]) rfl ⟨rfl,rfl⟩
theorem top_wrap {n:Nat}(h:n≤64):IntKind.u64.wrap (IntKind.u64.wrap (2 ^ n) - 1)=(topN n:Int):=by
 have e: ∀z:Int,IntKind.u64.wrap z=z%18446744073709551616:=fun z=>rfl
 have h2:0 < 2 ^ n:=Nat.pow_pos (by decide)
 have e2:(2:Int) ^ n=((2 ^ n:Nat):Int):=by rw[Int.natCast_pow];rfl
 have h3:=topN_lt h
 rw[e,e,Int.emod_sub_emod,e2]
 unfold topN at*
 generalize 2 ^ n=p at*
 omega
set_option maxRecDepth 100000 in
set_option maxHeartbeats 400000 in
theorem new_yes (n:Nat)(hn:n≤64)(w:World):Calls Tryz.prog 27 #[.int .i64 (n:Int)] w fun e w'=> ∃g,e= .returned (.tuple #[.pointer (some ⟨g,0,none⟩),.int .i64 0])∧EffAt w' g true (topN n)∧Below w.heap.size w w':=by
 have ht:=top_wrap hn
 have hlt:=topN_lt hn
 generalize topN n=t at*
 go_enter Tryz.func27,Tryz.ntmps27
 go_wp2_with fail
 exact bodyPost_ret (v:= .tuple #[.pointer (some ⟨w.heap.size,0,none⟩),.int .i64 0]) (by simp[results,Tryz.results27,go_sem]) rfl ⟨_,rfl,⟨heap_alloc_new _ _,hlt⟩,(Below.refl _ _).alloc (Nat.le_refl _) _⟩
end Go.Proofs.YtmejhedegmjboaaGreat.Ef
