/- What EqualFunc, ContainsFunc and their like tell of spots and of lists of bools. Condition: they can be read. -/
/- Senses of spots at any node: what Less tells of them. Condition: they can be read. -/
import Derived.Test.YtmejhedegmjboaaGreatOfs
import Derived.Test.YtmejhedegmjboaaGreatSlv2
namespace Go.Proofs.YtmejhedegmjboaaGreat
open Go.RowKit
theorem any_next {α:Type}{f:α→Bool}{l:List α}{i:Nat}(hi:i < l.length)(h:(l.take i).any f=false):(l.take (i+1)).any f=f l[i]:=by
 rw[List.take_succ_eq_append_getElem hi,List.any_append,h]
 simp
theorem any_on {α:Type}{f:α→Bool}{l:List α}{i:Nat}(hi:i < l.length)(h:f l[i]=true):l.any f=true:=List.any_eq_true.2 ⟨_,List.getElem_mem hi,h⟩
def othR (n:Nat)(r:List Bool):Bool:= !decide (r.length=n)
theorem int_eq (a b:Nat):((a:Int)==(b:Int))=decide (a=b):=by
 by_cases h:a=b
 ·subst h;simp
 ·rw[decide_eq_false h,beq_eq_false_iff_ne]
  omega
theorem int_ne (a b:Nat):((a:Int) !=(b:Int))= !decide (a=b):=by rw[bne,int_eq]
def AnRel {α:Type}(f:α→Bool)(l:List α)(w:World)(v8:Value)(wr:World):Prop:= ∃i:Nat,v8= .int .i64 (i:Int)∧i≤l.length∧(l.take i).any f=false∧Below w.heap.size w wr
set_option maxRecDepth 100000 in
set_option maxHeartbeats 1000000 in
theorem other_any (A:Option Addr)(m c g n:Nat)(w:World)(h:w.cell? ⟨g,0,none⟩=some (.int .i64 (n:Int))):Calls Tryz.prog 149 #[.slice A m c,.pointer (some ⟨g,0,none⟩)] w fun e w'=>e= .returned (.bool (!decide (m=n)))∧w=w':=by
 rw[← int_ne]
 generalize hd:((m:Int) !=(n:Int))=d at*
 go_enter Tryz.func149,Tryz.ntmps149
 go_wp2
 go_ret
 exact⟨rfl,rfl⟩
set_option maxRecDepth 100000 in
set_option maxHeartbeats 1000000 in
theorem indexR_any (A:Option Addr)(m c g n:Nat)(l:List (List Bool))(w:World)(h:BRows w w.heap.size A m c l)(hg:w.cell? ⟨g,0,none⟩=some (.int .i64 (n:Int))):
  Calls Tryz.prog 162 #[.slice A m c,.func (.func 149) #[] #[.pointer (some ⟨g,0,none⟩)]] w fun e w'=>(∃k:Int,e= .returned (.int .i64 k)∧(l.any (othR n)=true→0≤k)∧(l.any (othR n)=false→k= -1))∧Below w.heap.size w w':=by
 have HR:=Lib.hid h
 have HG:=Lib.hid hg
 have HL:=Lib.hid h.len
 obtain⟨hcap,htop⟩:=h.top
 unfold maxLen at htop
 clear h hg
 go_enter Tryz.func162,Tryz.ntmps162
 go_wp2
 go_loopw [8] (fun v8 wr=>AnRel (othR n) l w v8 wr) (fun v8 _=>m - (intOf v8).toNat)
 case atStart=>exact⟨0,rfl,by omega,rfl,Below.refl _ _⟩
 case round=>
  obtain⟨i,rfl,hi,hall,hb⟩:=hrel
  by_cases hlt:i < m
  ·have hi':i < l.length:=by rw[HL.out];exact hlt
   obtain⟨b,o,A',n',c',rfl,hbb,e0,hrow⟩:=(HR.out.at_size (Nat.le_refl _) hb).row hi'
   obtain⟨r,hr⟩: ∃r,othR n l[i]=r:=⟨_,rfl⟩
   have HST:=Lib.hid (any_next (f:=othR n) hi' hall)
   have HON:=Lib.hid (fun e:othR n l[i]=true=>any_on hi' e)
   have hrl:=hrow.len
   rw[hr] at HST HON
   have hc:=other_any A' n' c' g n wr (cell_old HG.out hb)
   rw[show(!decide (n'=n))=r by rw[← hr,othR,hrl]] at hc
   have HC:=Lib.hid hc
   have HB:=Lib.hid hb
   have HLT:=Lib.hid hlt
   have hdk:decide ((i:Int) < (m:Int))=true:=decide_eq_true (by omega)
   clear hall hr hbb hb hi' hlt hc hrow hrl
   go_wp2_with fail
   refine HC.out.mono ?_
   rintro e w1 ⟨rfl,rfl⟩
   clear HC e0 hdk
   cases r with
   |true=>
    have HA:=Lib.hid (HON.out rfl)
    clear HON HST
    go_wp2_with fail
    go_ret
    exact⟨⟨_,rfl,fun _=>by omega,fun e=>by rw[HA.out] at e;cases e⟩,HB.out⟩
   |false=>
    clear HON
    go_wp2_with fail
    go_roundw
    case rel=>exact⟨i+1,by go_num,by have:=HLT.out;have:=HL.out;omega,HST.out,HB.out⟩
    case measure=>
     have:=HLT.out
     simp[intOf]
     omega
  ·obtain rfl:i=m:=by have:=HL.out;omega
   have HE:Hid (l.any (othR n)=false):=Lib.hid (by rw[← hall,List.take_of_length_le (by rw[HL.out];omega)])
   clear hall hlt
   go_wp2
   go_ret
   exact⟨⟨_,rfl,(fun e=>by rw[HE.out] at e;cases e),fun _=>rfl⟩,hb⟩
set_option maxRecDepth 100000 in
set_option maxHeartbeats 1000000 in
theorem containsR_any (A:Option Addr)(m c g n:Nat)(l:List (List Bool))(w:World)(h:BRows w w.heap.size A m c l)(hg:w.cell? ⟨g,0,none⟩=some (.int .i64 (n:Int))):
  Calls Tryz.prog 151 #[.slice A m c,.func (.func 149) #[] #[.pointer (some ⟨g,0,none⟩)]] w fun e w'=>e= .returned (.bool (l.any (othR n)))∧Below w.heap.size w w':=by
 have hc:=indexR_any A m c g n l w h hg
 clear h
 generalize l.any (othR n)=r at*
 go_enter Tryz.func151,Tryz.ntmps151
 go_wp2_with fail
 refine hc.mono ?_
 rintro e w1 ⟨⟨k,rfl,h1,h2⟩,hb⟩
 have hd:decide ((0:Int)≤k)=r:=by
  cases r with
  |true=>exact decide_eq_true (h1 rfl)
  |false=>rw[h2 rfl];rfl
 clear h1 h2 hc
 go_wp2_with fail
 go_ret
 exact⟨rfl,hb⟩
end Go.Proofs.YtmejhedegmjboaaGreat
namespace Go.Proofs.YtmejhedegmjboaaGreat.I
open Go.RowKit
structure Sp where
 n:Int
 p:Nat
 s:Nat
 v:Bool
 z:Int
def spc (q:Sp):List Value:= [.int .i64 q.n,.int .u8 (q.p:Int),.int .u8 (q.s:Int),.bool q.v,.int .u64 q.z]
theorem spc_len (q:Sp):(spc q).length=5:=rfl
structure Sen where
 p:List Sp
 lo:List Nat
 hi:List Nat
 be:List (List Bool)
theorem spot_at {w:World}{B n c:Nat}{A:Option Addr}{l:List Sp}(h:Rs spc 5 w B A n c l){k:Nat}(hk:k < l.length): ∃b o,A=some ⟨b,o,none⟩∧b < B∧
  w.cell? ⟨b,o+k*5,none⟩=some (.int .i64 l[k].n)∧w.cell? ⟨b,o+k*5+1,none⟩=some (.int .u8 (l[k].p:Int))∧w.cell? ⟨b,o+k*5+2,none⟩=some (.int .u8 (l[k].s:Int))∧w.cell? ⟨b,o+k*5+3,none⟩=some (.bool l[k].v)∧w.cell? ⟨b,o+k*5+4,none⟩=some (.int .u64 l[k].z):=by
 obtain⟨b,o,e,hb,hc⟩:=h.spot (by have:=h.len;omega)
 have hc:=hc k hk
 exact⟨b,o,e,hb,hc 0 _ rfl,hc 1 _ rfl,hc 2 _ rfl,hc 3 _ rfl,hc 4 _ rfl⟩
def wholeS (z:Sen):Bool:=decide (z.lo.length=z.p.length) && (decide (z.hi.length=z.p.length) && (decide (z.be.length=z.p.length) && (!z.p.any (fun p=>decide (2 < p.s)) && !z.be.any (fun r=> !decide (r.length=z.p.length)))))
theorem whole_iff {z:Sen}:wholeS z=true↔z.lo.length=z.p.length∧z.hi.length=z.p.length∧z.be.length=z.p.length∧(∀p∈z.p,p.s≤2)∧ ∀r∈z.be,r.length=z.p.length:=by
 unfold wholeS
 simp only[Bool.and_eq_true,decide_eq_true_eq,Bool.not_eq_true',List.any_eq_false,decide_eq_false_iff_not,Nat.not_lt,Decidable.not_not]
structure SenAt (w:World)(z:Sen)(A1:Option Addr)(n1 c1:Nat)(A2:Option Addr)(n2 c2:Nat)(A3:Option Addr)(n3 c3:Nat)(A4:Option Addr)(n4 c4:Nat):Prop where
 rp:Rs spc 5 w w.heap.size A1 n1 c1 z.p
 rl:Rd La.nm w w.heap.size A2 n2 c2 z.lo
 rh:Rd La.nm w w.heap.size A3 n3 c3 z.hi
 rb:BRows w w.heap.size A4 n4 c4 z.be
 fl:La.Fit z.lo
 fh:La.Fit z.hi
theorem SenAt.keep {w W:World}{z:Sen}{A1:Option Addr}{n1 c1:Nat}{A2:Option Addr}{n2 c2:Nat}{A3:Option Addr}{n3 c3:Nat}{A4:Option Addr}{n4 c4:Nat}(h:SenAt w z A1 n1 c1 A2 n2 c2 A3 n3 c3 A4 n4 c4)(hb:Below w.heap.size w W):SenAt W z A1 n1 c1 A2 n2 c2 A3 n3 c3 A4 n4 c4:=
 ⟨h.rp.at_size (Nat.le_refl _) hb,h.rl.at_size (Nat.le_refl _) hb,h.rh.at_size (Nat.le_refl _) hb,h.rb.at_size (Nat.le_refl _) hb,h.fl,h.fh⟩
def noSd (p:Sp):Bool:=decide (2 < p.s)
set_option maxRecDepth 100000 in
set_option maxHeartbeats 1000000 in
theorem noSide_any (xn:Int)(xp xs:Nat)(xv:Bool)(xz:Int)(w:World):Calls Tryz.prog 148 #[.agg #[.int .i64 xn,.int .u8 (xp:Int),.int .u8 (xs:Int),.bool xv,.int .u64 xz]] w fun e w'=>e= .returned (.bool (decide (2 < xs)))∧Below w.heap.size w w':=by
 have hal:Below w.heap.size w (w.alloc (.cells #[.int .i64 xn,.int .u8 (xp:Int),.int .u8 (xs:Int),.bool xv,.int .u64 xz] 67)):=(Below.refl _ _).alloc (Nat.le_refl _) _
 have e:decide (2 < xs)=decide ((2:Int) < (xs:Int)):=by congr 1;simp;omega
 rw[e]
 generalize hd:decide ((2:Int) < (xs:Int))=d at*
 go_enter Tryz.func148,Tryz.ntmps148
 go_wp2
 go_ret
 exact⟨rfl,hal⟩
set_option maxRecDepth 100000 in
set_option maxHeartbeats 1000000 in
theorem indexS_any (A:Option Addr)(m c:Nat)(l:List Sp)(w:World)(h:Rs spc 5 w w.heap.size A m c l):
  Calls Tryz.prog 161 #[.slice A m c,.func (.func 148) #[] #[]] w fun e w'=>(∃k:Int,e= .returned (.int .i64 k)∧(l.any noSd=true→0≤k)∧(l.any noSd=false→k= -1))∧Below w.heap.size w w':=by
 have HR:=Lib.hid h
 have HL:=Lib.hid h.len
 have htop:=h.top
 have hcap:=h.cap
 unfold maxLen at htop
 clear h
 go_enter Tryz.func161,Tryz.ntmps161
 go_wp2
 go_loopw [8] (fun v8 wr=>AnRel noSd l w v8 wr) (fun v8 _=>m - (intOf v8).toNat)
 case atStart=>exact⟨0,rfl,by omega,rfl,Below.refl _ _⟩
 case round=>
  obtain⟨i,rfl,hi,hall,hb⟩:=hrel
  by_cases hlt:i < m
  ·have hi':i < l.length:=by rw[HL.out];exact hlt
   obtain⟨b,o,rfl,hbb,e0,e1,e2,e3,e4⟩:=spot_at (HR.out.at_size (Nat.le_refl _) hb) hi'
   obtain⟨r,hr⟩: ∃r,noSd l[i]=r:=⟨_,rfl⟩
   have HST:=Lib.hid (any_next (f:=noSd) hi' hall)
   have HON:=Lib.hid (fun e:noSd l[i]=true=>any_on hi' e)
   rw[hr] at HST HON
   generalize l[i]=x at*
   obtain⟨xn,xp,xs,xv,xz⟩:=x
   simp only at e0 e1 e2 e3 e4
   have hc:=noSide_any xn xp xs xv xz wr
   rw[show decide (2 < xs)=r from hr] at hc
   have HC:=Lib.hid hc
   have HB:=Lib.hid hb
   have HLT:=Lib.hid hlt
   have hdk:decide ((i:Int) < (m:Int))=true:=decide_eq_true (by omega)
   clear hall hr hbb hb hi' hlt hc
   go_wp2_with fail
   refine HC.out.mono ?_
   rintro e w1 ⟨rfl,hb1⟩
   have HB1:=Lib.hid (HB.out.trans (hb1.mono HB.out.size))
   clear hb1 HC e0 e1 e2 e3 e4 hdk
   cases r with
   |true=>
    have HA:=Lib.hid (HON.out rfl)
    clear HON HST
    go_wp2_with fail
    go_ret
    exact⟨⟨_,rfl,fun _=>by omega,fun e=>by rw[HA.out] at e;cases e⟩,HB1.out⟩
   |false=>
    clear HON
    go_wp2_with fail
    go_roundw
    case rel=>exact⟨i+1,by go_num,by have:=HLT.out;have:=HL.out;omega,HST.out,HB1.out⟩
    case measure=>
     have:=HLT.out
     simp[intOf]
     omega
  ·obtain rfl:i=m:=by have:=HL.out;omega
   have HE:Hid (l.any noSd=false):=Lib.hid (by rw[← hall,List.take_of_length_le (by rw[HL.out];omega)])
   clear hall hlt
   go_wp2
   go_ret
   exact⟨⟨_,rfl,(fun e=>by rw[HE.out] at e;cases e),fun _=>rfl⟩,hb⟩
set_option maxRecDepth 100000 in
set_option maxHeartbeats 1000000 in
theorem containsS_any (A:Option Addr)(m c:Nat)(l:List Sp)(w:World)(h:Rs spc 5 w w.heap.size A m c l):
  Calls Tryz.prog 150 #[.slice A m c,.func (.func 148) #[] #[]] w fun e w'=>e= .returned (.bool (l.any noSd))∧Below w.heap.size w w':=by
 have hc:=indexS_any A m c l w h
 clear h
 generalize l.any noSd=r at*
 go_enter Tryz.func150,Tryz.ntmps150
 go_wp2_with fail
 refine hc.mono ?_
 rintro e w1 ⟨⟨k,rfl,h1,h2⟩,hb⟩
 have hd:decide ((0:Int)≤k)=r:=by
  cases r with
  |true=>exact decide_eq_true (h1 rfl)
  |false=>rw[h2 rfl];rfl
 clear h1 h2 hc
 go_wp2_with fail
 go_ret
 exact⟨rfl,hb⟩
set_option maxRecDepth 100000 in
set_option maxHeartbeats 2000000 in
theorem whole_any (A1:Option Addr)(n1 c1:Nat)(A2:Option Addr)(n2 c2:Nat)(A3:Option Addr)(n3 c3:Nat)(A4:Option Addr)(n4 c4:Nat)(z:Sen)(w:World)(h:SenAt w z A1 n1 c1 A2 n2 c2 A3 n3 c3 A4 n4 c4)(r:Bool)(hr:wholeS z=r):
  Calls Tryz.prog 126 #[senV A1 n1 c1 A2 n2 c2 A3 n3 c3 A4 n4 c4] w fun e w'=>e= .returned (.bool r)∧Below w.heap.size w w':=by
 unfold senV
 obtain⟨x,hx⟩: ∃x,w.alloc (.cells #[.slice A1 n1 c1,.slice A2 n2 c2,.slice A3 n3 c3,.slice A4 n4 c4] 28)=x:=⟨_,rfl⟩
 obtain⟨y,hy⟩: ∃y,x.alloc (.cells #[.int .i64 (n1:Int)] 3)=y:=⟨_,rfl⟩
 have b0:Below w.heap.size w x:=hx▸(Below.refl _ _).alloc (Nat.le_refl _) _
 have sx:x.heap.size=w.heap.size+1:=by rw[← hx,World.size_alloc]
 have b1:Below x.heap.size x y:=hy▸(Below.refl _ _).alloc (Nat.le_refl _) _
 have k0:y.heap[w.heap.size]?=some (.cells #[.slice A1 n1 c1,.slice A2 n2 c2,.slice A3 n3 c3,.slice A4 n4 c4] 28 (0,0)):=(b1.block _ (by rw[sx];omega)).trans (hx▸heap_alloc_new w _)
 have k1:y.heap[w.heap.size+1]?=some (.cells #[.int .i64 (n1:Int)] 3 (0,0)):=by rw[← sx, ← hy];exact heap_alloc_new x _
 have hb:Below w.heap.size w y:=b0.trans (b1.mono b0.size)
 have hk0x:x.heap[w.heap.size]?=some (.cells #[.slice A1 n1 c1,.slice A2 n2 c2,.slice A3 n3 c3,.slice A4 n4 c4] 28 (0,0)):=hx▸heap_alloc_new w _
 have p0x:=(cell_blk (i:=0) hk0x).trans rfl
 have p0:=(cell_blk (i:=0) k0).trans rfl
 have p1:=(cell_blk (i:=1) k0).trans rfl
 have p2:=(cell_blk (i:=2) k0).trans rfl
 have p3:=(cell_blk (i:=3) k0).trans rfl
 have q0:=(cell_blk (i:=0) k1).trans rfl
 subst hx
 obtain⟨r1,h1⟩: ∃r,((n2:Int)==(n1:Int))=r:=⟨_,rfl⟩
 obtain⟨r2,h2⟩: ∃r,((n3:Int)==(n1:Int))=r:=⟨_,rfl⟩
 obtain⟨r3,h3⟩: ∃r,((n4:Int)==(n1:Int))=r:=⟨_,rfl⟩
 obtain⟨r4,h4⟩: ∃r,z.p.any noSd=r:=⟨_,rfl⟩
 obtain⟨r5,h5⟩: ∃r,z.be.any (othR n1)=r:=⟨_,rfl⟩
 have HX:Hid ((r1 && (r2 && (r3 && (!r4 && !r5))))=r):=Lib.hid (by
  rw[← hr, ← h1, ← h2, ← h3, ← h4, ← h5,int_eq,int_eq,int_eq]
  unfold wholeS
  rw[h.rl.len,h.rh.len,h.rb.len,h.rp.len]
  rfl)
 have HC4:Hid (∀W,Below w.heap.size w W→Calls Tryz.prog 150 #[.slice A1 n1 c1,.func (.func 148) #[] #[]] W fun e w'=>e= .returned (.bool r4)∧Below W.heap.size W w'):=Lib.hid fun W hW=>h4▸containsS_any A1 n1 c1 z.p W (h.keep hW).rp
 have HC5:Hid (∀W,Below y.heap.size y W→Calls Tryz.prog 151 #[.slice A4 n4 c4,.func (.func 149) #[] #[.pointer (some ⟨w.heap.size+1,0,none⟩)]] W fun e w'=>e= .returned (.bool r5)∧Below W.heap.size W w'):=Lib.hid fun W hW=>h5▸containsR_any A4 n4 c4 (w.heap.size+1) n1 z.be W (h.keep (hb.trans (hW.mono hb.size))).rb (cell_old q0 hW)
 have HB:=Lib.hid hb
 have hc4:=HC4.out y hb
 clear b0 b1 sx k0 k1 hk0x hr h h4 h5 hb
 cases r1 with
 |false=>
  go_enter Tryz.func126,Tryz.ntmps126
  go_wp2_with fail
  go_ret
  exact⟨by rw[← HX.out];rfl,HB.out⟩
 |true=>
 cases r2 with
 |false=>
  go_enter Tryz.func126,Tryz.ntmps126
  go_wp2_with fail
  go_ret
  exact⟨by rw[← HX.out];rfl,HB.out⟩
 |true=>
 cases r3 with
 |false=>
  go_enter Tryz.func126,Tryz.ntmps126
  go_wp2_with fail
  go_ret
  exact⟨by rw[← HX.out];rfl,HB.out⟩
 |true=>
 have HC:=Lib.hid hc4
 clear hc4
 go_enter Tryz.func126,Tryz.ntmps126
 go_wp2_with fail
 clear hy
 refine HC.out.mono ?_
 rintro e w1 ⟨rfl,hv⟩
 have p3':=cell_old p3 hv
 have HV:=Lib.hid hv
 clear hv p0 p1 p2 p3 q0 p0x h1 h2 h3 HC
 cases r4 with
 |true=>
  go_wp2_with fail
  go_ret
  exact⟨by rw[← HX.out];rfl,HB.out.trans (HV.out.mono HB.out.size)⟩
 |false=>
 go_wp2_with fail
 refine(HC5.out _ HV.out).mono ?_
 rintro e w2 ⟨rfl,hv2⟩
 have HV2:=Lib.hid (HV.out.trans (hv2.mono HV.out.size))
 clear hv2 p3'
 go_wp2_with fail
 go_ret
 refine⟨?_,HB.out.trans (HV2.out.mono HB.out.size)⟩
 rw[← HX.out]
 cases r5 <;> rfl
end Go.Proofs.YtmejhedegmjboaaGreat.I
