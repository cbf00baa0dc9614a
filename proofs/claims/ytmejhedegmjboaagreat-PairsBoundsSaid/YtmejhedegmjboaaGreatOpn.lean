import Derived.ProofKit
import Derived.OpenShut
import Derived.ShutString
import Derived.ChangeOld
import Derived.Deep.Slices
import Derived.Deep.QuietTactic
import Derived.BigQuiet
import Derived.OwnWalk
import Derived.Handy
import Derived.WalkMore
import Derived.Test.YtmejhedegmjboaaGreatBoEnds
import Derived.Test.YtmejhedegmjboaaGreatLists
import Derived.Test.YtmejhedegmjboaaGreatOfs
import Derived.Test.YtmejhedegmjboaaGreatSlv2
set_option maxRecDepth 100000
set_option maxHeartbeats 2000000
namespace Go.Proofs.YtmejhedegmjboaaGreat.Bo
open Go.ChangeShapes Go.WideShapes Go.ChangeAt Go.RowKit Go.Deep
theorem Za {w w':World}{p:Addr}{v:Value}(h:w.cell? p=some v)(hb:Below w.heap.size w w'):w'.cell? p=some v:=(hb.cell (World.block_lt_of_cell? w p h)).trans h
theorem c4:Tryz.prog.cellsOf 4=1:=by kernel_rfl
theorem c28:Tryz.prog.cellsOf 60=1:=by kernel_rfl
theorem c51:Tryz.prog.cellsOf 62=2:=by kernel_rfl
theorem ZcF {α:Type}: ∀{l:List α},l.length=2→ ∃a b,l= [a,b]
 | [a,b],_=>⟨a,b,rfl⟩
theorem ZjK {α:Type}: ∀{l:List α},l.length=4→ ∃a b c d,l= [a,b,c,d]
 | [a,b,c,d],_=>⟨a,b,c,d,rfl⟩
theorem ZiY {v:Value}{x y:Value}{l:List Value}(h:v.cells.toList=x::y::l):v= .agg (x::y::l).toArray:=by
 cases v <;> simp[Value.cells] at h
 rename_i xs
 congr 1
 apply Array.toList_inj.1
 simpa using h
section
variable {H:Type} {enc:TypeId×Value→H} {W:World}
theorem KT {n:Nat}{cs:List Value}{x:DataW H×List MemPlace}(h:DataW.trod enc Tryz.prog W 0 (fun _=>true) true n 62 cs=some x): ∃(b:Bool) (z:Nat),cs= [.bool b,.int .u64 (z:Int)]∧z < 18446744073709551616:=by
 obtain⟨xs,m,_,_,hl,hlen,hf⟩:=DataW.trod_struct Tryz.underlying62 h
 rw[c51] at hl
 match xs,hlen with
 | [y0,y1],_=>(
 have h0:DataW.trod enc Tryz.prog W 0 (fun _=>true) true m 4 (List.take (Tryz.prog.cellsOf 4) (List.drop 0 cs))=some y0:=hf 0 _ rfl
 have h1:DataW.trod enc Tryz.prog W 0 (fun _=>true) true m 60 (List.take (Tryz.prog.cellsOf 60) (List.drop 1 cs))=some y1:=hf 1 _ rfl
 rw[c4] at h0
 rw[c28] at h1
 obtain⟨b,e0,_⟩:=DataW.trod_bool Tryz.underlying4 h0
 obtain⟨z,e1,_,wz⟩:=DataW.trod_int Tryz.underlying60 h1
 obtain⟨y,rfl,hy⟩:=La.Zca wz
 obtain⟨u0,u1,rfl⟩:=ZcF hl
 simp at e0 e1
 exact⟨b,y,by rw[e0,e1],hy⟩)
theorem KU {n:Nat}{cs:List Value}{x:DataW H×List MemPlace}(h:DataW.trod enc Tryz.prog W 0 (fun _=>true) true n 22 cs=some x):
  ∃(a0:Option Addr) (len0 cap0:Nat) (l:List Nat),cs= [.slice a0 len0 cap0]∧Rd La.nm W W.heap.size a0 len0 cap0 l∧La.Fit l:=by
 obtain⟨a0,len0,cap0,e⟩: ∃a0 len0 cap0,cs= [Value.slice a0 len0 cap0]:=by(
 rcases open_slice Tryz.underlying22 h with⟨hcs,_⟩|⟨x,l,c,m,n,D,Pl,hcs,_⟩
 ·exact⟨_,_,_,hcs⟩
 ·exact⟨_,_,_,hcs⟩)
 subst e
 obtain⟨us,h1,h2⟩:=La.Zcb (t:=22) (e:=60) (d:=x.1) (p:=x.2) Tryz.underlying22 Tryz.underlying60 c28 ⟨n,h⟩
 exact⟨a0,len0,cap0,us,rfl,h1,h2⟩
end
end Go.Proofs.YtmejhedegmjboaaGreat.Bo
namespace Go.Proofs.YtmejhedegmjboaaGreat
open Go.RowKit
theorem Va {w:World}{b b' E sz n:Nat}{v:Value}{xs:List Value}(h:w.ownsRow b E sz v n xs)(hb:b'≤b):w.ownsRow b' E sz v n xs:=by
 refine⟨h.1,?_⟩
 rcases h.2 with h|⟨g,cap,cur,hv,hg,r⟩
 ·exact .inl h
 ·exact .inr ⟨g,cap,cur,hv,Nat.le_trans hb hg,r⟩
end Go.Proofs.YtmejhedegmjboaaGreat
namespace Go.Proofs.YtmejhedegmjboaaGreat
open Go.ChangeShapes Go.WideShapes Go.ChangeAt Go.RowKit Go.Deep
theorem c31s:Tryz.prog.cellsOf 24=2:=by kernel_rfl
theorem Zl4:Tryz.prog.cellsOf 22=1:=by kernel_rfl
theorem cInt:Tryz.prog.cellsOf 3=1:=by kernel_rfl
def zV (A:Option Addr)(n c:Nat)(k:Int):Value:= .agg #[.slice A n c,.int .i64 k]
section
variable {H:Type} {enc:TypeId×Value→H} {W:World}
theorem Zbs {v:Value}{d:DataW H}{p:List MemPlace}(h:DataW.Trod enc Tryz.prog W 0 (fun _=>true) true 24 v d p):
  ∃(a0:Option Addr) (len0 cap0:Nat) (k:Int) (l:List Nat),v=zV a0 len0 cap0 k∧Rd La.nm W W.heap.size a0 len0 cap0 l∧La.Fit l:=by
 obtain⟨fuel,h⟩:=h
 obtain⟨xs,m,_,_,hl,hlen,hf⟩:=DataW.trod_struct Tryz.underlying24 h
 rw[c31s] at hl
 match xs,hlen with
 | [y0,y1],_=>(
 have h0:DataW.trod enc Tryz.prog W 0 (fun _=>true) true m 22 (List.take (Tryz.prog.cellsOf 22) (List.drop 0 v.cells.toList))=some y0:=hf 0 _ rfl
 have h1:DataW.trod enc Tryz.prog W 0 (fun _=>true) true m 3 (List.take (Tryz.prog.cellsOf 3) (List.drop 1 v.cells.toList))=some y1:=hf 1 _ rfl
 rw[Zl4] at h0
 rw[cInt] at h1
 obtain⟨a0,len0,cap0,l,e0,hr,hfit⟩:=Bo.KU h0
 obtain⟨k,e1,_,_⟩:=DataW.trod_int Tryz.underlying3 h1
 obtain⟨u0,u1,e⟩:=ZcF hl
 rw[e] at e0 e1
 simp at e0 e1
 subst e0 e1
 exact⟨a0,len0,cap0,k,l,Bo.ZiY e,hr,hfit⟩)
end
def laOf (rows:List Nat):Bo.Sr:=if La.checkN rows=0 then Bo.laS rows else Bo.dead
def efOf (k:Int):Bo.Sr:=if 0≤k∧k≤64 then Bo.efS true (Ef.topN k.toNat) else Bo.dead
theorem Qr (rows:List Nat):(laOf rows).Ok:=by
 unfold laOf
 split
 ·rename_i h
  exact Bo.Zng (La.Yq h)
 ·exact Bo.ZgR
theorem ZkJ (k:Int):(efOf k).Ok:=by
 unfold efOf
 split
 ·exact Bo.Znh true (Ef.Qd (by omega))
 ·exact Bo.ZgR
theorem ZkK (A:Option Addr)(n c:Nat)(rows:List Nat)(w:World)(h:Rd La.nm w w.heap.size A n c rows)(hf:La.Fit rows):
  Calls Tryz.prog 26 #[.slice A n c] w fun e w'=> ∃a x,e= .returned (.tuple #[.pointer a,.int .i64 x])∧Bo.Ans w' 192 190 193 194 191 195 (.pointer a) (laOf rows)∧Below w.heap.size w w':=by
 by_cases hx:La.checkN rows=0
 ·(
 refine(La.ZbT A n c rows w h hf hx).mono ?_
 rintro e w' ⟨g,rfl,-,hl,hb⟩
 refine⟨_,0,rfl,?_,hb⟩
 unfold laOf
 rw[if_pos hx]
 rw[← h.len] at hl
 exact Bo.Zmp hl)
 ·(
 refine(La.Zff A n c rows w h hf _ rfl hx).mono ?_
 rintro e w' ⟨rfl,hb⟩
 refine⟨none,_,rfl,?_,hb⟩
 unfold laOf
 rw[if_neg hx]
 exact Bo.Zew _)
theorem ZkL:Bo.efS false 0=Bo.dead:=by
 unfold Bo.efS Bo.dead
 congr
theorem ZkM (k:Int)(w:World):Calls Tryz.prog 27 #[.int .i64 k] w fun e w'=> ∃a x,e= .returned (.tuple #[.pointer a,.int .i64 x])∧Bo.Ans w' 203 201 204 205 202 206 (.pointer a) (efOf k)∧Below w.heap.size w w':=by
 by_cases hk:0≤k∧k≤64
 ·(
 obtain⟨y,rfl⟩: ∃y:Nat,k=(y:Int):=⟨k.toNat,by omega⟩
 refine(Ef.ZbT y (by omega) w).mono ?_
 rintro e w' ⟨g,rfl,he,hb⟩
 refine⟨_,0,rfl,?_,hb⟩
 unfold efOf
 rw[if_pos hk,Int.toNat_natCast]
 exact Bo.Zjt (.inr ⟨g,rfl,he⟩))
 ·(
 refine(Ef.Zff k hk w).mono ?_
 rintro e w' ⟨rfl,rfl⟩
 refine⟨none,_,rfl,?_,Below.refl _ _⟩
 unfold efOf
 rw[if_neg hk, ← ZkL]
 exact Bo.Zjt (.inl ⟨rfl,rfl,rfl⟩))
theorem Zdf (A:Option Addr)(n c:Nat)(k:Int)(rows:List Nat)(w:World)(h:Rd La.nm w w.heap.size A n c rows)(hf:La.Fit rows):
  Calls Tryz.prog 10 #[zV A n c k] w fun e w'=> ∃a b,e= .returned (.tuple #[.iface 74 (.pointer a),.iface 77 (.pointer b)])∧Both w' a b (laOf rows) (efOf k)∧Below w.heap.size w w':=by
 have hal:Below w.heap.size w (w.alloc (.cells #[.slice A n c,.int .i64 k] 24)):=bA
 have h1:=h.at_size lR hal
 have hc0:(w.alloc (.cells #[.slice A n c,.int .i64 k] 24)).cell? ⟨w.heap.size,1,none⟩=some (.int .i64 k):=(Zb (i:=1) (heap_alloc_new w _)).trans rfl
 unfold zV
 clear h
 go_enter Tryz.func10,Tryz.ntmps10
 go_wp2_with fail
 refine(ZkK A n c rows _ h1 hf).mono ?_
 rintro e w1 ⟨a,x,rfl,hl,hb⟩
 have hc1:=Za hc0 hb
 have HL:=Hd hl
 clear hl hc0 h1
 go_wp2_with fail
 refine(ZkM k _).mono ?_
 rintro e w2 ⟨b,y,rfl,hx,hb2⟩
 have HX:=Hd hx
 clear hx hc1
 go_wp2_with fail
 exact bodyPost_ret (v:= .tuple #[.iface 74 (.pointer a),.iface 77 (.pointer b)]) (by simp[results,Tryz.results10,go_sem]) rfl ⟨a,b,rfl,⟨HL.out.keep hb2,HX.out⟩,hal.trans ((hb.trans (hb2.mono hb.size)).mono hal.size)⟩
def Zgb (e:Ending)(P:Bool→Prop):Prop:= ∃r,e= .returned (.bool r)∧P r
theorem Zgb.mk {e:Ending}{P:Bool→Prop}(r:Bool)(he:e= .returned (.bool r))(h:P r):Zgb e P:=⟨r,he,h⟩
end Go.Proofs.YtmejhedegmjboaaGreat
namespace Go.Proofs.YtmejhedegmjboaaGreat
open Go.RowKit
theorem Zc7 {α:Type}{f:α→Bool}{l:List α}{i:Nat}(hi:i < l.length)(h:(l.take i).any f=false):(l.take (i+1)).any f=f l[i]:=by
 rw[List.take_succ_eq_append_getElem hi,List.any_append,h]
 simp
theorem Zja {α:Type}{f:α→Bool}{l:List α}{i:Nat}(hi:i < l.length)(h:f l[i]=true):l.any f=true:=List.any_eq_true.2 ⟨_,List.getElem_mem hi,h⟩
def othR (n:Nat)(r:List Bool):Bool:= !decide (r.length=n)
theorem int_eq (a b:Nat):((a:Int)==(b:Int))=decide (a=b):=by
 by_cases h:a=b
 ·subst h;simp
 ·rw[decide_eq_false h,beq_eq_false_iff_ne]
  omega
theorem int_ne (a b:Nat):((a:Int) !=(b:Int))= !decide (a=b):=by rw[bne,int_eq]
def ZlW {α:Type}(f:α→Bool)(l:List α)(w:World)(v8:Value)(wr:World):Prop:= ∃i:Nat,v8= .int .i64 (i:Int)∧i≤l.length∧(l.take i).any f=false∧Below w.heap.size w wr
theorem ZfS (A:Option Addr)(m c g n:Nat)(w:World)(h:w.cell? ⟨g,0,none⟩=some (.int .i64 (n:Int))):Calls Tryz.prog 149 #[.slice A m c,.pointer (some ⟨g,0,none⟩)] w fun e w'=>e= .returned (.bool (!decide (m=n)))∧w=w':=by
 rw[← int_ne]
 generalize hd:((m:Int) !=(n:Int))=d at*
 go_enter Tryz.func149,Tryz.ntmps149
 go_wp2
 go_ret
 exact⟨rfl,rfl⟩
theorem Zeb (A:Option Addr)(m c g n:Nat)(l:List (List Bool))(w:World)(h:Ve w w.heap.size A m c l)(hg:w.cell? ⟨g,0,none⟩=some (.int .i64 (n:Int))):
  Calls Tryz.prog 162 #[.slice A m c,.func (.func 149) #[] #[.pointer (some ⟨g,0,none⟩)]] w fun e w'=>(∃k:Int,e= .returned (.int .i64 k)∧(l.any (othR n)=true→0≤k)∧(l.any (othR n)=false→k= -1))∧Below w.heap.size w w':=by
 have HR:=Hd h
 have HG:=Hd hg
 have HL:=Hd h.len
 obtain⟨hcap,htop⟩:=h.top
 unfold maxLen at htop
 clear h hg
 go_enter Tryz.func162,Tryz.ntmps162
 go_wp2
 go_loopw [8] (fun v8 wr=>ZlW (othR n) l w v8 wr) (fun v8 _=>m - (intOf v8).toNat)
 case atStart=>exact⟨0,rfl,by omega,rfl,Below.refl _ _⟩
 case round=>(
 obtain⟨i,rfl,hi,hall,hb⟩:=hrel
 by_cases hlt:i < m
 ·(
 have hi':i < l.length:=by rw[HL.out];exact hlt
 obtain⟨b,o,A',n',c',rfl,hbb,e0,hrow⟩:=(HR.out.at_size lR hb).row hi'
 obtain⟨r,hr⟩: ∃r,othR n l[i]=r:=⟨_,rfl⟩
 have HST:=Hd (Zc7 (f:=othR n) hi' hall)
 have HON:=Hd (fun e:othR n l[i]=true=>Zja hi' e)
 have hrl:=hrow.len
 rw[hr] at HST HON
 have hc:=ZfS A' n' c' g n wr (Za HG.out hb)
 rw[show(!decide (n'=n))=r by rw[← hr,othR,hrl]] at hc
 have HC:=Hd hc
 have HB:=Hd hb
 have HLT:=Hd hlt
 have hdk:decide ((i:Int) < (m:Int))=true:=decide_eq_true (by omega)
 clear hall hr hbb hb hi' hlt hc hrow hrl
 go_wp2_with fail
 refine HC.out.mono ?_
 rintro e w1 ⟨rfl,rfl⟩
 clear HC e0 hdk
 cases r with
 |true=>(
 have HA:=Hd (HON.out rfl)
 clear HON HST
 go_wp2_with fail
 go_ret
 exact⟨⟨_,rfl,fun _=>by omega,fun e=>by rw[HA.out] at e;cases e⟩,HB.out⟩)
 |false=>(
 clear HON
 go_wp2_with fail
 go_roundw
 case rel=>exact⟨i+1,by go_num,by have:=HLT.out;have:=HL.out;omega,HST.out,HB.out⟩
 case measure=>(
 have:=HLT.out
 simp[intOf]
 omega)))
 ·(
 obtain rfl:i=m:=by have:=HL.out;omega
 have HE:Hid (l.any (othR n)=false):=Hd (by rw[← hall,List.take_of_length_le (by rw[HL.out];omega)])
 clear hall hlt
 go_wp2
 go_ret
 exact⟨⟨_,rfl,(fun e=>by rw[HE.out] at e;cases e),fun _=>rfl⟩,hb⟩))
theorem Zal (A:Option Addr)(m c g n:Nat)(l:List (List Bool))(w:World)(h:Ve w w.heap.size A m c l)(hg:w.cell? ⟨g,0,none⟩=some (.int .i64 (n:Int))):
  Calls Tryz.prog 151 #[.slice A m c,.func (.func 149) #[] #[.pointer (some ⟨g,0,none⟩)]] w fun e w'=>e= .returned (.bool (l.any (othR n)))∧Below w.heap.size w w':=by
 have hc:=Zeb A m c g n l w h hg
 clear h
 generalize l.any (othR n)=r at*
 go_enter Tryz.func151,Tryz.ntmps151
 go_wp2_with fail
 refine hc.mono ?_
 rintro e w1 ⟨⟨k,rfl,h1,h2⟩,hb⟩
 have hd:decide ((0:Int)≤k)=r:=by(
 cases r with
 |true=>exact decide_eq_true (h1 rfl)
 |false=>rw[h2 rfl];rfl)
 clear h1 h2 hc
 go_wp2_with fail
 go_ret
 exact⟨rfl,hb⟩
end Go.Proofs.YtmejhedegmjboaaGreat
namespace Go.Proofs.YtmejhedegmjboaaGreat.I
open Go.RowKit
structure Sp where
 n:Int
 p:Nat
 s:Nat
 v:Bool
 z:Int
def spc (q:Sp):List Value:= [.int .i64 q.n,.int .u8 (q.p:Int),.int .u8 (q.s:Int),.bool q.v,.int .u64 q.z]
theorem YW (q:Sp):(spc q).length=5:=rfl
structure Sen where
 p:List Sp
 lo:List Nat
 hi:List Nat
 be:List (List Bool)
theorem Z7 {w:World}{B n c:Nat}{A:Option Addr}{l:List Sp}(h:Rs spc 5 w B A n c l){k:Nat}(hk:k < l.length): ∃b o,A=some ⟨b,o,none⟩∧b < B∧
  w.cell? ⟨b,o+k*5,none⟩=some (.int .i64 l[k].n)∧w.cell? ⟨b,o+k*5+1,none⟩=some (.int .u8 (l[k].p:Int))∧w.cell? ⟨b,o+k*5+2,none⟩=some (.int .u8 (l[k].s:Int))∧w.cell? ⟨b,o+k*5+3,none⟩=some (.bool l[k].v)∧w.cell? ⟨b,o+k*5+4,none⟩=some (.int .u64 l[k].z):=by
 obtain⟨b,o,e,hb,hc⟩:=h.spot (by have:=h.len;omega)
 have hc:=hc k hk
 exact⟨b,o,e,hb,hc 0 _ rfl,hc 1 _ rfl,hc 2 _ rfl,hc 3 _ rfl,hc 4 _ rfl⟩
def Zn (z:Sen):Bool:=decide (z.lo.length=z.p.length) && (decide (z.hi.length=z.p.length) && (decide (z.be.length=z.p.length) && (!z.p.any (fun p=>decide (2 < p.s)) && !z.be.any (fun r=> !decide (r.length=z.p.length)))))
theorem ZE {z:Sen}:Zn z=true↔z.lo.length=z.p.length∧z.hi.length=z.p.length∧z.be.length=z.p.length∧(∀p∈z.p,p.s≤2)∧ ∀r∈z.be,r.length=z.p.length:=by
 unfold Zn
 simp only[Bool.and_eq_true,decide_eq_true_eq,Bool.not_eq_true',List.any_eq_false,decide_eq_false_iff_not,Nat.not_lt,Decidable.not_not]
structure Zx (w:World)(z:Sen)(A1:Option Addr)(n1 c1:Nat)(A2:Option Addr)(n2 c2:Nat)(A3:Option Addr)(n3 c3:Nat)(A4:Option Addr)(n4 c4:Nat):Prop where
 rp:Rs spc 5 w w.heap.size A1 n1 c1 z.p
 rl:Rd La.nm w w.heap.size A2 n2 c2 z.lo
 rh:Rd La.nm w w.heap.size A3 n3 c3 z.hi
 rb:Ve w w.heap.size A4 n4 c4 z.be
 fl:La.Fit z.lo
 fh:La.Fit z.hi
theorem Zx.keep {w W:World}{z:Sen}{A1:Option Addr}{n1 c1:Nat}{A2:Option Addr}{n2 c2:Nat}{A3:Option Addr}{n3 c3:Nat}{A4:Option Addr}{n4 c4:Nat}(h:Zx w z A1 n1 c1 A2 n2 c2 A3 n3 c3 A4 n4 c4)(hb:Below w.heap.size w W):Zx W z A1 n1 c1 A2 n2 c2 A3 n3 c3 A4 n4 c4:=
 ⟨h.rp.at_size lR hb,h.rl.at_size lR hb,h.rh.at_size lR hb,h.rb.at_size lR hb,h.fl,h.fh⟩
def noSd (p:Sp):Bool:=decide (2 < p.s)
theorem ZeA (xn:Int)(xp xs:Nat)(xv:Bool)(xz:Int)(w:World):Calls Tryz.prog 148 #[.agg #[.int .i64 xn,.int .u8 (xp:Int),.int .u8 (xs:Int),.bool xv,.int .u64 xz]] w fun e w'=>e= .returned (.bool (decide (2 < xs)))∧Below w.heap.size w w':=by
 have hal:Below w.heap.size w (w.alloc (.cells #[.int .i64 xn,.int .u8 (xp:Int),.int .u8 (xs:Int),.bool xv,.int .u64 xz] 67)):=bA
 have e:decide (2 < xs)=decide ((2:Int) < (xs:Int)):=by congr 1;simp;omega
 rw[e]
 generalize hd:decide ((2:Int) < (xs:Int))=d at*
 go_enter Tryz.func148,Tryz.ntmps148
 go_wp2
 go_ret
 exact⟨rfl,hal⟩
theorem ZeB (A:Option Addr)(m c:Nat)(l:List Sp)(w:World)(h:Rs spc 5 w w.heap.size A m c l):
  Calls Tryz.prog 161 #[.slice A m c,.func (.func 148) #[] #[]] w fun e w'=>(∃k:Int,e= .returned (.int .i64 k)∧(l.any noSd=true→0≤k)∧(l.any noSd=false→k= -1))∧Below w.heap.size w w':=by
 have HR:=Hd h
 have HL:=Hd h.len
 have htop:=h.top
 have hcap:=h.cap
 unfold maxLen at htop
 clear h
 go_enter Tryz.func161,Tryz.ntmps161
 go_wp2
 go_loopw [8] (fun v8 wr=>ZlW noSd l w v8 wr) (fun v8 _=>m - (intOf v8).toNat)
 case atStart=>exact⟨0,rfl,by omega,rfl,Below.refl _ _⟩
 case round=>(
 obtain⟨i,rfl,hi,hall,hb⟩:=hrel
 by_cases hlt:i < m
 ·(
 have hi':i < l.length:=by rw[HL.out];exact hlt
 obtain⟨b,o,rfl,hbb,e0,e1,e2,e3,e4⟩:=Z7 (HR.out.at_size lR hb) hi'
 obtain⟨r,hr⟩: ∃r,noSd l[i]=r:=⟨_,rfl⟩
 have HST:=Hd (Zc7 (f:=noSd) hi' hall)
 have HON:=Hd (fun e:noSd l[i]=true=>Zja hi' e)
 rw[hr] at HST HON
 generalize l[i]=x at*
 obtain⟨xn,xp,xs,xv,xz⟩:=x
 simp only at e0 e1 e2 e3 e4
 have hc:=ZeA xn xp xs xv xz wr
 rw[show decide (2 < xs)=r from hr] at hc
 have HC:=Hd hc
 have HB:=Hd hb
 have HLT:=Hd hlt
 have hdk:decide ((i:Int) < (m:Int))=true:=decide_eq_true (by omega)
 clear hall hr hbb hb hi' hlt hc
 go_wp2_with fail
 refine HC.out.mono ?_
 rintro e w1 ⟨rfl,hb1⟩
 have HB1:=Hd (HB.out.trans (hb1.mono HB.out.size))
 clear hb1 HC e0 e1 e2 e3 e4 hdk
 cases r with
 |true=>(
 have HA:=Hd (HON.out rfl)
 clear HON HST
 go_wp2_with fail
 go_ret
 exact⟨⟨_,rfl,fun _=>by omega,fun e=>by rw[HA.out] at e;cases e⟩,HB1.out⟩)
 |false=>(
 clear HON
 go_wp2_with fail
 go_roundw
 case rel=>exact⟨i+1,by go_num,by have:=HLT.out;have:=HL.out;omega,HST.out,HB1.out⟩
 case measure=>(
 have:=HLT.out
 simp[intOf]
 omega)))
 ·(
 obtain rfl:i=m:=by have:=HL.out;omega
 have HE:Hid (l.any noSd=false):=Hd (by rw[← hall,List.take_of_length_le (by rw[HL.out];omega)])
 clear hall hlt
 go_wp2
 go_ret
 exact⟨⟨_,rfl,(fun e=>by rw[HE.out] at e;cases e),fun _=>rfl⟩,hb⟩))
theorem ZaK (A:Option Addr)(m c:Nat)(l:List Sp)(w:World)(h:Rs spc 5 w w.heap.size A m c l):
  Calls Tryz.prog 150 #[.slice A m c,.func (.func 148) #[] #[]] w fun e w'=>e= .returned (.bool (l.any noSd))∧Below w.heap.size w w':=by
 have hc:=ZeB A m c l w h
 clear h
 generalize l.any noSd=r at*
 go_enter Tryz.func150,Tryz.ntmps150
 go_wp2_with fail
 refine hc.mono ?_
 rintro e w1 ⟨⟨k,rfl,h1,h2⟩,hb⟩
 have hd:decide ((0:Int)≤k)=r:=by(
 cases r with
 |true=>exact decide_eq_true (h1 rfl)
 |false=>rw[h2 rfl];rfl)
 clear h1 h2 hc
 go_wp2_with fail
 go_ret
 exact⟨rfl,hb⟩
theorem ZbH (A1:Option Addr)(n1 c1:Nat)(A2:Option Addr)(n2 c2:Nat)(A3:Option Addr)(n3 c3:Nat)(A4:Option Addr)(n4 c4:Nat)(z:Sen)(w:World)(h:Zx w z A1 n1 c1 A2 n2 c2 A3 n3 c3 A4 n4 c4)(r:Bool)(hr:Zn z=r):
  Calls Tryz.prog 126 #[senV A1 n1 c1 A2 n2 c2 A3 n3 c3 A4 n4 c4] w fun e w'=>e= .returned (.bool r)∧Below w.heap.size w w':=by
 unfold senV
 obtain⟨x,hx⟩: ∃x,w.alloc (.cells #[.slice A1 n1 c1,.slice A2 n2 c2,.slice A3 n3 c3,.slice A4 n4 c4] 28)=x:=⟨_,rfl⟩
 obtain⟨y,hy⟩: ∃y,x.alloc (.cells #[.int .i64 (n1:Int)] 3)=y:=⟨_,rfl⟩
 have b0:Below w.heap.size w x:=hx▸bA
 have sx:x.heap.size=w.heap.size+1:=by rw[← hx,World.size_alloc]
 have b1:Below x.heap.size x y:=hy▸bA
 have k0:y.heap[w.heap.size]?=some (.cells #[.slice A1 n1 c1,.slice A2 n2 c2,.slice A3 n3 c3,.slice A4 n4 c4] 28 (0,0)):=(b1.block _ (by rw[sx];omega)).trans (hx▸heap_alloc_new w _)
 have k1:y.heap[w.heap.size+1]?=some (.cells #[.int .i64 (n1:Int)] 3 (0,0)):=by rw[← sx, ← hy];exact heap_alloc_new x _
 have hb:Below w.heap.size w y:=b0.trans (b1.mono b0.size)
 have hk0x:x.heap[w.heap.size]?=some (.cells #[.slice A1 n1 c1,.slice A2 n2 c2,.slice A3 n3 c3,.slice A4 n4 c4] 28 (0,0)):=hx▸heap_alloc_new w _
 have p0x:=(Zb (i:=0) hk0x).trans rfl
 have p0:=(Zb (i:=0) k0).trans rfl
 have p1:=(Zb (i:=1) k0).trans rfl
 have p2:=(Zb (i:=2) k0).trans rfl
 have p3:=(Zb (i:=3) k0).trans rfl
 have q0:=(Zb (i:=0) k1).trans rfl
 subst hx
 obtain⟨r1,h1⟩: ∃r,((n2:Int)==(n1:Int))=r:=⟨_,rfl⟩
 obtain⟨r2,h2⟩: ∃r,((n3:Int)==(n1:Int))=r:=⟨_,rfl⟩
 obtain⟨r3,h3⟩: ∃r,((n4:Int)==(n1:Int))=r:=⟨_,rfl⟩
 obtain⟨r4,h4⟩: ∃r,z.p.any noSd=r:=⟨_,rfl⟩
 obtain⟨r5,h5⟩: ∃r,z.be.any (othR n1)=r:=⟨_,rfl⟩
 have HX:Hid ((r1 && (r2 && (r3 && (!r4 && !r5))))=r):=Hd (by
 rw[← hr, ← h1, ← h2, ← h3, ← h4, ← h5,int_eq,int_eq,int_eq]
 unfold Zn
 rw[h.rl.len,h.rh.len,h.rb.len,h.rp.len]
 rfl)
 have HC4:Hid (∀W,Below w.heap.size w W→Calls Tryz.prog 150 #[.slice A1 n1 c1,.func (.func 148) #[] #[]] W fun e w'=>e= .returned (.bool r4)∧Below W.heap.size W w'):=Hd fun W hW=>h4▸ZaK A1 n1 c1 z.p W (h.keep hW).rp
 have HC5:Hid (∀W,Below y.heap.size y W→Calls Tryz.prog 151 #[.slice A4 n4 c4,.func (.func 149) #[] #[.pointer (some ⟨w.heap.size+1,0,none⟩)]] W fun e w'=>e= .returned (.bool r5)∧Below W.heap.size W w'):=Hd fun W hW=>h5▸Zal A4 n4 c4 (w.heap.size+1) n1 z.be W (h.keep (hb.trans (hW.mono hb.size))).rb (Za q0 hW)
 have HB:=Hd hb
 have hc4:=HC4.out y hb
 clear b0 b1 sx k0 k1 hk0x hr h h4 h5 hb
 cases r1 with
 |false=>(
 go_enter Tryz.func126,Tryz.ntmps126
 go_wp2_with fail
 go_ret
 exact⟨by rw[← HX.out];rfl,HB.out⟩)
 |true=>
 cases r2 with
 |false=>(
 go_enter Tryz.func126,Tryz.ntmps126
 go_wp2_with fail
 go_ret
 exact⟨by rw[← HX.out];rfl,HB.out⟩)
 |true=>
 cases r3 with
 |false=>(
 go_enter Tryz.func126,Tryz.ntmps126
 go_wp2_with fail
 go_ret
 exact⟨by rw[← HX.out];rfl,HB.out⟩)
 |true=>
 have HC:=Hd hc4
 clear hc4
 go_enter Tryz.func126,Tryz.ntmps126
 go_wp2_with fail
 clear hy
 refine HC.out.mono ?_
 rintro e w1 ⟨rfl,hv⟩
 have p3':=Za p3 hv
 have HV:=Hd hv
 clear hv p0 p1 p2 p3 q0 p0x h1 h2 h3 HC
 cases r4 with
 |true=>(
 go_wp2_with fail
 go_ret
 exact⟨by rw[← HX.out];rfl,HB.out.trans (HV.out.mono HB.out.size)⟩)
 |false=>
 go_wp2_with fail
 refine(HC5.out _ HV.out).mono ?_
 rintro e w2 ⟨rfl,hv2⟩
 have HV2:=Hd (HV.out.trans (hv2.mono HV.out.size))
 clear hv2 p3'
 go_wp2_with fail
 go_ret
 refine⟨?_,HB.out.trans (HV2.out.mono HB.out.size)⟩
 rw[← HX.out]
 cases r5 <;> rfl
end Go.Proofs.YtmejhedegmjboaaGreat.I
namespace Go.Proofs.YtmejhedegmjboaaGreat.La
open Go.RowKit
end Go.Proofs.YtmejhedegmjboaaGreat.La
namespace Go.Proofs.YtmejhedegmjboaaGreat.La
open Go.RowKit
end Go.Proofs.YtmejhedegmjboaaGreat.La
namespace Go.Proofs.YtmejhedegmjboaaGreat.I
open Go.RowKit
end Go.Proofs.YtmejhedegmjboaaGreat.I
namespace Go.Proofs.YtmejhedegmjboaaGreat.I
open Go.RowKit
end Go.Proofs.YtmejhedegmjboaaGreat.I
namespace Go.Proofs.YtmejhedegmjboaaGreat.I
open Go.RowKit
structure B4 (w:World)(g:Nat)(A1:Option Addr)(n1 c1:Nat)(A2:Option Addr)(n2 c2:Nat)(A3:Option Addr)(n3 c3:Nat)(A4:Option Addr)(n4 c4:Nat):Prop where
 p0:w.cell? ⟨g,0,none⟩=some (.slice A1 n1 c1)
 p1:w.cell? ⟨g,1,none⟩=some (.slice A2 n2 c2)
 p2:w.cell? ⟨g,2,none⟩=some (.slice A3 n3 c3)
 p3:w.cell? ⟨g,3,none⟩=some (.slice A4 n4 c4)
theorem B4.blk {w:World}{g:Nat}{A1:Option Addr}{n1 c1:Nat}{A2:Option Addr}{n2 c2:Nat}{A3:Option Addr}{n3 c3:Nat}{A4:Option Addr}{n4 c4:Nat}(h:w.heap[g]?=some (.cells #[.slice A1 n1 c1,.slice A2 n2 c2,.slice A3 n3 c3,.slice A4 n4 c4] 28 (0,0))):B4 w g A1 n1 c1 A2 n2 c2 A3 n3 c3 A4 n4 c4:=⟨(Zb (i:=0) h).trans rfl,(Zb (i:=1) h).trans rfl,(Zb (i:=2) h).trans rfl,(Zb (i:=3) h).trans rfl⟩
end Go.Proofs.YtmejhedegmjboaaGreat.I
namespace Go.Proofs.YtmejhedegmjboaaGreat.I
open Go.RowKit
structure ZlK (z:Sen)(n1 n2 n3 n4:Nat):Prop where
 p:n1≤80
 lo:n2≤200
 hi:n3≤200
 be:n4≤200
 row: ∀r∈z.be,r.length≤200
theorem Zd2 (A1:Option Addr)(n1 c1:Nat)(A2:Option Addr)(n2 c2:Nat)(A3:Option Addr)(n3 c3:Nat)(A4:Option Addr)(n4 c4:Nat)(z:Sen)(w:World)(h:Zx w z A1 n1 c1 A2 n2 c2 A3 n3 c3 A4 n4 c4):
  Calls Tryz.prog 8 #[senV A1 n1 c1 A2 n2 c2 A3 n3 c3 A4 n4 c4] w fun e w'=>Zgb e (fun r=>r=false→ZlK z n1 n2 n3 n4)∧Below w.heap.size w w':=by
 unfold senV
 have hal:Below w.heap.size w (w.alloc (.cells #[.slice A1 n1 c1,.slice A2 n2 c2,.slice A3 n3 c3,.slice A4 n4 c4] 28)):=bA
 have hz:=B4.blk (heap_alloc_new w (.cells #[.slice A1 n1 c1,.slice A2 n2 c2,.slice A3 n3 c3,.slice A4 n4 c4] 28))
 have p0:=hz.p0
 have p1:=hz.p1
 have p2:=hz.p2
 have p3:=hz.p3
 have no: ∀{P:Prop},(true=false→P):=fun e=>by cases e
 have HB:=Hd hal
 have HZ:=Hd hz
 have HR:=Hd (h.keep hal).rb
 have HL:=Hd h.rb.len
 clear hal hz h
 by_cases g0:(80:Int) < (n1:Int)
 ·go_enter Tryz.func8,Tryz.ntmps8
  go_wp2
  go_ret
  exact⟨.mk true rfl no,HB.out⟩
 by_cases g1:(200:Int) < (n2:Int)
 ·go_enter Tryz.func8,Tryz.ntmps8
  go_wp2
  go_ret
  exact⟨.mk true rfl no,HB.out⟩
 by_cases g2:(200:Int) < (n3:Int)
 ·go_enter Tryz.func8,Tryz.ntmps8
  go_wp2
  go_ret
  exact⟨.mk true rfl no,HB.out⟩
 by_cases g3:(200:Int) < (n4:Int)
 ·go_enter Tryz.func8,Tryz.ntmps8
  go_wp2
  go_ret
  exact⟨.mk true rfl no,HB.out⟩
 have HN:=Hd (show n1≤80∧n2≤200∧n3≤200∧n4≤200 by omega)
 clear no
 go_enter Tryz.func8,Tryz.ntmps8
 go_wp2_with fail
 clear g0 g1 g2 g3 p0 p1 p2 p3
 obtain⟨x,hx⟩: ∃x,w.alloc (.cells #[.slice A1 n1 c1,.slice A2 n2 c2,.slice A3 n3 c3,.slice A4 n4 c4] 28)=x:=⟨_,rfl⟩
 rw[hx] at HB HZ HR ⊢
 clear hx
 go_loopw [3] (fun v3 wr=> ∃i:Nat,v3= .int .i64 (i:Int)∧i≤n4∧wr=x∧ ∀j (h:j < z.be.length),j < i→z.be[j].length≤200) (fun v3 _=>n4 - (intOf v3).toNat)
 case atStart=>exact⟨0,rfl,Nat.zero_le _,rfl,fun j _ h=>absurd h (Nat.not_lt_zero j)⟩
 case round=>(
 obtain⟨i,rfl,hi,rfl,hall⟩:=hrel
 have p3:=HZ.out.p3
 by_cases hlt:i < n4
 ·(
 have hi':i < z.be.length:=by rw[HL.out];exact hlt
 obtain⟨b,o,A',n',c',rfl,-,hc,hrd⟩:=HR.out.row hi'
 have HA:=Hd hall
 have HN':=Hd hrd.len
 have hin:(i:Int) < (n4:Int):=by omega
 have HLT:Hid (n4=i+1+(n4 - (i+1))):=Hd (by omega)
 have hib:i≤100000:=by have:=HN.out;omega
 clear hall hrd hlt hi
 by_cases hg:(200:Int) < (n':Int)
 ·go_wp2_with fail
  go_ret
  exact⟨.mk true rfl (fun e=>by cases e),HB.out⟩
 ·(
 have HS:=Hd (show n'≤200 by omega)
 go_wp2_with fail
 clear p3 hc hin hg
 go_roundw
 case rel=>exact⟨i+1,by go_num,by have:=HLT.out;omega,(by first|rfl|trivial),fun j hj hji=>by
  by_cases e:j=i
  ·subst e;rw[HN'.out];exact HS.out
  ·exact HA.out j hj (by omega)⟩
 case measure=>(
 have:=HLT.out
 simp[intOf]
 omega)))
 ·(
 obtain rfl:i=n4:=by omega
 have HA:=Hd hall
 clear hall hlt
 go_wp2_with fail
 go_ret
 exact⟨.mk false rfl fun _=>⟨HN.out.1,HN.out.2.1,HN.out.2.2.1,HN.out.2.2.2,fun r hr=>by
  obtain⟨j,hj,rfl⟩:=List.mem_iff_getElem.1 hr
  exact HA.out j hj (by rw[← HL.out];exact hj)⟩,HB.out⟩))
end Go.Proofs.YtmejhedegmjboaaGreat.I
namespace Go.Proofs.YtmejhedegmjboaaGreat.I
open Go.ChangeShapes Go.WideShapes Go.ChangeAt Go.RowKit Go.Deep
theorem ZlL:Tryz.prog.cellsOf 67=5:=by kernel_rfl
theorem ZmP:Tryz.prog.cellsOf 62=2:=by kernel_rfl
theorem ZmQ:Tryz.prog.cellsOf 4=1:=by kernel_rfl
theorem ZmR:Tryz.prog.cellsOf 64=1:=by kernel_rfl
theorem ZmS:Tryz.prog.cellsOf 65=1:=by kernel_rfl
theorem ZlM:Tryz.prog.cellsOf 25=1:=by kernel_rfl
theorem ZlN:Tryz.prog.cellsOf 26=1:=by kernel_rfl
theorem ZmT:Tryz.prog.cellsOf 71=1:=by kernel_rfl
theorem ZlO:Tryz.prog.cellsOf 28=4:=by kernel_rfl
theorem ZhG {α:Type}: ∀{l:List α},l.length=5→ ∃a b c d e,l= [a,b,c,d,e]
 | [a,b,c,d,e],_=>⟨a,b,c,d,e,rfl⟩
section
variable {H:Type} {enc:TypeId×Value→H} {W:World}
theorem Zfv {n:Nat}{cs:List Value}{x:DataW H×List MemPlace}(h:DataW.trod enc Tryz.prog W 0 (fun _=>true) true n 67 cs=some x): ∃y:Sp,cs=spc y:=by
 obtain⟨xs,m,_,_,hl,hlen,hf⟩:=DataW.trod_struct Tryz.underlying67 h
 rw[ZlL] at hl
 match xs,hlen with
 | [y0,y1,y2,y3],_=>(
 have h0:DataW.trod enc Tryz.prog W 0 (fun _=>true) true m 3 (List.take (Tryz.prog.cellsOf 3) (List.drop 0 cs))=some y0:=hf 0 _ rfl
 have h1:DataW.trod enc Tryz.prog W 0 (fun _=>true) true m 64 (List.take (Tryz.prog.cellsOf 64) (List.drop 1 cs))=some y1:=hf 1 _ rfl
 have h2:DataW.trod enc Tryz.prog W 0 (fun _=>true) true m 65 (List.take (Tryz.prog.cellsOf 65) (List.drop 2 cs))=some y2:=hf 2 _ rfl
 have h3:DataW.trod enc Tryz.prog W 0 (fun _=>true) true m 62 (List.take (Tryz.prog.cellsOf 62) (List.drop 3 cs))=some y3:=hf 3 _ rfl
 rw[cInt] at h0
 rw[ZmR] at h1
 rw[ZmS] at h2
 rw[ZmP] at h3
 obtain⟨k,e0,_,_⟩:=DataW.trod_int Tryz.underlying3 h0
 obtain⟨p,e1,_,w1⟩:=DataW.trod_int Tryz.underlying64 h1
 obtain⟨s,e2,_,w2⟩:=DataW.trod_int Tryz.underlying65 h2
 obtain⟨v,z,e3,_⟩:=Bo.KT h3
 obtain⟨f0,_⟩:=Zfg w1
 obtain⟨f1,_⟩:=Zfg w2
 obtain⟨u0,u1,u2,u3,u4,rfl⟩:=ZhG hl
 simp at e0 e1 e2 e3
 refine⟨⟨k,p.toNat,s.toNat,v,z⟩,?_⟩
 simp only[spc]
 rw[e0,e1,e2,e3.1,e3.2,Int.toNat_of_nonneg f0,Int.toNat_of_nonneg f1])
theorem Zd3 {n:Nat}{cs:List Value}{x:DataW H×List MemPlace}(h:DataW.trod enc Tryz.prog W 0 (fun _=>true) true n 25 cs=some x):
  ∃(a0:Option Addr) (len0 cap0:Nat) (l:List Sp),cs= [.slice a0 len0 cap0]∧Rs spc 5 W W.heap.size a0 len0 cap0 l:=by
 rcases open_slice Tryz.underlying25 h with⟨hcs,_⟩|⟨x,l,c,m,n,D,Pl,hcs,_,hl,hm,hmm,_,hx⟩
 ·exact⟨none,0,0,[],hcs,Rs.nil _ _⟩
 ·(
 have hm':m=c:=by simpa using hmm
 have each: ∀i,i < l→ ∃y:Sp,∀j u,(spc y)[j]?=some u→W.cell? ((x.add (i*5)).add j)=some u:=by(
 intro i hi
 obtain⟨cs',h1,h2⟩:=hx i (by omega)
 obtain⟨y,rfl⟩:=Zfv h2
 rw[ZlL] at h1
 obtain⟨_,_,hc⟩:=World.cells?_some h1
 refine⟨y,fun j u hu=> ?_⟩
 have hj:j < (spc y).length:=(List.getElem?_eq_some_iff.1 hu).1
 have:=hc j (by rw[YW] at hj;exact hj)
 rw[this]
 exact hu)
 obtain⟨f,hg⟩: ∃f:Nat→Sp,∀i,i < l→ ∀j u,(spc (f i))[j]?=some u→W.cell? ((x.add (i*5)).add j)=some u:=
  ⟨fun i=>if h:i < l then Classical.choose (each i h) else⟨0,0,0,false,0⟩,fun i h=>by
   simp only[dif_pos h]
   exact Classical.choose_spec (each i h)⟩
 refine⟨some x,l,c,(List.range l).map f,hcs,⟨by simp,hl,hm,(fun h=>by cases h),fun h0=> ?_⟩⟩
 obtain⟨b,o,spot⟩:=x
 have hc0:=hg 0 (by omega) 0 _ rfl
 have hspot:spot=none:=by simpa [Addr.add] using World.cell?_spot hc0
 subst hspot
 refine⟨b,o,rfl,?_,fun j hj i u hu=> ?_⟩
 ·exact World.block_lt_of_cell? W ⟨b,o,none⟩ (by simpa [Addr.add] using hc0)
 ·rw[List.length_map,List.length_range] at hj
  simp only[List.getElem_map,List.getElem_range] at hu
  have:=hg j hj i u hu
  rwa [Addr.add_lit,Addr.add_lit] at this)
theorem open_bools {n:Nat}{cs:List Value}{x:DataW H×List MemPlace}(h:DataW.trod enc Tryz.prog W 0 (fun _=>true) true n 71 cs=some x):
  ∃(a0:Option Addr) (len0 cap0:Nat) (l:List Bool),cs= [.slice a0 len0 cap0]∧Rd Value.bool W W.heap.size a0 len0 cap0 l:=by
 rcases open_slice Tryz.underlying71 h with⟨hcs,_⟩|⟨x,l,c,m,n,D,Pl,hcs,_,hl,hm,hmm,_,hx⟩
 ·exact⟨none,0,0,[],hcs,Rd.nil _ _⟩
 ·(
 have hm':m=c:=by simpa using hmm
 have each: ∀i,i < l→ ∃y:Bool,W.cell? (x.add i)=some (.bool y):=by(
 intro i hi
 obtain⟨cs',h1,h2⟩:=hx i (by omega)
 rw[ZmQ] at h1
 obtain⟨y,rfl,_⟩:=DataW.trod_bool Tryz.underlying4 h2
 obtain⟨_,_,hc⟩:=World.cells?_some h1
 have:=hc 0 (by decide)
 exact⟨y,by simpa [Addr.add] using this⟩)
 obtain⟨f,hg⟩: ∃f:Nat→Bool,∀i,i < l→W.cell? (x.add i)=some (.bool (f i)):=
  ⟨fun i=>if h:i < l then Classical.choose (each i h) else false,fun i h=>by
   simp only[dif_pos h]
   exact Classical.choose_spec (each i h)⟩
 refine⟨some x,l,c,(List.range l).map f,hcs,⟨by simp,hl,hm,(fun h=>by cases h),fun h0=> ?_⟩⟩
 obtain⟨b,o,spot⟩:=x
 have hc0:=hg 0 (by omega)
 have hspot:spot=none:=by simpa [Addr.add] using World.cell?_spot hc0
 subst hspot
 refine⟨b,o,rfl,?_,fun j hj=> ?_⟩
 ·exact World.block_lt_of_cell? W ⟨b,o,none⟩ (by simpa [Addr.add] using hc0)
 ·have hj':j < l:=by simpa using hj
  have:=hg j hj'
  rw[List.getElem_map,List.getElem_range]
  rwa [Addr.add_lit] at this)
theorem Zd4 {n:Nat}{cs:List Value}{x:DataW H×List MemPlace}(h:DataW.trod enc Tryz.prog W 0 (fun _=>true) true n 26 cs=some x):
  ∃(a0:Option Addr) (len0 cap0:Nat) (l:List (List Bool)),cs= [.slice a0 len0 cap0]∧Ve W W.heap.size a0 len0 cap0 l:=by
 rcases open_slice Tryz.underlying26 h with⟨hcs,_⟩|⟨x,l,c,m,n,D,Pl,hcs,_,hl,hm,hmm,_,hx⟩
 ·exact⟨none,0,0,[],hcs,Ve.nil _ _⟩
 ·(
 have hm':m=c:=by simpa using hmm
 have each: ∀i,i < l→ ∃y:(Option Addr×Nat×Nat)×List Bool,W.cell? (x.add i)=some (slc y.1)∧Rd Value.bool W W.heap.size y.1.1 y.1.2.1 y.1.2.2 y.2:=by(
 intro i hi
 obtain⟨cs',h1,h2⟩:=hx i (by omega)
 rw[ZmT] at h1
 obtain⟨A,k,c',l',rfl,hr⟩:=open_bools h2
 obtain⟨_,_,hc⟩:=World.cells?_some h1
 have:=hc 0 (by decide)
 exact⟨⟨(A,k,c'),l'⟩,by simpa [Addr.add,slc] using this,hr⟩)
 obtain⟨f,hg⟩: ∃f:Nat→(Option Addr×Nat×Nat)×List Bool,∀i,i < l→W.cell? (x.add i)=some (slc (f i).1)∧Rd Value.bool W W.heap.size (f i).1.1 (f i).1.2.1 (f i).1.2.2 (f i).2:=
  ⟨fun i=>if h:i < l then Classical.choose (each i h) else⟨(none,0,0),[]⟩,fun i h=>by
   simp only[dif_pos h]
   exact Classical.choose_spec (each i h)⟩
 refine⟨some x,l,c,(List.range l).map fun i=>(f i).2,hcs,⟨(List.range l).map fun i=>(f i).1,⟨by simp,hl,hm,(fun h=>by cases h),fun h0=> ?_⟩,by simp,fun i h1 h2=> ?_⟩⟩
 ·(
 obtain⟨b,o,spot⟩:=x
 have hc0:=(hg 0 (by omega)).1
 have hspot:spot=none:=by simpa [Addr.add] using World.cell?_spot hc0
 subst hspot
 refine⟨b,o,rfl,?_,fun j hj=> ?_⟩
 ·exact World.block_lt_of_cell? W ⟨b,o,none⟩ (by simpa [Addr.add] using hc0)
 ·have hj':j < l:=by simpa using hj
  have:=(hg j hj').1
  rw[List.getElem_map,List.getElem_range]
  rwa [Addr.add_lit] at this)
 ·have hi:i < l:=by simpa using h1
  simpa using (hg i hi).2)
theorem Zbf {v:Value}{d:DataW H}{p:List MemPlace}(h:DataW.Trod enc Tryz.prog W 0 (fun _=>true) true 28 v d p):
  ∃(z:Sen) (A1:Option Addr) (n1 c1:Nat) (A2:Option Addr) (n2 c2:Nat) (A3:Option Addr) (n3 c3:Nat) (A4:Option Addr) (n4 c4:Nat),v=senV A1 n1 c1 A2 n2 c2 A3 n3 c3 A4 n4 c4∧Zx W z A1 n1 c1 A2 n2 c2 A3 n3 c3 A4 n4 c4:=by
 obtain⟨fuel,h⟩:=h
 obtain⟨xs,m,_,_,hl,hlen,hf⟩:=DataW.trod_struct Tryz.underlying28 h
 rw[ZlO] at hl
 match xs,hlen with
 | [y0,y1,y2,y3],_=>(
 have h0:DataW.trod enc Tryz.prog W 0 (fun _=>true) true m 25 (List.take (Tryz.prog.cellsOf 25) (List.drop 0 v.cells.toList))=some y0:=hf 0 _ rfl
 have h1:DataW.trod enc Tryz.prog W 0 (fun _=>true) true m 22 (List.take (Tryz.prog.cellsOf 22) (List.drop 1 v.cells.toList))=some y1:=hf 1 _ rfl
 have h2:DataW.trod enc Tryz.prog W 0 (fun _=>true) true m 22 (List.take (Tryz.prog.cellsOf 22) (List.drop 2 v.cells.toList))=some y2:=hf 2 _ rfl
 have h3:DataW.trod enc Tryz.prog W 0 (fun _=>true) true m 26 (List.take (Tryz.prog.cellsOf 26) (List.drop 3 v.cells.toList))=some y3:=hf 3 _ rfl
 rw[ZlM] at h0
 rw[Zl4] at h1 h2
 rw[ZlN] at h3
 obtain⟨A1,n1,c1,l1,e0,r1⟩:=Zd3 h0
 obtain⟨A2,n2,c2,l2,e1,r2,f2⟩:=Bo.KU h1
 obtain⟨A3,n3,c3,l3,e2,r3,f3⟩:=Bo.KU h2
 obtain⟨A4,n4,c4,l4,e3,r4⟩:=Zd4 h3
 obtain⟨u0,u1,u2,u3,e⟩:=Bo.ZjK hl
 rw[e] at e0 e1 e2 e3
 simp at e0 e1 e2 e3
 subst e0 e1 e2 e3
 exact⟨⟨l1,l2,l3,l4⟩,A1,n1,c1,A2,n2,c2,A3,n3,c3,A4,n4,c4,Bo.ZiY e,⟨r1,r2,r3,r4,f2,f3⟩⟩)
end
end Go.Proofs.YtmejhedegmjboaaGreat.I
