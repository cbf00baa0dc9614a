import Derived.Test.YtfmpecnkkbpdlaaGreatDoorOfs
import Derived.Test.YtfmpecnkkbpdlaaGreatDoorRefBelow
import Derived.Test.YtfmpecnkkbpdlaaGreatDoorSlv2
set_option maxRecDepth 100000
set_option maxHeartbeats 2000000
namespace Go.Proofs.YtfmpecnkkbpdlaaGreatDoor
open Go.RowKit
theorem ZcU {α:Type}{f:α→Bool}{l:List α}{i:Nat}(hi:i < l.length)(h:(l.take i).any f=false):(l.take (i+1)).any f=f l[i]:=by
 rw[List.take_succ_eq_append_getElem hi,List.any_append,h]
 simp
theorem Zic {α:Type}{f:α→Bool}{l:List α}{i:Nat}(hi:i < l.length)(h:f l[i]=true):l.any f=true:=List.any_eq_true.2 ⟨_,List.getElem_mem hi,h⟩
def noSd (p:Sp):Bool:=decide (2 < p.s)
def othR (n:Nat)(r:List Bool):Bool:= !decide (r.length=n)
theorem int_eq (a b:Nat):((a:Int)==(b:Int))=decide (a=b):=by
 by_cases h:a=b
 ·subst h;simp
 ·rw[decide_eq_false h,beq_eq_false_iff_ne]
  omega
theorem int_ne (a b:Nat):((a:Int) !=(b:Int))= !decide (a=b):=by rw[bne,int_eq]
def Zko {α:Type}(f:α→Bool)(l:List α)(w:World)(v8:Value)(wr:World):Prop:= ∃i:Nat,v8= .int .i64 (i:Int)∧i≤l.length∧(l.take i).any f=false∧Below w.heap.size w wr
theorem ZdV (xn xp xs:Nat)(xv:Bool)(xz:Int)(w:World):Calls Tryz.prog 162 #[.agg #[.int .i64 (xn:Int),.int .u8 (xp:Int),.int .u8 (xs:Int),.bool xv,.int .u64 xz]] w fun e w'=>e= .returned (.bool (decide (2 < xs)))∧Below w.heap.size w w':=by
 have hal:Below w.heap.size w (w.alloc (.cells #[.int .i64 (xn:Int),.int .u8 (xp:Int),.int .u8 (xs:Int),.bool xv,.int .u64 xz] 119)):=bA
 have e:decide (2 < xs)=decide ((2:Int) < (xs:Int)):=by congr 1;simp;omega
 rw[e]
 generalize hd:decide ((2:Int) < (xs:Int))=d at*
 go_enter Tryz.func162,Tryz.ntmps162
 go_wp2
 go_ret
 exact⟨rfl,hal⟩
theorem ZdW (A:Option Addr)(m c:Nat)(l:List Sp)(w:World)(h:Rs spc 5 w w.heap.size A m c l):
  Calls Tryz.prog 203 #[.slice A m c,.func (.func 162) #[] #[]] w fun e w'=>(∃k:Int,e= .returned (.int .i64 k)∧(l.any noSd=true→0≤k)∧(l.any noSd=false→k= -1))∧Below w.heap.size w w':=by
 have HR:=Hd h
 have HL:=Hd h.len
 have htop:=h.top
 have hcap:=h.cap
 unfold maxLen at htop
 clear h
 go_enter Tryz.func203,Tryz.ntmps203
 go_wp2
 go_loopw [8] (fun v8 wr=>Zko noSd l w v8 wr) (fun v8 _=>m - (intOf v8).toNat)
 case atStart=>exact⟨0,rfl,by omega,rfl,Below.refl _ _⟩
 case round=>
  obtain⟨i,rfl,hi,hall,hb⟩:=hrel
  by_cases hlt:i < m
  ·have hi':i < l.length:=by rw[HL.out];exact hlt
   obtain⟨b,o,rfl,hbb,e0,e1,e2,e3,e4⟩:=Vp (HR.out.at_size lR hb) hi'
   obtain⟨r,hr⟩: ∃r,noSd l[i]=r:=⟨_,rfl⟩
   have HST:=Hd (ZcU (f:=noSd) hi' hall)
   have HON:=Hd (fun e:noSd l[i]=true=>Zic hi' e)
   rw[hr] at HST HON
   generalize l[i]=x at*
   obtain⟨xn,xp,xs,xv,xz⟩:=x
   simp only at e0 e1 e2 e3 e4
   have hc:=ZdV xn xp xs xv xz wr
   rw[show decide (2 < xs)=r from hr] at hc
   have HC:=Hd hc
   have HB:=Hd hb
   have HLT:=Hd hlt
   have hdk:decide ((i:Int) < (m:Int))=true:=decide_eq_true (by omega)
   clear hall hr hbb hb hi' hlt hc
   go_wp2_with fail
   refine HC.out.mono ?_
   rintro e w1 ⟨rfl,hb1⟩
   have HB1:=Hd (HB.out.trans (hb1.mono HB.out.size))
   clear hb1 HC e0 e1 e2 e3 e4 hdk
   cases r with
   |true=>
    have HA:=Hd (HON.out rfl)
    clear HON HST
    go_wp2_with fail
    go_ret
    exact⟨⟨_,rfl,fun _=>by omega,fun e=>by rw[HA.out] at e;cases e⟩,HB1.out⟩
   |false=>
    clear HON
    go_wp2_with fail
    go_roundw
    case rel=>exact⟨i+1,by go_num,by have:=HLT.out;have:=HL.out;omega,HST.out,HB1.out⟩
    case measure=>
     have:=HLT.out
     simp[intOf]
     omega
  ·obtain rfl:i=m:=by have:=HL.out;omega
   have HE:Hid (l.any noSd=false):=Hd (by rw[← hall,List.take_of_length_le (by rw[HL.out];omega)])
   clear hall hlt
   go_wp2
   go_ret
   exact⟨⟨_,rfl,(fun e=>by rw[HE.out] at e;cases e),fun _=>rfl⟩,hb⟩
theorem Zad (A:Option Addr)(m c:Nat)(l:List Sp)(w:World)(h:Rs spc 5 w w.heap.size A m c l):
  Calls Tryz.prog 164 #[.slice A m c,.func (.func 162) #[] #[]] w fun e w'=>e= .returned (.bool (l.any noSd))∧Below w.heap.size w w':=by
 have hc:=ZdW A m c l w h
 clear h
 generalize l.any noSd=r at*
 go_enter Tryz.func164,Tryz.ntmps164
 go_wp2_with fail
 refine hc.mono ?_
 rintro e w1 ⟨⟨k,rfl,h1,h2⟩,hb⟩
 have hd:decide ((0:Int)≤k)=r:=by
  cases r with
  |true=>exact decide_eq_true (h1 rfl)
  |false=>rw[h2 rfl];rfl
 clear h1 h2 hc
 go_wp2_with fail
 go_ret
 exact⟨rfl,hb⟩
theorem ZeW (A:Option Addr)(m c g n:Nat)(w:World)(h:w.cell? ⟨g,0,none⟩=some (.int .i64 (n:Int))):Calls Tryz.prog 163 #[.slice A m c,.pointer (some ⟨g,0,none⟩)] w fun e w'=>e= .returned (.bool (!decide (m=n)))∧w=w':=by
 rw[← int_ne]
 generalize hd:((m:Int) !=(n:Int))=d at*
 go_enter Tryz.func163,Tryz.ntmps163
 go_wp2
 go_ret
 exact⟨rfl,rfl⟩
theorem ZdX (A:Option Addr)(m c g n:Nat)(l:List (List Bool))(w:World)(h:Z8 w w.heap.size A m c l)(hg:w.cell? ⟨g,0,none⟩=some (.int .i64 (n:Int))):
  Calls Tryz.prog 204 #[.slice A m c,.func (.func 163) #[] #[.pointer (some ⟨g,0,none⟩)]] w fun e w'=>(∃k:Int,e= .returned (.int .i64 k)∧(l.any (othR n)=true→0≤k)∧(l.any (othR n)=false→k= -1))∧Below w.heap.size w w':=by
 have HR:=Hd h
 have HG:=Hd hg
 have HL:=Hd h.len
 obtain⟨hcap,htop⟩:=h.top
 unfold maxLen at htop
 clear h hg
 go_enter Tryz.func204,Tryz.ntmps204
 go_wp2
 go_loopw [8] (fun v8 wr=>Zko (othR n) l w v8 wr) (fun v8 _=>m - (intOf v8).toNat)
 case atStart=>exact⟨0,rfl,by omega,rfl,Below.refl _ _⟩
 case round=>
  obtain⟨i,rfl,hi,hall,hb⟩:=hrel
  by_cases hlt:i < m
  ·have hi':i < l.length:=by rw[HL.out];exact hlt
   obtain⟨b,o,A',n',c',rfl,hbb,e0,hrow⟩:=(HR.out.at_size lR hb).row hi'
   obtain⟨r,hr⟩: ∃r,othR n l[i]=r:=⟨_,rfl⟩
   have HST:=Hd (ZcU (f:=othR n) hi' hall)
   have HON:=Hd (fun e:othR n l[i]=true=>Zic hi' e)
   have hrl:=hrow.len
   rw[hr] at HST HON
   have hc:=ZeW A' n' c' g n wr (Zc HG.out hb)
   rw[show(!decide (n'=n))=r by rw[← hr,othR,hrl]] at hc
   have HC:=Hd hc
   have HB:=Hd hb
   have HLT:=Hd hlt
   have hdk:decide ((i:Int) < (m:Int))=true:=decide_eq_true (by omega)
   clear hall hr hbb hb hi' hlt hc hrow hrl
   go_wp2_with fail
   refine HC.out.mono ?_
   rintro e w1 ⟨rfl,rfl⟩
   clear HC e0 hdk
   cases r with
   |true=>
    have HA:=Hd (HON.out rfl)
    clear HON HST
    go_wp2_with fail
    go_ret
    exact⟨⟨_,rfl,fun _=>by omega,fun e=>by rw[HA.out] at e;cases e⟩,HB.out⟩
   |false=>
    clear HON
    go_wp2_with fail
    go_roundw
    case rel=>exact⟨i+1,by go_num,by have:=HLT.out;have:=HL.out;omega,HST.out,HB.out⟩
    case measure=>
     have:=HLT.out
     simp[intOf]
     omega
  ·obtain rfl:i=m:=by have:=HL.out;omega
   have HE:Hid (l.any (othR n)=false):=Hd (by rw[← hall,List.take_of_length_le (by rw[HL.out];omega)])
   clear hall hlt
   go_wp2
   go_ret
   exact⟨⟨_,rfl,(fun e=>by rw[HE.out] at e;cases e),fun _=>rfl⟩,hb⟩
theorem Zae (A:Option Addr)(m c g n:Nat)(l:List (List Bool))(w:World)(h:Z8 w w.heap.size A m c l)(hg:w.cell? ⟨g,0,none⟩=some (.int .i64 (n:Int))):
  Calls Tryz.prog 165 #[.slice A m c,.func (.func 163) #[] #[.pointer (some ⟨g,0,none⟩)]] w fun e w'=>e= .returned (.bool (l.any (othR n)))∧Below w.heap.size w w':=by
 have hc:=ZdX A m c g n l w h hg
 clear h
 generalize l.any (othR n)=r at*
 go_enter Tryz.func165,Tryz.ntmps165
 go_wp2_with fail
 refine hc.mono ?_
 rintro e w1 ⟨⟨k,rfl,h1,h2⟩,hb⟩
 have hd:decide ((0:Int)≤k)=r:=by
  cases r with
  |true=>exact decide_eq_true (h1 rfl)
  |false=>rw[h2 rfl];rfl
 clear h1 h2 hc
 go_wp2_with fail
 go_ret
 exact⟨rfl,hb⟩
theorem Zaf (xn xp xs:Nat)(xv:Bool)(xz:Int)(yn yp ys:Nat)(yv:Bool)(yz:Int)(w:World)(r:Bool)(hr:QN ⟨xn,xp,xs,xv,xz⟩ ⟨yn,yp,ys,yv,yz⟩=r):
  Calls Tryz.prog 90 #[.agg #[.int .i64 (xn:Int),.int .u8 (xp:Int),.int .u8 (xs:Int),.bool xv,.int .u64 xz],.agg #[.int .i64 (yn:Int),.int .u8 (yp:Int),.int .u8 (ys:Int),.bool yv,.int .u64 yz]] w fun e w'=>e= .returned (.bool r)∧Below w.heap.size w w':=by
 have hal:Below w.heap.size w ((w.alloc (.cells #[.int .i64 (xn:Int),.int .u8 (xp:Int),.int .u8 (xs:Int),.bool xv,.int .u64 xz] 119)).alloc (.cells #[.int .i64 (yn:Int),.int .u8 (yp:Int),.int .u8 (ys:Int),.bool yv,.int .u64 yz] 119)):=(bA).alloc (by simp) _
 obtain⟨r1,h1⟩: ∃r,((xn:Int)==(yn:Int))=r:=⟨_,rfl⟩
 obtain⟨r2,h2⟩: ∃r,((xp:Int)==(yp:Int))=r:=⟨_,rfl⟩
 obtain⟨r3,h3⟩: ∃r,((xs:Int)==(ys:Int))=r:=⟨_,rfl⟩
 have HX:Hid ((r1 && (r2 && r3))=r):=Hd (by rw[← hr, ← h1, ← h2, ← h3,int_eq,int_eq,int_eq];rfl)
 clear hr
 cases r1 with
 |false=>
  go_enter Tryz.func90,Tryz.ntmps90
  go_wp2
  go_ret
  exact⟨by rw[← HX.out];rfl,hal⟩
 |true=>
  cases r2 with
  |false=>
   go_enter Tryz.func90,Tryz.ntmps90
   go_wp2
   go_ret
   exact⟨by rw[← HX.out];rfl,hal⟩
  |true=>
   go_enter Tryz.func90,Tryz.ntmps90
   go_wp2
   go_ret
   exact⟨by rw[← HX.out];rfl,hal⟩
theorem ZeJ {α:Type}{f:α→α→Bool}{l m:List α}(h:l.length≠m.length):eqF f l m=false:=Bool.eq_false_iff.2 fun e=>h (YM.1 e).1
theorem Zh9 {α:Type}{f:α→α→Bool}{l m:List α}{i:Nat}(h:i < l.length)(h':i < m.length)(e:f l[i] m[i]=false):eqF f l m=false:=Bool.eq_false_iff.2 fun g=>by
 have:=(YM.1 g).2 i h h'
 rw[e] at this
 cases this
def Zia {α:Type}(f:α→α→Bool)(l m:List α)(w:World)(v17:Value)(wr:World):Prop:= ∃i:Nat,v17= .int .i64 (i:Int)∧i≤l.length∧(∀j (h:j < l.length) (h':j < m.length),j < i→f l[j] m[j]=true)∧Below w.heap.size w wr
theorem ZdM (A A2:Option Addr)(n c n2 c2:Nat)(l m:List Sp)(w:World)(h:Rs spc 5 w w.heap.size A n c l)(h2:Rs spc 5 w w.heap.size A2 n2 c2 m)(r:Bool)(hr:eqF QN l m=r):
  Calls Tryz.prog 89 #[.slice A n c,.slice A2 n2 c2,.func (.func 90) #[] #[]] w fun e w'=>e= .returned (.bool r)∧Below w.heap.size w w':=by
 have htop:=h.top
 have hcap:=h.cap
 unfold maxLen at htop
 by_cases hnn:n=n2
 case neg=>
  have hne:((n:Int) !=(n2:Int))=true:=by rw[int_ne,decide_eq_false hnn];rfl
  obtain rfl:false=r:=by rw[← hr,ZeJ (by rw[h.len,h2.len];exact hnn)]
  clear h h2 hr hnn htop hcap
  go_enter Tryz.func89,Tryz.ntmps89
  go_wp2
  go_ret
  exact⟨rfl,Below.refl _ _⟩
 subst hnn
 have hne:((n:Int) !=(n:Int))=false:=by rw[int_ne];simp
 have HR:=Hd h
 have HR2:=Hd h2
 have HL:=Hd h.len
 have HL2:=Hd h2.len
 have HX:=Hd hr
 clear h h2 hr
 go_enter Tryz.func89,Tryz.ntmps89
 go_wp2
 clear hne
 go_loopw [17] (fun v17 wr=>Zia QN l m w v17 wr) (fun v17 _=>n - (intOf v17).toNat)
 case atStart=>exact⟨0,rfl,by omega,fun _ _ _ h=>absurd h (Nat.not_lt_zero _),Below.refl _ _⟩
 case round=>
  obtain⟨i,rfl,hi,hall,hb⟩:=hrel
  by_cases hlt:i < n
  ·have hi1:i < l.length:=by rw[HL.out];exact hlt
   have hi2:i < m.length:=by rw[HL2.out];exact hlt
   obtain⟨b,o,rfl,hbb,e0,e1,e2,e3,e4⟩:=Vp (HR.out.at_size lR hb) hi1
   obtain⟨b',o',rfl,hbb',f0,f1,f2,f3,f4⟩:=Vp (HR2.out.at_size lR hb) hi2
   obtain⟨q,hq⟩: ∃q,QN l[i] m[i]=q:=⟨_,rfl⟩
   have HST:Hid (q=true→ ∀j (h:j < l.length) (h':j < m.length),j < i+1→QN l[j] m[j]=true):=Hd fun e j g g' hj=>by
    by_cases hji:j < i
    ·exact hall j g g' hji
    ·obtain rfl:j=i:=by omega
     rw[hq];exact e
   have HNO:Hid (q=false→false=r):=Hd fun e=>by rw[← HX.out];exact(Zh9 hi1 hi2 (hq.trans e)).symm
   generalize l[i]=x at*
   generalize m[i]=y at*
   obtain⟨xn,xp,xs,xv,xz⟩:=x
   obtain⟨yn,yp,ys,yv,yz⟩:=y
   simp only at e0 e1 e2 e3 e4 f0 f1 f2 f3 f4
   have hal:Below wr.heap.size wr ((wr.alloc (.cells #[.int .i64 (xn:Int),.int .u8 (xp:Int),.int .u8 (xs:Int),.bool xv,.int .u64 xz] 119)).alloc (.cells #[.int .i64 (yn:Int),.int .u8 (yp:Int),.int .u8 (ys:Int),.bool yv,.int .u64 yz] 119)):=(bA).alloc (by simp) _
   have hal0:Below wr.heap.size wr (wr.alloc (.cells #[.int .i64 (xn:Int),.int .u8 (xp:Int),.int .u8 (xs:Int),.bool xv,.int .u64 xz] 119)):=bA
   replace f0:=Zc f0 hal0
   replace f1:=Zc f1 hal0
   replace f2:=Zc f2 hal0
   replace f3:=Zc f3 hal0
   replace f4:=Zc f4 hal0
   have HC:=Hd (Zaf xn xp xs xv xz yn yp ys yv yz ((wr.alloc (.cells #[.int .i64 (xn:Int),.int .u8 (xp:Int),.int .u8 (xs:Int),.bool xv,.int .u64 xz] 119)).alloc (.cells #[.int .i64 (yn:Int),.int .u8 (yp:Int),.int .u8 (ys:Int),.bool yv,.int .u64 yz] 119)) q hq)
   have HB:=Hd (hb.trans (hal.mono hb.size))
   have HLT:=Hd hlt
   have hdk:decide ((i:Int) < (n:Int))=true:=decide_eq_true (by omega)
   clear hall hq hbb hbb' hb hi1 hi2 hlt hal hal0
   go_wp2_with fail
   refine HC.out.mono ?_
   rintro e w1 ⟨rfl,hb1⟩
   have HB1:=Hd (HB.out.trans (hb1.mono HB.out.size))
   clear hb1 HC e0 e1 e2 e3 e4 f0 f1 f2 f3 f4 hdk HB
   cases q with
   |false=>
    have HN:=Hd (HNO.out rfl)
    clear HNO HST
    go_wp2_with fail
    go_ret
    exact⟨by rw[← HN.out];rfl,HB1.out⟩
   |true=>
    have HS2:=Hd (HST.out rfl)
    clear HNO HST
    go_wp2_with fail
    go_roundw
    case rel=>exact⟨i+1,by go_num,by have:=HLT.out;have:=HL.out;omega,HS2.out,HB1.out⟩
    case measure=>
     have:=HLT.out
     simp[intOf]
     omega
  ·obtain rfl:i=n:=by have:=HL.out;omega
   have HE:Hid (true=r):=Hd (by
    rw[← HX.out]
    exact(YM.2 ⟨by rw[HL.out,HL2.out],fun j g g'=>hall j g g' (by rw[← HL.out];exact g)⟩).symm)
   clear hall hlt
   go_wp2
   go_ret
   exact⟨by rw[← HE.out];rfl,hb⟩
def Zk1 (a b:List Bool)(w:World)(v9:Value)(wr:World):Prop:= ∃i:Nat,v9= .int .i64 (i:Int)∧i≤a.length∧(∀j (h:j < a.length) (h':j < b.length),j < i→a[j]=true→b[j]=true)∧w=wr
theorem ZdN (A A2:Option Addr)(n c c2 B:Nat)(a b:List Bool)(w:World)(h:Rd Value.bool w B A n c a)(h2:Rd Value.bool w B A2 n c2 b)(r:Bool)(hr:U5 a b=r):
  Calls Tryz.prog 94 #[.slice A n c,.slice A2 n c2] w fun e w'=>e= .returned (.bool r)∧w=w':=by
 have htop:=h.top
 have hcap:=h.cap
 unfold maxLen at htop
 have HR:=Hd h
 have HR2:=Hd h2
 have HL:=Hd h.len
 have HL2:=Hd h2.len
 have HX:=Hd hr
 clear h h2 hr
 go_enter Tryz.func94,Tryz.ntmps94
 go_wp2
 go_loopw [9] (fun v9 wr=>Zk1 a b w v9 wr) (fun v9 _=>n - (intOf v9).toNat)
 case atStart=>exact⟨0,rfl,by omega,(fun _ _ _ h=>absurd h (Nat.not_lt_zero _)),rfl⟩
 case round=>
  obtain⟨i,rfl,hi,hall,rfl⟩:=hrel
  by_cases hlt:i < n
  ·have hi1:i < a.length:=by rw[HL.out];exact hlt
   have hi2:i < b.length:=by rw[HL2.out];exact hlt
   obtain⟨p,o,rfl,hbb,e0⟩:=HR.out.spot (by omega)
   obtain⟨p',o',rfl,hbb',f0⟩:=HR2.out.spot (by omega)
   replace e0:=e0 i hi1
   replace f0:=f0 i hi2
   have HST:Hid ((a[i]=true→b[i]=true)→ ∀j (h:j < a.length) (h':j < b.length),j < i+1→a[j]=true→b[j]=true):=Hd fun e j g g' hj=>by
    by_cases hji:j < i
    ·exact hall j g g' hji
    ·obtain rfl:j=i:=by omega
     exact e
   have HNO:Hid (a[i]=true→b[i]=false→false=r):=Hd fun e1 e2=>by
    rw[← HX.out]
    refine(Bool.eq_false_iff.2 fun g=> ?_).symm
    have:=(ZgD (by rw[HL.out,HL2.out])).1 g i hi1 hi2
    rw[e1,e2] at this
    cases this
   have HLT:=Hd hlt
   have hdk:decide ((i:Int) < (n:Int))=true:=decide_eq_true (by omega)
   generalize a[i]=x at*
   generalize b[i]=y at*
   clear hall hbb hbb' hi1 hi2 hlt
   cases x with
   |false=>
    have HS2:=Hd (HST.out (fun e=>by cases e))
    clear HNO HST
    go_wp2_with fail
    clear hdk e0 f0
    go_roundw
    case rel=>exact⟨i+1,by go_num,by have:=HLT.out;have:=HL.out;omega,HS2.out,by trivial⟩
    case measure=>
     have:=HLT.out
     simp[intOf]
     omega
   |true=>
    cases y with
    |true=>
     have HS2:=Hd (HST.out (fun _=>rfl))
     clear HNO HST
     go_wp2_with fail
     clear hdk e0 f0
     go_roundw
     case rel=>exact⟨i+1,by go_num,by have:=HLT.out;have:=HL.out;omega,HS2.out,by trivial⟩
     case measure=>
      have:=HLT.out
      simp[intOf]
      omega
    |false=>
     have HN:=Hd (HNO.out rfl rfl)
     clear HNO HST
     go_wp2_with fail
     go_ret
     exact⟨by rw[← HN.out];rfl,rfl⟩
  ·obtain rfl:i=n:=by have:=HL.out;omega
   have HE:Hid (true=r):=Hd (by
    rw[← HX.out]
    refine((ZgD (by rw[HL.out,HL2.out])).2 fun j g g'=> ?_).symm
    have:=hall j g g' (by rw[← HL.out];exact g)
    cases e:a[j] with
    |false=>rfl
    |true=>simpa using this e)
   clear hall hlt
   go_wp2
   go_ret
   exact⟨by rw[← HE.out];rfl,rfl⟩
theorem ZdO (A A2:Option Addr)(n c n2 c2 q:Nat)(l m:List (List Bool))(w:World)(h:Z8 w w.heap.size A n c l)(h2:Z8 w w.heap.size A2 n2 c2 m)(hq: ∀x∈l,x.length=q)(hq2: ∀x∈m,x.length=q)(r:Bool)(hr:eqF U5 l m=r):
  Calls Tryz.prog 93 #[.slice A n c,.slice A2 n2 c2,.func (.func 94) #[] #[]] w fun e w'=>e= .returned (.bool r)∧Below w.heap.size w w':=by
 obtain⟨hcap,htop⟩:=h.top
 unfold maxLen at htop
 by_cases hnn:n=n2
 case neg=>
  have hne:((n:Int) !=(n2:Int))=true:=by rw[int_ne,decide_eq_false hnn];rfl
  obtain rfl:false=r:=by rw[← hr,ZeJ (by rw[h.len,h2.len];exact hnn)]
  clear h h2 hr hnn htop hcap
  go_enter Tryz.func93,Tryz.ntmps93
  go_wp2
  go_ret
  exact⟨rfl,Below.refl _ _⟩
 subst hnn
 have hne:((n:Int) !=(n:Int))=false:=by rw[int_ne];simp
 have HR:=Hd h
 have HR2:=Hd h2
 have HL:=Hd h.len
 have HL2:=Hd h2.len
 have HX:=Hd hr
 have HQ:=Hd hq
 have HQ2:=Hd hq2
 clear h h2 hr hq hq2
 go_enter Tryz.func93,Tryz.ntmps93
 go_wp2
 clear hne
 go_loopw [17] (fun v17 wr=>Zia U5 l m w v17 wr) (fun v17 _=>n - (intOf v17).toNat)
 case atStart=>exact⟨0,rfl,by omega,fun _ _ _ h=>absurd h (Nat.not_lt_zero _),Below.refl _ _⟩
 case round=>
  obtain⟨i,rfl,hi,hall,hb⟩:=hrel
  by_cases hlt:i < n
  ·have hi1:i < l.length:=by rw[HL.out];exact hlt
   have hi2:i < m.length:=by rw[HL2.out];exact hlt
   obtain⟨b,o,A1,k1,d1,rfl,hbb,e0,r1⟩:=(HR.out.at_size lR hb).row hi1
   obtain⟨b',o',A3,k2,d2,rfl,hbb',f0,r2⟩:=(HR2.out.at_size lR hb).row hi2
   obtain⟨q',hq⟩: ∃q,U5 l[i] m[i]=q:=⟨_,rfl⟩
   have e1:k1=q:=by rw[← r1.len];exact HQ.out _ (List.getElem_mem hi1)
   have e2:k2=q:=by rw[← r2.len];exact HQ2.out _ (List.getElem_mem hi2)
   subst e1
   obtain rfl:k2=k1:=e2
   have HC:=Hd (ZdN A1 A3 k2 d1 d2 wr.heap.size l[i] m[i] wr r1 r2 q' hq)
   have HST:Hid (q'=true→ ∀j (h:j < l.length) (h':j < m.length),j < i+1→U5 l[j] m[j]=true):=Hd fun e j g g' hj=>by
    by_cases hji:j < i
    ·exact hall j g g' hji
    ·obtain rfl:j=i:=by omega
     rw[hq];exact e
   have HNO:Hid (q'=false→false=r):=Hd fun e=>by rw[← HX.out];exact(Zh9 hi1 hi2 (hq.trans e)).symm
   have HB:=Hd hb
   have HLT:=Hd hlt
   have hdk:decide ((i:Int) < (n:Int))=true:=decide_eq_true (by omega)
   clear hall hq hbb hbb' hb hi1 hi2 hlt r1 r2
   go_wp2_with fail
   refine HC.out.mono ?_
   rintro e w1 ⟨rfl,rfl⟩
   clear HC e0 f0 hdk
   cases q' with
   |false=>
    have HN:=Hd (HNO.out rfl)
    clear HNO HST
    go_wp2_with fail
    go_ret
    exact⟨by rw[← HN.out];rfl,HB.out⟩
   |true=>
    have HS2:=Hd (HST.out rfl)
    clear HNO HST
    go_wp2_with fail
    go_roundw
    case rel=>exact⟨i+1,by go_num,by have:=HLT.out;have:=HL.out;omega,HS2.out,HB.out⟩
    case measure=>
     have:=HLT.out
     simp[intOf]
     omega
  ·obtain rfl:i=n:=by have:=HL.out;omega
   have HE:Hid (true=r):=Hd (by
    rw[← HX.out]
    exact(YM.2 ⟨by rw[HL.out,HL2.out],fun j g g'=>hall j g g' (by rw[← HL.out];exact g)⟩).symm)
   clear hall hlt
   go_wp2
   go_ret
   exact⟨by rw[← HE.out];rfl,hb⟩
theorem Zed {l:List Nd}(hc:Zt l=0): ∃(x:Nd) (ks:F),l=(F.cons x ks .nil).flat∧(F.cons x ks .nil).wf∧labT 0 (.cons x ks .nil) [0]=labB l∧effT 0 (.cons x ks .nil) [0]=effB l:=by
 obtain⟨h1,h2,f,rfl,fn,fw,ht⟩:=ZjR hc
 cases f with
 |nil=>simp[F.num] at fn
 |cons x ks r=>
  obtain rfl:r= .nil:=by
   cases r with
   |nil=>rfl
   |cons _ _ _=>simp[F.num] at fn
  have e:=Zac (.cons x ks .nil) [0] [] [] fw rfl
  rw[List.append_nil,List.append_nil] at e
  have e':sds (F.cons x ks .nil).flat [0]=(F.cons x ks .nil).sd [0]:=by rw[e];exact List.append_nil _
  refine⟨x,ks,rfl,fw,?_,?_⟩
  ·unfold labT labB
   rw[if_pos hc,e']
  ·unfold effT effB
   rw[if_pos hc,e']
theorem U7 (A:Option Addr)(n c:Nat)(l:List Nd)(w:World)(hr:Ns w w.heap.size A n c l)(hf: ∀x∈l,x.Fits):
  Calls Tryz.prog 32 #[.slice A n c] w fun e w'=> ∃v u,e= .returned (.tuple #[v,u])∧Told w w' v u (labB l) (effB l):=by
 have hcheck:=VO A n c l w hr hf
 have HR:=Hd hr
 clear hf
 by_cases hc:Zt l=0
 case neg=>
  have hne:((Zt l:Int) !=0)=true:=by simp;omega
  have HL:Hid (labB l= []∧effB l= []):=Hd (by unfold labB effB;rw[if_neg hc,if_neg hc];exact⟨rfl,rfl⟩)
  generalize Zt l=r at*
  go_enter Tryz.func32,Tryz.ntmps32
  go_wp2_with fail
  refine hcheck.mono ?_
  rintro e w1 ⟨rfl,hb1⟩
  go_wp2
  refine bodyPost_ret (v:= .tuple #[.slice none 0 0,.slice none 0 0]) (by simp[results,Tryz.results32,go_sem]) rfl ⟨_,_,rfl,?_⟩
  rw[HL.out.1,HL.out.2]
  exact⟨World.ownsRow_nil _ _ _ _,World.ownsRow_nil _ _ _ _,(fun _ e=>by cases e),hb1⟩
 obtain⟨x,ks,e1,hw,e3,e4⟩:=Zed hc
 have hl:=VV hc
 have hn:n≤1000:=by rw[← hr.len];omega
 rw[hc] at hcheck
 have HB:=fun (W:World) (hb:Below w.heap.size w W)=>Zy A n c w.heap.size l hn _ x ks 0 0 W [] lR hw (by rw[List.drop_zero, ← e1,List.append_nil]) (by omega) (HR.out.below hb) hb.size
 have HB:=Hd HB
 rw[e3,e4] at HB
 clear hc hr e1 hw e3 e4 hl
 go_enter Tryz.func32,Tryz.ntmps32
 go_wp2_with fail
 refine hcheck.mono ?_
 rintro e w1 ⟨rfl,hb1⟩
 clear hcheck
 go_wp2_with fail
 refine(HB.out w1 hb1).mono ?_
 rintro e w2 ⟨v,u,rfl,hT⟩
 go_wp2
 refine bodyPost_ret (v:= .tuple #[v,u]) (by simp[results,Tryz.results32,go_sem]) rfl ⟨_,_,rfl,Yd hT.o2 hb1.size,Yd hT.o3 hb1.size,hT.ap,hb1.trans (hT.bel.mono hb1.size)⟩
end Go.Proofs.YtfmpecnkkbpdlaaGreatDoor
