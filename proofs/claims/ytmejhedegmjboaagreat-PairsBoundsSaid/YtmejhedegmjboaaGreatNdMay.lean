import Derived.Test.YtmejhedegmjboaaGreatNdFun
set_option maxRecDepth 100000
set_option maxHeartbeats 4000000
namespace Go.Proofs.YtmejhedegmjboaaGreat
open Go.RowKit
theorem ZgD (k m:Int)(s:ByteArray)(n:Int)(lv:Bool)(ln:Int)(pv:Bool)(pn:Int)(ev:Bool)(en:Int)(w:World):
  Calls Tryz.prog 159 #[nda k m s n lv ln pv pn ev en] w fun e w'=>e= .returned (.bool (!pv && decide (pn=0) && (!ev && decide (en=0))))∧Below w.heap.size w w':=by
 go_enter Tryz.func159,Tryz.ntmps159
 by_cases h1:pn=0 <;> by_cases h2:en=0 <;> cases pv <;> cases ev
 all_goals(
 try subst h1
 try subst h2
 go_wp2
 go_ret
 refine⟨?_,bA⟩
 simp[*])
theorem ZbC (k m:Int)(s:List UInt8)(n:Int)(lv:Bool)(ln:Int)(pv:Bool)(pn:Int)(ev:Bool)(en:Int)(w:World):
  Calls Tryz.prog 160 #[nda k m (str s) n lv ln pv pn ev en] w fun e w'=>e= .returned (.bool (decide (s= []) && decide (m=0)))∧Below w.heap.size w w':=by
 have h1:=Yt s []
 go_enter Tryz.func160,Tryz.ntmps160
 generalize str s=S at*
 generalize decide (s= [])=b1 at*
 by_cases h2:m=0 <;> cases b1
 all_goals(
 try subst h2
 go_wp2
 go_ret
 refine⟨?_,bA⟩
 simp[*])
structure Nd.Fits (x:Nd):Prop where
 k0:0≤x.k
 k1:x.k≤255
 m0: -9223372036854775808≤x.m
 m1:x.m≤9223372036854775807
 n0: -9223372036854775808≤x.n
 n1:x.n≤9223372036854775807
 s1:x.s.length≤9223372036854775807
theorem Zk2 {w w':World}{g:Nat}{c0 c1 c2 c3 c4 c5 c6 c7 c8 c9:Value}{t:TypeId}(h:w.heap[g]?=some (.cells #[c0,c1,c2,c3,c4,c5,c6,c7,c8,c9] t (0,0)))(hb:Below w.heap.size w w'):
  w'.cell? ⟨g,0,none⟩=some c0∧w'.cell? ⟨g,1,none⟩=some c1∧w'.cell? ⟨g,2,none⟩=some c2∧w'.cell? ⟨g,3,none⟩=some c3∧w'.cell? ⟨g,4,none⟩=some c4∧
  w'.cell? ⟨g,5,none⟩=some c5∧w'.cell? ⟨g,6,none⟩=some c6∧w'.cell? ⟨g,7,none⟩=some c7∧w'.cell? ⟨g,8,none⟩=some c8∧w'.cell? ⟨g,9,none⟩=some c9:=by
 have h':=(hb.block g (Zh h)).trans h
 refine⟨?_,?_,?_,?_,?_,?_,?_,?_,?_,?_⟩ <;> (rw[Zb h'];rfl)
theorem ZgE (x:Nd)(w:World)(hx:x.Fits):Calls Tryz.prog 137 #[ndv x] w fun e w'=>e= .returned (.bool x.may)∧Below w.heap.size w w':=by
 have hs:=hx.s1
 clear hx
 obtain⟨k,m,s,n,lv,ln,pv,pn,ev,en⟩:=x
 have HM:Hid (Nd.may ⟨k,m,s,n,lv,ln,pv,pn,ev,en⟩=_):=Hd rfl
 have hs:s.length≤9223372036854775807:=hs
 have hbase:=fun W=>Zbw s W
 have hname:=fun W=>name_any s W (by omega)
 have hst:=fun W=>ZgD k m (str s) n lv ln pv pn ev en W
 have hpl:=fun W=>ZbC k m s n lv ln pv pn ev en W
 have HBN:Hid (Zcd s=true→nameB s=true):=Hd Zgm
 generalize hM:Nd.may ⟨k,m,s,n,lv,ln,pv,pn,ev,en⟩=r
 have HR:=Hd hM
 clear hM HM hs
 unfold Nd.may Nd.still Nd.plain at HR
 show Calls Tryz.prog 137 #[nda k m (str s) n lv ln pv pn ev en] w _
 simp only at HR
 generalize (!pv && decide (pn=0) && (!ev && decide (en=0)))=st at*
 generalize decide (s= [])=b0 at*
 generalize Zcd s=b1 at*
 generalize nameB s=b2 at*
 generalize str s=S at*
 have hb0:Below w.heap.size w (w.alloc (.cells #[.int .u8 k,.int .i64 m,.string S,.int .i64 n,.bool lv,.int .u64 ln,.bool pv,.int .u64 pn,.bool ev,.int .u64 en] 116)):=bA
 have hat: ∀(W:World),Below (w.alloc (.cells #[.int .u8 k,.int .i64 m,.string S,.int .i64 n,.bool lv,.int .u64 ln,.bool pv,.int .u64 pn,.bool ev,.int .u64 en] 116)).heap.size (w.alloc (.cells #[.int .u8 k,.int .i64 m,.string S,.int .i64 n,.bool lv,.int .u64 ln,.bool pv,.int .u64 pn,.bool ev,.int .u64 en] 116)) W→_:=fun W hb=>Zk2 (heap_alloc_new w (.cells #[.int .u8 k,.int .i64 m,.string S,.int .i64 n,.bool lv,.int .u64 ln,.bool pv,.int .u64 pn,.bool ev,.int .u64 en] 116)) hb
 have hlast: ∀(W W':World),Below w.heap.size w W→Below W.heap.size W W'→Below w.heap.size w W':=fun W W' h1 h2=>h1.trans (h2.mono h1.size)
 go_enter Tryz.func137,Tryz.ntmps137
 by_cases k1:k=1
 ·(
 subst k1
 simp only[if_true] at HR
 cases b1 with
 |false=>(
 go_wp2_with fail
 refine(hbase _).mono ?_
 rintro e w1 ⟨rfl,rfl⟩
 go_wp2_with fail
 go_ret
 exact⟨by rw[← HR.out];rfl,hb0⟩)
 |true=>(
 by_cases hm:m=0
 ·(
 subst hm
 have hb2:=HBN.out rfl
 subst hb2
 by_cases hn:n=0
 ·(
 subst hn
 go_wp2_with fail
 refine(hbase _).mono ?_
 rintro e w1 ⟨rfl,rfl⟩
 go_wp2_with fail
 refine(hname _).mono ?_
 rintro e w1 ⟨rfl,rfl⟩
 go_wp2_with fail
 refine(hst _).mono ?_
 rintro e w1 ⟨rfl,hb1⟩
 have hb:=hlast _ _ hb0 hb1
 go_wp2_with fail
 go_ret
 exact⟨by rw[← HR.out];rfl,hb⟩)
 ·(
 have hn':(n==0)=false:=by simpa using hn
 go_wp2_with fail
 refine(hbase _).mono ?_
 rintro e w1 ⟨rfl,rfl⟩
 go_wp2_with fail
 refine(hname _).mono ?_
 rintro e w1 ⟨rfl,rfl⟩
 go_wp2_with fail
 go_ret
 exact⟨by rw[← HR.out];simp[hn],hb0⟩))
 ·(
 have hm':(m !=0)=true:=by simpa using hm
 go_wp2_with fail
 refine(hbase _).mono ?_
 rintro e w1 ⟨rfl,rfl⟩
 go_wp2_with fail
 go_ret
 exact⟨by rw[← HR.out];simp[hm],hb0⟩)))
 have k1':(k==1)=false:=by simpa using k1
 rw[if_neg k1] at HR
 by_cases k2:k=2
 ·(
 subst k2
 simp only[if_true] at HR
 cases b2 with
 |false=>(
 go_wp2_with fail
 refine(hname _).mono ?_
 rintro e w1 ⟨rfl,rfl⟩
 go_wp2_with fail
 go_ret
 exact⟨by rw[← HR.out];rfl,hb0⟩)
 |true=>(
 by_cases hm0:0≤m
 ·(
 by_cases hm1:m≤16
 ·(
 by_cases hn:n=0
 ·(
 subst hn
 go_wp2_with fail
 refine(hname _).mono ?_
 rintro e w1 ⟨rfl,rfl⟩
 go_wp2_with fail
 refine(hst _).mono ?_
 rintro e w1 ⟨rfl,hb1⟩
 have hb:=hlast _ _ hb0 hb1
 go_wp2_with fail
 go_ret
 exact⟨by rw[← HR.out];simp[hm0,hm1],hb⟩)
 ·(
 have hn':(n==0)=false:=by simpa using hn
 go_wp2_with fail
 refine(hname _).mono ?_
 rintro e w1 ⟨rfl,rfl⟩
 go_wp2_with fail
 go_ret
 exact⟨by rw[← HR.out];simp[hn],hb0⟩))
 ·(
 go_wp2_with fail
 refine(hname _).mono ?_
 rintro e w1 ⟨rfl,rfl⟩
 go_wp2_with fail
 go_ret
 exact⟨by rw[← HR.out,decide_eq_false (p:=m≤16) (by omega)];simp,hb0⟩))
 ·(
 go_wp2_with fail
 refine(hname _).mono ?_
 rintro e w1 ⟨rfl,rfl⟩
 go_wp2_with fail
 go_ret
 exact⟨by rw[← HR.out,decide_eq_false (p:=0≤m) (by omega)];simp,hb0⟩)))
 have k2':(k==2)=false:=by simpa using k2
 rw[if_neg k2] at HR
 by_cases k4:k=4
 ·(
 subst k4
 simp only[show ¬(4:Int)=3 by omega,if_false,if_true] at HR
 by_cases hn:n=1
 ·(
 subst hn
 cases hb:(b0 && decide (m=0)) with
 |false=>(
 rw[hb] at hpl HR
 clear hb
 go_wp2_with fail
 refine(hpl _).mono ?_
 rintro e w1 ⟨rfl,hb1⟩
 have hb:=hlast _ _ hb0 hb1
 go_wp2_with fail
 go_ret
 exact⟨by rw[← HR.out];rfl,hb⟩)
 |true=>(
 rw[hb] at hpl HR
 clear hb
 go_wp2_with fail
 refine(hpl _).mono ?_
 rintro e w1 ⟨rfl,hb1⟩
 obtain⟨e0,e1,e2,e3,e4,e5,e6,e7,e8,e9⟩:=hat _ hb1
 have hb:=hlast _ _ hb0 hb1
 go_wp2_with fail
 refine(hst _).mono ?_
 rintro e w2 ⟨rfl,hb2⟩
 have hb3:=hlast _ _ hb hb2
 go_wp2_with fail
 go_ret
 exact⟨by rw[← HR.out];rfl,hb3⟩))
 ·have hn':(n !=1)=true:=by simpa using hn
  go_wp2_with fail
  go_ret
  exact⟨by rw[← HR.out];simp[hn],hb0⟩)
 have k4':(k==4)=false:=by simpa using k4
 by_cases k3:k=3
 ·(
 subst k3
 simp only[if_true] at HR
 cases hb:(b0 && decide (m=0)) with
 |false=>(
 rw[hb] at hpl HR
 clear hb
 go_wp2_with fail
 refine(hpl _).mono ?_
 rintro e w1 ⟨rfl,hb1⟩
 have hb:=hlast _ _ hb0 hb1
 go_wp2_with fail
 go_ret
 exact⟨by rw[← HR.out];rfl,hb⟩)
 |true=>(
 rw[hb] at hpl HR
 clear hb
 by_cases hn:0≤n
 ·(
 go_wp2_with fail
 refine(hpl _).mono ?_
 rintro e w1 ⟨rfl,hb1⟩
 obtain⟨e0,e1,e2,e3,e4,e5,e6,e7,e8,e9⟩:=hat _ hb1
 have hb:=hlast _ _ hb0 hb1
 go_wp2_with fail
 refine(hst _).mono ?_
 rintro e w2 ⟨rfl,hb2⟩
 have hb3:=hlast _ _ hb hb2
 go_wp2_with fail
 go_ret
 exact⟨by rw[← HR.out,decide_eq_true hn];rfl,hb3⟩)
 ·(
 go_wp2_with fail
 refine(hpl _).mono ?_
 rintro e w1 ⟨rfl,hb1⟩
 obtain⟨e0,e1,e2,e3,e4,e5,e6,e7,e8,e9⟩:=hat _ hb1
 have hb:=hlast _ _ hb0 hb1
 go_wp2_with fail
 go_ret
 exact⟨by rw[← HR.out,decide_eq_false (p:=0≤n) (by omega)];rfl,hb⟩)))
 have k3':(k==3)=false:=by simpa using k3
 rw[if_neg k3,if_neg k4] at HR
 by_cases k5:k=5
 ·(
 subst k5
 simp only[if_true] at HR
 cases hb:(b0 && decide (m=0)) with
 |false=>(
 rw[hb] at hpl HR
 clear hb
 go_wp2_with fail
 refine(hpl _).mono ?_
 rintro e w1 ⟨rfl,hb1⟩
 have hb:=hlast _ _ hb0 hb1
 go_wp2_with fail
 go_ret
 exact⟨by rw[← HR.out];rfl,hb⟩)
 |true=>(
 rw[hb] at hpl HR
 clear hb
 by_cases hn:n=2
 ·(
 subst hn
 go_wp2_with fail
 refine(hpl _).mono ?_
 rintro e w1 ⟨rfl,hb1⟩
 obtain⟨e0,e1,e2,e3,e4,e5,e6,e7,e8,e9⟩:=hat _ hb1
 have hb:=hlast _ _ hb0 hb1
 go_wp2_with fail
 go_ret
 exact⟨by rw[← HR.out];rfl,hb⟩)
 ·(
 have hn':(n==2)=false:=by simpa using hn
 go_wp2_with fail
 refine(hpl _).mono ?_
 rintro e w1 ⟨rfl,hb1⟩
 obtain⟨e0,e1,e2,e3,e4,e5,e6,e7,e8,e9⟩:=hat _ hb1
 have hb:=hlast _ _ hb0 hb1
 go_wp2_with fail
 go_ret
 exact⟨by rw[← HR.out];simp[hn],hb⟩)))
 have k5':(k==5)=false:=by simpa using k5
 rw[if_neg k5] at HR
 go_wp2
 go_ret
 exact⟨by rw[← HR.out];rfl,hb0⟩
end Go.Proofs.YtmejhedegmjboaaGreat
