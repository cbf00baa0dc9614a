import Derived.Test.YtfmpecnkkbpdlaaGreatDoorNdMay
import Derived.Test.YtfmpecnkkbpdlaaGreatDoorRefName
set_option maxRecDepth 100000
set_option maxHeartbeats 4000000
namespace Go.Proofs.YtfmpecnkkbpdlaaGreatDoor
open Go.RowKit
theorem Zej (x:Nd)(w:World)(hx:x.Fits):Calls Tryz.prog 216 #[ndv x] w fun e w'=>e= .returned (.bool x.may)∧Below w.heap.size w w':=by
 have hs:=hx.s1
 clear hx
 obtain⟨k,m,s,n,lv,ln,pv,pn,ev,en⟩:=x
 have HM:Hid (Nd.may ⟨k,m,s,n,lv,ln,pv,pn,ev,en⟩=_):=Hd rfl
 have hs:s.length≤9223372036854775807:=hs
 have hname:=fun W=>Zb7 s W (by omega)
 have hl0:=Vt s []
 have hl1:=Vt s [98,111,111,108]
 have hl2:=Vt s [105,110,116]
 have hl3:=Vt s [116,101,120,116]
 have hl4:=Vt s [117,110,105,116]
 generalize hM:Nd.may ⟨k,m,s,n,lv,ln,pv,pn,ev,en⟩=r
 have HR:=Hd hM
 clear hM HM hs
 unfold Nd.may Nd.still Nd.plain ZbR at HR
 show Calls Tryz.prog 216 #[nda k m (str s) n lv ln pv pn ev en] w _
 simp only at HR
 generalize decide (s= [])=b0 at*
 generalize decide (s= [98,111,111,108])=d1 at*
 generalize decide (s= [105,110,116])=d2 at*
 generalize decide (s= [116,101,120,116])=d3 at*
 generalize decide (s= [117,110,105,116])=d4 at*
 generalize nameB s=b2 at*
 generalize str s=S at*
 have hb0:Below w.heap.size w (w.alloc (.cells #[.int .u8 k,.int .i64 m,.string S,.int .i64 n,.bool lv,.int .u64 ln,.bool pv,.int .u64 pn,.bool ev,.int .u64 en] 77)):=bA
 go_enter Tryz.func216,Tryz.ntmps216
 by_cases k5:k=5
 ·subst k5
  simp only[show ¬(5:Int)=1 by omega,show ¬(5:Int)=2 by omega,show ¬(5:Int)=3 by omega,show ¬(5:Int)=4 by omega,if_false,if_true] at HR
  cases b0
  ·by_cases hm:m=0
   ·subst hm
    by_cases hn:n=2
    ·subst hn
     go_wp2
     all_goals(
      go_ret
      refine⟨?_,hb0⟩
      rw[← HR.out]
      first|rfl|(simp;done)|(simp[*];done)|(simp;omega))
    ·have hn':(n==2)=false:=by simpa using hn
     go_wp2
     all_goals(
      go_ret
      refine⟨?_,hb0⟩
      rw[← HR.out]
      first|rfl|(simp;done)|(simp[*];done)|(simp;omega))
   ·have hm':(m==0)=false:=by simpa using hm
    go_wp2
    all_goals(
     go_ret
     refine⟨?_,hb0⟩
     rw[← HR.out]
     first|rfl|(simp;done)|(simp[*];done)|(simp;omega))
  ·by_cases hm:m=0
   ·subst hm
    by_cases hn:n=2
    ·subst hn
     go_wp2
     all_goals(
      go_ret
      refine⟨?_,hb0⟩
      rw[← HR.out]
      first|rfl|(simp;done)|(simp[*];done)|(simp;omega))
    ·have hn':(n==2)=false:=by simpa using hn
     go_wp2
     all_goals(
      go_ret
      refine⟨?_,hb0⟩
      rw[← HR.out]
      first|rfl|(simp;done)|(simp[*];done)|(simp;omega))
   ·have hm':(m==0)=false:=by simpa using hm
    go_wp2
    all_goals(
     go_ret
     refine⟨?_,hb0⟩
     rw[← HR.out]
     first|rfl|(simp;done)|(simp[*];done)|(simp;omega))
 have k5':(k !=5)=true:=by simpa using k5
 have k5'':(k==5)=false:=by simpa using k5
 by_cases hz:(!pv && decide (pn=0) && (!ev && decide (en=0)))=true
 ·simp only[Bool.and_eq_true,Bool.not_eq_true',decide_eq_true_eq] at hz
  obtain⟨⟨rfl,rfl⟩,rfl,rfl⟩:=hz
  simp only[Bool.not_false,decide_true,Bool.and_true] at HR
  by_cases k1:k=1
  ·subst k1
   simp only[if_true] at HR
   have five:d1=true∨(d1=false∧d2=true)∨(d1=false∧d2=false∧d3=true)∨(d1=false∧d2=false∧d3=false):=by
    cases d1 <;> cases d2 <;> cases d3 <;> simp
   cases b0
   ·by_cases hm:m=0
    ·subst hm
     by_cases hn:n=0
     ·subst hn
      rcases five with rfl|⟨rfl,rfl⟩|⟨rfl,rfl,rfl⟩|⟨rfl,rfl,rfl⟩
      all_goals(
       go_wp2
       all_goals(
        go_ret
        refine⟨?_,hb0⟩
        rw[← HR.out]
        first|rfl|(simp;done)|(simp[*];done)|(simp;omega)))
     ·have hn':(n==0)=false:=by simpa using hn
      rcases five with rfl|⟨rfl,rfl⟩|⟨rfl,rfl,rfl⟩|⟨rfl,rfl,rfl⟩
      all_goals(
       go_wp2
       all_goals(
        go_ret
        refine⟨?_,hb0⟩
        rw[← HR.out]
        first|rfl|(simp;done)|(simp[*];done)|(simp;omega)))
    ·have hm':(m==0)=false:=by simpa using hm
     rcases five with rfl|⟨rfl,rfl⟩|⟨rfl,rfl,rfl⟩|⟨rfl,rfl,rfl⟩
     all_goals(
      go_wp2
      all_goals(
       go_ret
       refine⟨?_,hb0⟩
       rw[← HR.out]
       first|rfl|(simp;done)|(simp[*];done)|(simp;omega)))
   ·by_cases hm:m=0
    ·subst hm
     by_cases hn:n=0
     ·subst hn
      rcases five with rfl|⟨rfl,rfl⟩|⟨rfl,rfl,rfl⟩|⟨rfl,rfl,rfl⟩
      all_goals(
       go_wp2
       all_goals(
        go_ret
        refine⟨?_,hb0⟩
        rw[← HR.out]
        first|rfl|(simp;done)|(simp[*];done)|(simp;omega)))
     ·have hn':(n==0)=false:=by simpa using hn
      rcases five with rfl|⟨rfl,rfl⟩|⟨rfl,rfl,rfl⟩|⟨rfl,rfl,rfl⟩
      all_goals(
       go_wp2
       all_goals(
        go_ret
        refine⟨?_,hb0⟩
        rw[← HR.out]
        first|rfl|(simp;done)|(simp[*];done)|(simp;omega)))
    ·have hm':(m==0)=false:=by simpa using hm
     rcases five with rfl|⟨rfl,rfl⟩|⟨rfl,rfl,rfl⟩|⟨rfl,rfl,rfl⟩
     all_goals(
      go_wp2
      all_goals(
       go_ret
       refine⟨?_,hb0⟩
       rw[← HR.out]
       first|rfl|(simp;done)|(simp[*];done)|(simp;omega)))
  have k1':(k==1)=false:=by simpa using k1
  rw[if_neg k1] at HR
  by_cases k2:k=2
  ·subst k2
   simp only[if_true] at HR
   cases b2
   ·go_wp2_with fail
    all_goals(
     refine(hname _).mono ?_
     rintro e w1 ⟨rfl,rfl⟩
     go_wp2_with fail
     all_goals(
      go_ret
      refine⟨?_,hb0⟩
      rw[← HR.out]
      first|rfl|(simp;done)|(simp[*];done)|(simp;omega)))
   ·by_cases hm0:0≤m
    ·by_cases hm1:m≤16
     ·by_cases hn:n=0
      ·subst hn
       go_wp2_with fail
       all_goals(
        refine(hname _).mono ?_
        rintro e w1 ⟨rfl,rfl⟩
        go_wp2_with fail
        all_goals(
         go_ret
         refine⟨?_,hb0⟩
         rw[← HR.out]
         first|rfl|(simp;done)|(simp[*];done)|(simp;omega)))
      ·have hn':(n==0)=false:=by simpa using hn
       go_wp2_with fail
       all_goals(
        refine(hname _).mono ?_
        rintro e w1 ⟨rfl,rfl⟩
        go_wp2_with fail
        all_goals(
         go_ret
         refine⟨?_,hb0⟩
         rw[← HR.out]
         first|rfl|(simp;done)|(simp[*];done)|(simp;omega)))
     ·go_wp2_with fail
      all_goals(
       refine(hname _).mono ?_
       rintro e w1 ⟨rfl,rfl⟩
       go_wp2_with fail
       all_goals(
        go_ret
        refine⟨?_,hb0⟩
        rw[← HR.out]
        first|rfl|(simp;done)|(simp[*];done)|(simp;omega)))
    ·go_wp2_with fail
     all_goals(
      refine(hname _).mono ?_
      rintro e w1 ⟨rfl,rfl⟩
      go_wp2_with fail
      all_goals(
       go_ret
       refine⟨?_,hb0⟩
       rw[← HR.out]
       first|rfl|(simp;done)|(simp[*];done)|(simp;omega)))
  have k2':(k==2)=false:=by simpa using k2
  rw[if_neg k2] at HR
  by_cases k3:k=3
  ·subst k3
   simp only[if_true] at HR
   cases b0
   ·by_cases hm:m=0
    ·subst hm
     by_cases hn:0≤n
     ·go_wp2
      all_goals(
       go_ret
       refine⟨?_,hb0⟩
       rw[← HR.out]
       first|rfl|(simp;done)|(simp[*];done)|(simp;omega))
     ·go_wp2
      all_goals(
       go_ret
       refine⟨?_,hb0⟩
       rw[← HR.out]
       first|rfl|(simp;done)|(simp[*];done)|(simp;omega))
    ·have hm':(m==0)=false:=by simpa using hm
     go_wp2
     all_goals(
      go_ret
      refine⟨?_,hb0⟩
      rw[← HR.out]
      first|rfl|(simp;done)|(simp[*];done)|(simp;omega))
   ·by_cases hm:m=0
    ·subst hm
     by_cases hn:0≤n
     ·go_wp2
      all_goals(
       go_ret
       refine⟨?_,hb0⟩
       rw[← HR.out]
       first|rfl|(simp;done)|(simp[*];done)|(simp;omega))
     ·go_wp2
      all_goals(
       go_ret
       refine⟨?_,hb0⟩
       rw[← HR.out]
       first|rfl|(simp;done)|(simp[*];done)|(simp;omega))
    ·have hm':(m==0)=false:=by simpa using hm
     go_wp2
     all_goals(
      go_ret
      refine⟨?_,hb0⟩
      rw[← HR.out]
      first|rfl|(simp;done)|(simp[*];done)|(simp;omega))
  have k3':(k==3)=false:=by simpa using k3
  rw[if_neg k3] at HR
  by_cases k4:k=4
  ·subst k4
   simp only[if_true] at HR
   cases b0
   ·by_cases hm:m=0
    ·subst hm
     by_cases hn:n=1
     ·subst hn
      go_wp2
      all_goals(
       go_ret
       refine⟨?_,hb0⟩
       rw[← HR.out]
       first|rfl|(simp;done)|(simp[*];done)|(simp;omega))
     ·have hn':(n==1)=false:=by simpa using hn
      go_wp2
      all_goals(
       go_ret
       refine⟨?_,hb0⟩
       rw[← HR.out]
       first|rfl|(simp;done)|(simp[*];done)|(simp;omega))
    ·have hm':(m==0)=false:=by simpa using hm
     go_wp2
     all_goals(
      go_ret
      refine⟨?_,hb0⟩
      rw[← HR.out]
      first|rfl|(simp;done)|(simp[*];done)|(simp;omega))
   ·by_cases hm:m=0
    ·subst hm
     by_cases hn:n=1
     ·subst hn
      go_wp2
      all_goals(
       go_ret
       refine⟨?_,hb0⟩
       rw[← HR.out]
       first|rfl|(simp;done)|(simp[*];done)|(simp;omega))
     ·have hn':(n==1)=false:=by simpa using hn
      go_wp2
      all_goals(
       go_ret
       refine⟨?_,hb0⟩
       rw[← HR.out]
       first|rfl|(simp;done)|(simp[*];done)|(simp;omega))
    ·have hm':(m==0)=false:=by simpa using hm
     go_wp2
     all_goals(
      go_ret
      refine⟨?_,hb0⟩
      rw[← HR.out]
      first|rfl|(simp;done)|(simp[*];done)|(simp;omega))
  have k4':(k==4)=false:=by simpa using k4
  rw[if_neg k4,if_neg k5] at HR
  cases b0
  ·by_cases hm:m=0
   ·subst hm
    go_wp2
    all_goals(
     go_ret
     refine⟨?_,hb0⟩
     rw[← HR.out]
     first|rfl|(simp;done)|(simp[*];done)|(simp;omega))
   ·have hm':(m==0)=false:=by simpa using hm
    go_wp2
    all_goals(
     go_ret
     refine⟨?_,hb0⟩
     rw[← HR.out]
     first|rfl|(simp;done)|(simp[*];done)|(simp;omega))
  ·by_cases hm:m=0
   ·subst hm
    go_wp2
    all_goals(
     go_ret
     refine⟨?_,hb0⟩
     rw[← HR.out]
     first|rfl|(simp;done)|(simp[*];done)|(simp;omega))
   ·have hm':(m==0)=false:=by simpa using hm
    go_wp2
    all_goals(
     go_ret
     refine⟨?_,hb0⟩
     rw[← HR.out]
     first|rfl|(simp;done)|(simp[*];done)|(simp;omega))
 ·have hr:r=false:=by
   rw[← HR.out]
   rw[Bool.not_eq_true] at hz
   rw[if_neg k5,hz]
   simp
  subst hr
  clear HR
  by_cases h1:pn=0 <;> by_cases h2:en=0 <;> cases pv <;> cases ev <;> first|(simp[*] at hz;done)|skip
  all_goals(
   try subst h1
   try subst h2
   clear hz
   go_wp2
   go_ret
   exact⟨rfl,hb0⟩)
end Go.Proofs.YtfmpecnkkbpdlaaGreatDoor
