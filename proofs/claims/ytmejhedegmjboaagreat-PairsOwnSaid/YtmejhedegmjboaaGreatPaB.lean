/- What between, and equality of terms, tell. Condition: slices can be read. -/
import Derived.Test.YtmejhedegmjboaaGreatPaU
namespace Go.Proofs.YtmejhedegmjboaaGreat.I
open Go.RowKit PaC
def RowsU (S:Bo.Sr)(z:Sen)(go tn:Nat)(W:World):Prop:=
 ∀k < tn,∃b c,W.cell? ⟨go,k,none⟩=some (.slice (some ⟨b,0,none⟩) tn c)∧ ∀j < tn,W.cell? ⟨b,j,none⟩=some (.bool (undB S z k j))
theorem UnI.rows {S:Bo.Sr}{z:Sen}{w3:World}{go tn:Nat}{us:List Value}{W:World}(h:UnI S z w3 go tn tn 0 none 0 0 us W):RowsU S z go tn W:=fun k hk=>by
 obtain⟨b,c,e1,-,-,-,e5⟩:=h.done k hk
 refine⟨b,c,?_,e5⟩
 rw[cell_blk h.g]
 simp only[List.getElem?_toArray]
 exact e1
theorem RowsU.keep {S:Bo.Sr}{z:Sen}{go tn:Nat}{W W':World}(h:RowsU S z go tn W)(hb:Below W.heap.size W W'):RowsU S z go tn W':=fun k hk=>by
 obtain⟨b,c,e1,e2⟩:=h k hk
 exact⟨b,c,cell_old e1 hb,fun j hj=>cell_old (e2 j hj) hb⟩
noncomputable def btwB (S:Bo.Sr) (z:Sen) (tn v w:Nat):Bool:=(List.range tn).any fun t=>undB S z v t && undB S z t w
theorem btw_yes {S:Bo.Sr}{z:Sen}{tn v w t:Nat}(h:t < tn)(e:(undB S z v t && undB S z t w)=true):btwB S z tn v w=true:=by
 unfold btwB
 rw[List.any_eq_true]
 exact⟨t,List.mem_range.2 h,e⟩
theorem btw_no {S:Bo.Sr}{z:Sen}{tn v w:Nat}(h: ∀t < tn,(undB S z v t && undB S z t w)=false):btwB S z tn v w=false:=by
 unfold btwB
 rw[List.any_eq_false]
 intro t ht
 rw[h t (List.mem_range.1 ht)]
 simp
theorem covB_eq (S:Bo.Sr)(z:Sen)(m v w:Nat):covB S z m v w=(undB S z v w && !btwB S z m v w):=rfl
set_option maxRecDepth 100000 in
set_option maxHeartbeats 4000000 in
theorem between_any (S:Bo.Sr)(z:Sen)(go tn v u:Nat)(w:World)(h:RowsU S z go tn w)(hv:v < tn)(hu:u < tn)(ht:tn≤60000)(res:Bool)(hres:btwB S z tn v u=res):
  Calls Tryz.prog 34 #[.slice (some ⟨go,0,none⟩) tn tn,.int .i64 (v:Int),.int .i64 (u:Int)] w fun e w'=>e= .returned (.bool res)∧w=w':=by
 obtain⟨b,c,e1,e2⟩:=h v hv
 have HH:=Lib.hid h
 have HE:=Lib.hid e2
 have HT:=Lib.hid ht
 have HU:=Lib.hid hu
 have HR:=Lib.hid hres
 have hvn:(v:Int) < (tn:Int):=by omega
 have hun:(u:Int) < (tn:Int):=by omega
 have hv9:v≤60000:=by omega
 have hu9:u≤60000:=by omega
 clear h hv hu ht e2 hres
 go_enter Tryz.func34,Tryz.ntmps34
 go_wp2
 clear e1
 go_loopw [14] (fun v14 wr=> ∃i:Nat,v14= .int .i64 (i:Int)∧i≤tn∧(∀t < i,(undB S z v t && undB S z t u)=false)∧w=wr) (fun v14 _=>tn - (intOf v14).toNat)
 case atStart=>exact⟨0,rfl,Nat.zero_le _,fun t h=>absurd h (Nat.not_lt_zero t),rfl⟩
 case round=>
  obtain⟨i,rfl,hi,hall,rfl⟩:=hrel
  by_cases hlt:i < tn
  ·have m0:=HE.out i hlt
   obtain⟨b2,c2,r1,r2⟩:=HH.out i hlt
   have m1:=r2 u HU.out
   obtain⟨x,hx⟩: ∃x,undB S z v i=x:=⟨_,rfl⟩
   obtain⟨y,hy⟩: ∃y,undB S z i u=y:=⟨_,rfl⟩
   rw[hx] at m0
   rw[hy] at m1
   have HXY:Hid ((undB S z v i && undB S z i u)=(x && y)):=Lib.hid (by rw[hx,hy])
   have HALL:=Lib.hid hall
   have HLT:=Lib.hid hlt
   have hin:(i:Int) < (tn:Int):=by omega
   have hi9:i≤60000:=by have:=HT.out;omega
   have HNX:Hid ((x && y)=false→ ∀t < i+1,(undB S z v t && undB S z t u)=false):=Lib.hid fun e t ht=>by
    by_cases e':t=i
    ·subst e'
     rw[HXY.out]
     exact e
    ·exact HALL.out t (by omega)
   clear hi hall hlt hx hy r2
   cases x with
   |false=>
    have HN:=Lib.hid (HNX.out rfl)
    go_wp2_with fail
    go_roundw
    case rel=>exact⟨i+1,by go_num,HLT.out,HN.out,trivial⟩
    case measure=>
     have:=HLT.out
     simp[intOf]
     omega
   |true=>
    cases y with
    |false=>
     have HN:=Lib.hid (HNX.out rfl)
     go_wp2_with fail
     go_roundw
     case rel=>exact⟨i+1,by go_num,HLT.out,HN.out,trivial⟩
     case measure=>
      have:=HLT.out
      simp[intOf]
      omega
    |true=>
     obtain rfl:true=res:=(btw_yes HLT.out HXY.out).symm.trans HR.out
     go_wp2_with fail
     go_ret
     exact⟨rfl,rfl⟩
  ·obtain rfl:tn=i:=by omega
   obtain rfl:false=res:=(btw_no hall).symm.trans HR.out
   clear hi hall hlt
   go_wp2_with fail
   go_ret
   exact⟨rfl,rfl⟩
theorem tm_cases (a b:Tm):(a=b)∨(a.1=true∧b.1=false)∨(a.1=false∧b.1=true)∨(a.1=b.1∧a.2≠b.2):=by
 obtain⟨a1,a2⟩:=a
 obtain⟨b1,b2⟩:=b
 by_cases e:a2=b2
 ·subst e
  cases a1 <;> cases b1 <;> simp
 ·cases a1 <;> cases b1 <;> simp[e]
set_option maxRecDepth 100000 in
set_option maxHeartbeats 4000000 in
theorem equalT_any (A B:Option Addr)(n c n2 c2:Nat)(l l2:List Tm)(w:World)(h:Rs tmc 2 w w.heap.size A n c l)(h2:Rs tmc 2 w w.heap.size B n2 c2 l2)(hn:n≤60000)(res:Bool)(hres:decide (l=l2)=res):
  Calls Tryz.prog 30 #[.slice A n c,.slice B n2 c2] w fun e w'=>e= .returned (.bool res)∧Below w.heap.size w w':=by
 have HL:=Lib.hid h.len
 have HL2:=Lib.hid h2.len
 by_cases hne:n=n2
 case neg=>
  have g1:((n:Int) !=(n2:Int))=true:=by simp;omega
  obtain rfl:false=res:=by
   rw[← hres]
   symm
   apply decide_eq_false
   intro e
   have:=HL.out
   have:=HL2.out
   subst e
   omega
  clear h h2 hn hres hne
  go_enter Tryz.func30,Tryz.ntmps30
  go_wp2
  go_ret
  exact⟨rfl,Below.refl _ _⟩
 subst hne
 have g1:((n:Int) !=(n:Int))=false:=by simp
 have HH:=Lib.hid h
 have HH2:=Lib.hid h2
 have HN:=Lib.hid hn
 have HR:=Lib.hid hres
 clear h h2 hn hres
 go_enter Tryz.func30,Tryz.ntmps30
 go_wp2
 clear g1
 go_loopw [13] (fun v13 wr=> ∃i:Nat,v13= .int .i64 (i:Int)∧i≤n∧(∀j (q:j < i) (q1:j < l.length) (q2:j < l2.length),l[j]=l2[j])∧Below w.heap.size w wr) (fun v13 _=>n - (intOf v13).toNat)
 case atStart=>exact⟨0,rfl,Nat.zero_le _,fun j q=>absurd q (Nat.not_lt_zero j),Below.refl _ _⟩
 case round=>
  obtain⟨i,rfl,hi,hall,hb⟩:=hrel
  by_cases hlt:i < n
  ·have hil:i < l.length:=by have:=HL.out;omega
   have hil2:i < l2.length:=by have:=HL2.out;omega
   obtain⟨b1,o1,rfl,-,u0,u1⟩:=term_at (HH.out.at_size (Nat.le_refl _) hb) hil
   obtain⟨b2,o2,rfl,-,v0,v1⟩:=term_at (HH2.out.at_size (Nat.le_refl _) hb) hil2
   have HIL:=Lib.hid (And.intro hil hil2)
   obtain⟨t1,e1⟩: ∃t,l[i]=t:=⟨_,rfl⟩
   obtain⟨t2,e2⟩: ∃t,l2[i]=t:=⟨_,rfl⟩
   rw[e1] at u0 u1
   rw[e2] at v0 v1
   have HE:Hid (l[i]=t1∧l2[i]=t2):=Lib.hid ⟨e1,e2⟩
   have HALL:=Lib.hid hall
   have HLT:=Lib.hid hlt
   have HB:=Lib.hid hb
   have hin:(i:Int) < (n:Int):=by omega
   have hi9:i≤60000:=by have:=HN.out;omega
   have HNO:Hid (t1≠t2→res=false):=Lib.hid fun e=>by
    rw[← HR.out]
    apply decide_eq_false
    intro e'
    subst e'
    exact e (HE.out.1.symm.trans HE.out.2)
   have HYES:Hid (t1=t2→ ∀j (q:j < i+1) (q1:j < l.length) (q2:j < l2.length),l[j]=l2[j]):=Lib.hid fun e j q q1 q2=>by
    by_cases e':j=i
    ·subst e'
     rw[HE.out.1,HE.out.2,e]
    ·exact HALL.out j (by omega) q1 q2
   clear hi hall hlt e1 e2 hb
   obtain⟨a,x⟩:=t1
   obtain⟨b,y⟩:=t2
   simp only at u0 u1 v0 v1
   rcases tm_cases (a,x) (b,y) with e|⟨e,e'⟩|⟨e,e'⟩|⟨e,e'⟩
   ·simp only[Prod.mk.injEq] at e
    obtain⟨rfl,rfl⟩:=e
    have HN:=Lib.hid (HYES.out rfl)
    have gx:(x==x)=true:=by simp
    have ga:(a==a)=true:=by simp
    go_wp2_with fail
    refine wp_region_ord [0,1,2,3,4,5,6,7,8] [] 9 (fun W=>W.cell? ⟨b1,o1+i*2,none⟩=some (.bool a)∧W.cell? ⟨b1,o1+i*2+1,none⟩=some (.int .u64 x)∧W.cell? ⟨b2,o2+i*2,none⟩=some (.bool a)∧W.cell? ⟨b2,o2+i*2+1,none⟩=some (.int .u64 x)) (by kernel_rfl) (by kernel_rfl) (by kernel_rfl) (by kernel_rfl) (fun _ _ _ _ _ h=>h) ⟨u0,u1,v0,v1⟩ ?_
    simp only[steps,List.getElem?_cons_zero,List.getElem?_cons_succ]
    repeat(first
     |(refine ord_no rfl ?_;simp only[Act.put,List.setIfInBounds_toArray,List.set_cons_zero,List.set_cons_succ])
     |(refine ord_yes (v:= ?_) rfl rfl ?_ ?_;rotate_left;(focus(rintro w' ⟨x0,x1,x2,x3⟩;go_simp;try with_reducible rfl));simp only[Act.put,List.setIfInBounds_toArray,List.set_cons_zero,List.set_cons_succ]))
    have HBD:=Lib.hid (HB.out.trans ((Below.refl wr.heap.size wr).drew.mono HB.out.size))
    clear u0 u1 v0 v1 HB
    generalize World.drew _=wd at*
    refine ord_end ?_
    go_wp2_with fail
    go_roundw
    case rel=>exact⟨i+1,by go_num,HLT.out,HN.out,HBD.out⟩
    case measure=>
     have:=HLT.out
     simp[intOf]
     omega
   ·simp only at e e'
    subst e e'
    obtain rfl:false=res:=(HNO.out (by simp)).symm
    go_wp2_with fail
    refine wp_region_ord [0,1,2,3,4,5,6,7,8] [] 9 (fun W=>W.cell? ⟨b1,o1+i*2,none⟩=some (.bool true)∧W.cell? ⟨b1,o1+i*2+1,none⟩=some (.int .u64 x)∧W.cell? ⟨b2,o2+i*2,none⟩=some (.bool false)∧W.cell? ⟨b2,o2+i*2+1,none⟩=some (.int .u64 y)) (by kernel_rfl) (by kernel_rfl) (by kernel_rfl) (by kernel_rfl) (fun _ _ _ _ _ h=>h) ⟨u0,u1,v0,v1⟩ ?_
    simp only[steps,List.getElem?_cons_zero,List.getElem?_cons_succ]
    repeat(first
     |(refine ord_no rfl ?_;simp only[Act.put,List.setIfInBounds_toArray,List.set_cons_zero,List.set_cons_succ])
     |(refine ord_yes (v:= ?_) rfl rfl ?_ ?_;rotate_left;(focus(rintro w' ⟨x0,x1,x2,x3⟩;go_simp;try with_reducible rfl));simp only[Act.put,List.setIfInBounds_toArray,List.set_cons_zero,List.set_cons_succ]))
    have HBD:=Lib.hid (HB.out.trans ((Below.refl wr.heap.size wr).drew.mono HB.out.size))
    clear u0 u1 v0 v1 HB
    generalize World.drew _=wd at*
    refine ord_end ?_
    go_wp2_with fail
    go_ret
    exact⟨rfl,HBD.out⟩
   ·simp only at e e'
    subst e e'
    obtain rfl:false=res:=(HNO.out (by simp)).symm
    go_wp2_with fail
    refine wp_region_ord [0,1,2,3,4,5,6,7,8] [] 9 (fun W=>W.cell? ⟨b1,o1+i*2,none⟩=some (.bool false)∧W.cell? ⟨b1,o1+i*2+1,none⟩=some (.int .u64 x)∧W.cell? ⟨b2,o2+i*2,none⟩=some (.bool true)∧W.cell? ⟨b2,o2+i*2+1,none⟩=some (.int .u64 y)) (by kernel_rfl) (by kernel_rfl) (by kernel_rfl) (by kernel_rfl) (fun _ _ _ _ _ h=>h) ⟨u0,u1,v0,v1⟩ ?_
    simp only[steps,List.getElem?_cons_zero,List.getElem?_cons_succ]
    repeat(first
     |(refine ord_no rfl ?_;simp only[Act.put,List.setIfInBounds_toArray,List.set_cons_zero,List.set_cons_succ])
     |(refine ord_yes (v:= ?_) rfl rfl ?_ ?_;rotate_left;(focus(rintro w' ⟨x0,x1,x2,x3⟩;go_simp;try with_reducible rfl));simp only[Act.put,List.setIfInBounds_toArray,List.set_cons_zero,List.set_cons_succ]))
    have HBD:=Lib.hid (HB.out.trans ((Below.refl wr.heap.size wr).drew.mono HB.out.size))
    clear u0 u1 v0 v1 HB
    generalize World.drew _=wd at*
    refine ord_end ?_
    go_wp2_with fail
    go_ret
    exact⟨rfl,HBD.out⟩
   ·simp only at e e'
    subst e
    obtain rfl:false=res:=(HNO.out (by simp[e'])).symm
    have gx:(x==y)=false:=by simpa using e'
    have ga:(a==a)=true:=by simp
    clear e'
    go_wp2_with fail
    refine wp_region_ord [0,1,2,3,4,5,6,7,8] [] 9 (fun W=>W.cell? ⟨b1,o1+i*2,none⟩=some (.bool a)∧W.cell? ⟨b1,o1+i*2+1,none⟩=some (.int .u64 x)∧W.cell? ⟨b2,o2+i*2,none⟩=some (.bool a)∧W.cell? ⟨b2,o2+i*2+1,none⟩=some (.int .u64 y)) (by kernel_rfl) (by kernel_rfl) (by kernel_rfl) (by kernel_rfl) (fun _ _ _ _ _ h=>h) ⟨u0,u1,v0,v1⟩ ?_
    simp only[steps,List.getElem?_cons_zero,List.getElem?_cons_succ]
    repeat(first
     |(refine ord_no rfl ?_;simp only[Act.put,List.setIfInBounds_toArray,List.set_cons_zero,List.set_cons_succ])
     |(refine ord_yes (v:= ?_) rfl rfl ?_ ?_;rotate_left;(focus(rintro w' ⟨x0,x1,x2,x3⟩;go_simp;try with_reducible rfl));simp only[Act.put,List.setIfInBounds_toArray,List.set_cons_zero,List.set_cons_succ]))
    have HBD:=Lib.hid (HB.out.trans ((Below.refl wr.heap.size wr).drew.mono HB.out.size))
    clear u0 u1 v0 v1 HB
    generalize World.drew _=wd at*
    refine ord_end ?_
    go_wp2_with fail
    go_ret
    exact⟨rfl,HBD.out⟩
  ·obtain rfl:n=i:=by omega
   obtain rfl:true=res:=by
    rw[← HR.out]
    symm
    apply decide_eq_true
    exact List.ext_getElem (by have:=HL.out;have:=HL2.out;omega) fun j q1 q2=>hall j (by have:=HL.out;omega) q1 q2
   have HB:=Lib.hid hb
   clear hi hall hlt hb
   go_wp2_with fail
   go_ret
   exact⟨rfl,HB.out⟩
end Go.Proofs.YtmejhedegmjboaaGreat.I
