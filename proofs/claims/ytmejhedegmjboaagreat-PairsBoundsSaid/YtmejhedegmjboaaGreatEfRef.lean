import Derived.Test.YtmejhedegmjboaaGreatEfEff
set_option maxRecDepth 100000
set_option maxHeartbeats 400000
namespace Go.Proofs.YtmejhedegmjboaaGreat.Ef
open Go.RowKit
theorem Ud {k:Nat}(h:k < 64):IntKind.u64.wrap ((2:Int) ^ k)=((2 ^ k:Nat):Int):=by
 have h1:(2:Nat) ^ k < 18446744073709551616:=Nat.pow_lt_pow_right (n:=64) (by decide) h
 show(2:Int) ^ k%18446744073709551616=_
 rw[Int.natCast_pow]
 have:((2 ^ k:Nat):Int) < 18446744073709551616:=by omega
 rw[Int.natCast_pow] at this
 exact Int.emod_eq_of_lt (Int.le_of_lt (Int.pow_pos (by decide))) this
def ZlD (n:Nat)(w:World)(v3 v4:Value)(wr:World):Prop:= ∃i:Nat,v4= .int .i64 (i:Int)∧i≤n∧v3= .int .u64 (topN i:Int)∧wr=w
theorem UT (n:Nat)(hn:n≤64)(w:World):Calls Tryz.prog 68 #[.int .i64 (n:Int)] w fun e w'=>e= .returned (.int .u64 (topN n:Int))∧w=w':=by
 go_enter Tryz.func68,Tryz.ntmps68
 go_wp2
 go_loopw [3,4] (fun v3 v4 wr=>ZlD n w v3 v4 wr) (fun _ v4 _=>n - (intOf v4).toNat)
 case atStart=>exact⟨0,rfl,by omega,rfl,rfl⟩
 case round=>(
 obtain⟨i,rfl,hi,rfl,rfl⟩:=hrel
 by_cases hlt:i < n
 ·(
 have hp:=Ud (k:=i) (by omega)
 have ho:=u64_or_nat (topN i) (2 ^ i) (Qd (by omega)) (by exact Nat.pow_lt_pow_right (n:=64) (by decide) (by omega))
 rw[Ze9] at ho
 obtain⟨s,hs⟩: ∃s,s=topN (i+1):=⟨_,rfl⟩
 rw[← hs] at ho
 have HS:=Hd hs
 clear hs
 generalize topN i=r at*
 generalize 2 ^ i=p at*
 go_wp2
 go_roundw
 case rel=>exact⟨i+1,by go_num,by omega,by rw[HS.out],rfl⟩
 case measure=>simp[intOf];omega)
 ·obtain rfl:i=n:=by omega
  go_wp2
  go_ret
  exact⟨rfl,rfl⟩)
section
variable (n:Nat) (hn:n≤64) (w:World)
include hn
theorem Ro (x:Nat)(hx:x < 18446744073709551616):Calls Tryz.prog 143 #[.int .i64 (n:Int),.int .u64 (x:Int)] w fun e w'=>e= .returned (.bool (hasE true (topN n) x))∧w=w':=by
 have hc:=fun W=>UT n hn W
 have ho:=u64_or_nat x (topN n) hx (Qd hn)
 have hr:hasE true (topN n) x=(((x|||topN n:Nat):Int)==(topN n:Int)):=by(
 rw[hasE,Bool.true_and,subB]
 by_cases h:x|||topN n=topN n
 ·rw[h];simp
 ·have: ¬((x|||topN n:Nat):Int)=(topN n:Int):=by omega
  rw[beq_eq_false_iff_ne.2 h,beq_eq_false_iff_ne.2 this])
 rw[hr]
 clear hr
 generalize x|||topN n=q at*
 generalize topN n=t at*
 go_enter Tryz.func143,Tryz.ntmps143
 go_wp2_with fail
 refine(hc _).mono ?_
 rintro e w' ⟨rfl,rfl⟩
 go_wp2_with fail
 refine(hc _).mono ?_
 rintro e w' ⟨rfl,rfl⟩
 go_wp2_with fail
 go_ret
 exact⟨rfl,rfl⟩
theorem ZN (x y:Nat)(hx:x < 18446744073709551616)(hy:y < 18446744073709551616):Calls Tryz.prog 113 #[.int .i64 (n:Int),.int .u64 (x:Int),.int .u64 (y:Int)] w fun e w'=>e= .returned (.bool (Qe true (topN n) x y))∧w=w':=by
 have h1:=fun W=>Ro n hn W x hx
 have h2:=fun W=>Ro n hn W y hy
 have ho:=u64_or_nat x y hx hy
 have hr:(((x|||y:Nat):Int)==(y:Int))=subB x y:=by(
 rw[subB]
 by_cases h:x|||y=y
 ·rw[h];simp
 ·have: ¬((x|||y:Nat):Int)=(y:Int):=by omega
  rw[beq_eq_false_iff_ne.2 h,beq_eq_false_iff_ne.2 this])
 rw[Qe,Kw,Bool.true_and]
 simp only[hasE,Bool.true_and] at h1 h2
 generalize x|||y=q at*
 generalize subB x y=s at*
 generalize subB x (topN n)=r1 at*
 generalize subB y (topN n)=r2 at*
 cases r1 with
 |false=>(
 go_enter Tryz.func113,Tryz.ntmps113
 go_wp2_with fail
 refine(h1 _).mono ?_
 rintro e w' ⟨rfl,rfl⟩
 go_wp2_with fail
 go_ret
 exact⟨rfl,rfl⟩)
 |true=>(
 cases r2 with
 |false=>(
 go_enter Tryz.func113,Tryz.ntmps113
 go_wp2_with fail
 refine(h1 _).mono ?_
 rintro e w' ⟨rfl,rfl⟩
 go_wp2_with fail
 refine(h2 _).mono ?_
 rintro e w' ⟨rfl,rfl⟩
 go_wp2_with fail
 go_ret
 exact⟨rfl,rfl⟩)
 |true=>(
 go_enter Tryz.func113,Tryz.ntmps113
 go_wp2_with fail
 refine(h1 _).mono ?_
 rintro e w' ⟨rfl,rfl⟩
 go_wp2_with fail
 refine(h2 _).mono ?_
 rintro e w' ⟨rfl,rfl⟩
 go_wp2_with fail
 go_ret
 exact⟨rfl,rfl⟩))
end
end Go.Proofs.YtmejhedegmjboaaGreat.Ef
