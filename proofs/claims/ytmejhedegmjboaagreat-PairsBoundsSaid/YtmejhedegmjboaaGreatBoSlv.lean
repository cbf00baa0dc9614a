import Derived.Test.YtmejhedegmjboaaGreatBoEnds
set_option maxRecDepth 100000
set_option maxHeartbeats 8000000
namespace Go.Proofs.YtmejhedegmjboaaGreat.Bo
open Go.RowKit
theorem ZiS {S:Sr}{k:Int}{l:List Bd}(h:chkS S k l=0): ∃q:Nat,k=(q:Int)∧q≤64∧l.length≤256∧ ∀b∈l,mayB S q b=true:=by
 unfold chkS at h
 split at h
 ·cases h
 ·(
 rename_i hn
 split at h
 ·rename_i ha
  refine⟨k.toNat,by omega,by omega,by omega,fun b hb=>List.all_eq_true.1 ha b hb⟩
 ·cases h)
theorem Zg9 {S:Sr}{u:List Nat}{l:List Bd}(h:Yu S u l=true):Led S l u:=fun b hb hv=>by
 have:=List.all_eq_true.1 h b hb
 unfold okB at this
 obtain⟨-,h2⟩:=Bool.and_eq_true_iff.1 this
 rw[hv] at h2
 exact h2
theorem Zll {S:Sr}{k:Nat}{b:Bd}{v:List Nat}(hm:mayB S k b=true)(hv:v.length=k):okT v b.av b.an=true∧okT v b.bv b.bn=true:=by
 obtain⟨h1,h2⟩:=Bool.and_eq_true_iff.1 hm
 unfold mayT at h1 h2
 unfold okT
 rw[hv]
 constructor
 ·cases hav:b.av with
  |true=>rw[hav] at h1;exact h1
  |false=>rfl
 ·cases hbv:b.bv with
  |true=>rw[hbv] at h2;exact h2
  |false=>rfl
theorem Zct {S:Sr}(hS:S.Ok){k:Nat}{l:List Bd}{v u:List Nat}(hl: ∀b∈l,mayB S k b=true)(hv:QV S k l v)(hu:Qk S k u)(h:Yu S u l=true):Yu S v l=true:=by
 refine List.all_eq_true.2 fun b hb=> ?_
 have hm:=hl b hb
 obtain⟨o1,o2⟩:=Zll hm hv.has.1
 unfold okB
 rw[o1,o2,Bool.true_and,Bool.true_and]
 cases hbv:b.bv with
 |true=>exact hv.led b hb hbv
 |false=>(
 have hub:=List.all_eq_true.1 h b hb
 unfold okB at hub
 obtain⟨-,h2⟩:=Bool.and_eq_true_iff.1 hub
 rw[hbv] at h2
 refine hS.trans _ _ _ ?_ h2
 cases hav:b.av with
 |true=>(
 have ha:b.an < k:=by(
 obtain⟨k1,_⟩:=Bool.and_eq_true_iff.1 hm
 unfold mayT at k1
 rw[hav] at k1
 exact of_decide_eq_true k1)
 exact hv.low u hu (Zg9 h) _ ha)
 |false=>(
 have:=KI hm hv.has
 rw[hav] at this
 exact hS.refl _ this))
def ZeF (S:Sr)(k:Int)(l:List Bd)(x:Int)(lo hi:List Nat):Prop:=
 (chkS S k l=x∧x≠0∧lo= []∧hi= [])∨
 (∃q:Nat,k=(q:Int)∧chkS S k l=0∧x=10∧lo= []∧hi= []∧ ∀u,Qk S q u→Yu S u l=false)∨
 (∃q:Nat,k=(q:Int)∧chkS S k l=0∧x=0∧QV S q l lo∧QV S.turn q (l.map Bd.turn) hi∧Yu S lo l=true)
theorem Zcu {S:Sr}{q:Nat}{l:List Bd}(h: ∀b∈l,mayB S q b=true): ∀b∈l.map Bd.turn,mayB S.turn q b=true:=fun b hb=>by
 obtain⟨c,hc,rfl⟩:=List.mem_map.1 hb
 have:=h c hc
 unfold mayB at this ⊢
 rw[Bool.and_comm] at this
 exact this
theorem Zcv {l:List Bd}(h: ∀b∈l,b.Fit): ∀b∈l.map Bd.turn,b.Fit:=fun b hb=>by
 obtain⟨c,hc,rfl⟩:=List.mem_map.1 hb
 exact⟨(h c hc).2,(h c hc).1⟩
theorem ZeG {w:World}{v:Value}{S:Sr}(h:Srt w v S):Mts w (.func (.method "Bottom") #[v] #[]) (.func (.method "Join") #[v] #[]) S:=by
 rcases h with⟨a,rfl,h⟩|⟨a,rfl,h⟩|⟨rfl,h⟩
 ·exact .inl ⟨a,rfl,rfl,h.bot,h.join⟩
 ·exact .inr (.inl ⟨a,rfl,rfl,h.bot,h.join⟩)
 ·exact .inr (.inr (.inl ⟨rfl,rfl,h.bot,h.join⟩))
theorem Zcw {w:World}{v:Value}{S:Sr}(h:Srt w v S):Mts w (.func (.method "Top") #[v] #[]) (.func (.method "Meet") #[v] #[]) S.turn:=by
 rcases h with⟨a,rfl,h⟩|⟨a,rfl,h⟩|⟨rfl,h⟩
 ·exact .inr (.inr (.inr (.inl ⟨a,rfl,rfl,h.top,h.meet⟩)))
 ·exact .inr (.inr (.inr (.inr (.inl ⟨a,rfl,rfl,h.top,h.meet⟩))))
 ·exact .inr (.inr (.inr (.inr (.inr ⟨rfl,rfl,h.top,h.meet⟩))))
theorem ZdF (a:Option Addr): ∀W,(nilAhead 370 74 (.pointer a) "Has").run Tryz.prog W= .ok (some false) W:=fun W=>by kernel_rfl
theorem ZdG (a:Option Addr): ∀W,(nilAhead 370 77 (.pointer a) "Has").run Tryz.prog W= .ok (some false) W:=fun W=>by kernel_rfl
theorem ZdH: ∀W,(nilAhead 370 226 (.agg #[]) "Has").run Tryz.prog W= .ok (some false) W:=fun W=>by kernel_rfl
structure Solved (S:Sr)(k:Int)(l:List Bd)(w:World)(e:Ending)(w':World)(A1:Option Addr)(n1 c1:Nat)(A2:Option Addr)(n2 c2:Nat)(x:Int)(lo hi:List Nat):Prop where
 ret:e= .returned (.tuple #[.slice A1 n1 c1,.slice A2 n2 c2,.int .i64 x])
 rlo:Rd La.nm w' w'.heap.size A1 n1 c1 lo
 rhi:Rd La.nm w' w'.heap.size A2 n2 c2 hi
 ans:ZeF S k l x lo hi
 kept:Below w.heap.size w w'
theorem ZeH (v:Value)(k:Int)(A:Option Addr)(n c:Nat)(l:List Bd)(S:Sr)(w:World)(hS:S.Ok)(hs:VH w v S)(h:Rs bdc 4 w w.heap.size A n c l)(hf: ∀b∈l,b.Fit):
  Calls Tryz.prog 73 #[v,.int .i64 k,.slice A n c] w fun e w'=> ∃A1 n1 c1 A2 n2 c2 x lo hi,Solved S k l w e w' A1 n1 c1 A2 n2 c2 x lo hi:=by
 have HS:=Hd hS
 have HF:=Hd hf
 have HR:=Hd h
 have HL:=Hd h.len
 have hsm:=Zav v S w hs
 obtain⟨x,hx⟩: ∃x,chkS S k l=x:=⟨_,rfl⟩
 have HX:=Hd hx
 clear hS hf hs h hx
 go_enter Tryz.func73,Tryz.ntmps73
 go_wp2_with fail
 refine hsm.mono ?_
 rintro e w1 ⟨v',rfl,hs,rfl⟩
 have HV:=Hd hs
 have hck:=check_any v' k A n c l S w x (.inr hs) HR.out HF.out HX.out
 clear hsm hs
 go_wp2_with fail
 refine hck.mono ?_
 rintro e w1 ⟨rfl,hb1⟩
 have HB1:=Hd hb1
 clear hck hb1
 by_cases hx0:x=0
 ·(
 subst hx0
 obtain⟨q,rfl,hq,hl,hm⟩:=ZiS HX.out
 have HQ:=Hd hq
 have HLL:=Hd hl
 have HM:=Hd hm
 clear hq hl hm
 have hV:=HV.out
 rcases hV with⟨a,rfl,hA⟩|⟨a,rfl,hA⟩|⟨rfl,hA⟩
 all_goals(
 have HA:=Hd hA
 clear hA
 go_wp2_with fail
 refine wro [0,1,2,3,4,6,7,8,5,9,10,11] [5,9] 12 (fun _=>True) (by kernel_rfl) (fun _ _ _ _ _ h=>h) trivial ?_
 simp only[steps,sE,sD]
 by_cases hq0:q=0
 ·(
 have hgt:decide (0 < q)=false:=decide_eq_false (by omega)
 have HBOT:Hid (0 < q→S.has S.bot=true):=Hd fun h=>absurd h (by omega)
 clear hq0
 repeat((first|refine Zf rfl ?_|(refine Zd (v:= ?_) rfl rfl ?_ ?_;rotate_left;(focus(rintro w' -;go_simp;try with_reducible rfl))));simp only[Act.put,sA,sB,sC])
 refine Zg ?_
 clear hgt
 have HB2:=Hd HB1.out.drew
 generalize w1.drew=w2 at*
 go_wp2_with fail
 refine wro [0,1,2,3,4,5,6,7,8,9] [8] 10 (fun _=>True) (by kernel_rfl) (fun _ _ _ _ _ h=>h) trivial ?_
 simp only[steps,sE,sD]
 repeat((first|refine Zf rfl ?_|(refine Zd (v:= ?_) rfl rfl ?_ ?_;rotate_left;(focus(rintro w' -;go_simp;try with_reducible rfl))));simp only[Act.put,sA,sB,sC])
 have HB3:=Hd HB2.out.drew
 generalize w2.drew=w3 at*
 refine Ze rfl rfl (fun K hK=> ?_)
 go_simp
 refine(UU _ _ q A n c l S _ HS.out (ZeG (HV.out.keep HB3.out)) HQ.out (HR.out.at_size lR HB3.out) HF.out HM.out HBOT.out).mono ?_
 rintro e w4 ⟨g,lo,rfl,hlo,hlow,hb4⟩
 have HB4:=Hd (HB3.out.trans (hb4.mono HB3.out.size))
 have HLO:=Hd hlo
 have HLW:=Hd hlow
 clear hb4 hlo hlow
 refine hK.out _ _ (fun _=>trivial) ?_
 clear hK K
 try simp only[Act.put,sA,sB,sC]
 repeat((first|refine Zf rfl ?_|(refine Zd (v:= ?_) rfl rfl ?_ ?_;rotate_left;(focus(rintro w' -;go_simp;try with_reducible rfl))));simp only[Act.put,sA,sB,sC])
 refine Zg ?_
 obtain⟨z,hz⟩: ∃z,Yu S lo l=z:=⟨_,rfl⟩
 have HZ:=Hd hz
 clear hz
 have hhold:=Zdh _ (some ⟨g,0,none⟩) q q lo A n c l S w4 z (.inr (HV.out.keep HB4.out)) HLO.out (Ql HS.out HLW.out.has) (HR.out.at_size lR HB4.out) HF.out HZ.out
 go_wp2_with fail
 refine hhold.mono ?_
 rintro e w5 ⟨rfl,hb5⟩
 have HB5:=Hd (HB4.out.trans (hb5.mono HB4.out.size))
 have HLO5:=Hd (HLO.out.at_size lR hb5)
 clear hb5 hhold HLO
 cases z with
 |false=>(
 go_wp2_with fail
 exact bodyPost_ret (v:= .tuple #[.slice none 0 0,.slice none 0 0,.int .i64 10]) (by simp[results,Tryz.results73,go_sem]) rfl ⟨none,0,0,none,0,0,10,[],[],rfl,Rd.nil _ _,Rd.nil _ _,.inr (.inl ⟨q,rfl,HX.out,rfl,rfl,rfl,fun u hu=>by
  cases hh:Yu S u l with
  |false=>rfl
  |true=>
   have:=Zct HS.out HM.out HLW.out hu hh
   rw[HZ.out] at this
   cases this⟩),HB5.out⟩)
 |true=>(
 go_wp2_with fail
 refine wro [0,1,2,4,5,6,7,8,9,3,10,11,12,13] [3,10] 14 (fun _=>True) (by kernel_rfl) (fun _ _ _ _ _ h=>h) trivial ?_
 simp only[steps,sE,sD]
 repeat((first|refine Zf rfl ?_|(refine Zd (v:= ?_) rfl rfl ?_ ?_;rotate_left;(focus(rintro w' -;go_simp;try with_reducible rfl))));simp only[Act.put,sA,sB,sC])
 have HB6:=Hd HB5.out.drew
 have HLO6:=Hd (HLO5.out.at_size lR (Below.refl _ w5).drew)
 generalize w5.drew=w6 at*
 refine Ze rfl rfl (fun K hK=> ?_)
 go_simp
 refine(Vd A n c l w6 (HR.out.at_size lR HB6.out) (by have:=HLL.out;have:=HL.out;omega)).mono ?_
 rintro e w7 ⟨g2,rfl,htr,hb7⟩
 have HB7:=Hd (HB6.out.trans (hb7.mono HB6.out.size))
 have HLO7:=Hd (HLO6.out.at_size lR hb7)
 have HTR:=Hd htr
 clear hb7 htr HLO6 HLO5
 refine hK.out _ _ (fun _=>trivial) ?_
 clear hK K
 try simp only[Act.put,sA,sB,sC]
 repeat((first|refine Zf rfl ?_|(refine Zd (v:= ?_) rfl rfl ?_ ?_;rotate_left;(focus(rintro w' -;go_simp;try with_reducible rfl))));simp only[Act.put,sA,sB,sC])
 refine Ze rfl rfl (fun K hK=> ?_)
 go_simp
 refine(UU _ _ q (some ⟨g2,0,none⟩) n n (l.map Bd.turn) S.turn w7 HS.out.turn (Zcw (HV.out.keep HB7.out)) HQ.out HTR.out (Zcv HF.out) (Zcu HM.out) (fun h0=>(HS.out.sub _ _ (HS.out.topl _ (HBOT.out h0))).2)).mono ?_
 rintro e w8 ⟨g3,hi,rfl,hhi,hhigh,hb8⟩
 have HB8:=Hd (HB7.out.trans (hb8.mono HB7.out.size))
 have HLO8:=Hd (HLO7.out.at_size lR hb8)
 have HHI:=Hd hhi
 have HHG:=Hd hhigh
 clear hb8 hhi hhigh HLO7
 refine hK.out _ _ (fun _=>trivial) ?_
 clear hK K
 try simp only[Act.put,sA,sB,sC]
 repeat((first|refine Zf rfl ?_|(refine Zd (v:= ?_) rfl rfl ?_ ?_;rotate_left;(focus(rintro w' -;go_simp;try with_reducible rfl))));simp only[Act.put,sA,sB,sC])
 refine Zg ?_
 go_wp2_with fail
 exact bodyPost_ret (v:= .tuple #[.slice (some ⟨g,0,none⟩) q q,.slice (some ⟨g3,0,none⟩) q q,.int .i64 0]) (by simp[results,Tryz.results73,go_sem]) rfl ⟨_,_,_,_,_,_,0,lo,hi,rfl,HLO8.out,HHI.out,.inr (.inr ⟨q,rfl,HX.out,rfl,HLW.out,HHG.out,HZ.out⟩),HB8.out⟩))
 ·have hgt:decide (0 < q)=true:=decide_eq_true (by omega)
  have HQ0:=Hd hq0
  clear hq0
  try have hn1:=ZdF a
  try have hn2:=ZdG a
  have hn3:=ZdH
  repeat((first|refine Zf rfl ?_|(refine Zd (v:= ?_) rfl rfl ?_ ?_;rotate_left;(focus(rintro w' -;go_simp;try with_reducible rfl))));simp only[Act.put,sA,sB,sC])
  have HB1a:=Hd HB1.out.drew
  generalize w1.drew=w1a at*
  refine Ze rfl rfl (fun K hK=> ?_)
  go_simp
  go_invoke
  go_simp
  refine(HA.out.bot _ HB1a.out).mono ?_
  rintro e w1b ⟨rfl,hb1b⟩
  have HB1b:=Hd (HB1a.out.trans (hb1b.mono HB1a.out.size))
  clear hb1b
  refine hK.out _ _ (fun _=>trivial) ?_
  clear hK K
  try simp only[Act.put,sA,sB,sC]
  refine Ze rfl rfl (fun K hK=> ?_)
  go_simp
  go_invoke
  go_simp
  obtain⟨z0,hz0⟩: ∃z0,S.has S.bot=z0:=⟨_,rfl⟩
  have hhb:=HA.out.has _ HB1b.out S.bot HS.out.fitb
  rw[hz0] at hhb
  have HZ0:=Hd hz0
  clear hz0
  refine hhb.mono ?_
  rintro e w2 ⟨rfl,hb2⟩
  have HB2:=Hd (HB1b.out.trans (hb2.mono HB1b.out.size))
  clear hb2 hhb hn3
  try clear hn1
  try clear hn2
  refine hK.out _ _ (fun _=>trivial) ?_
  clear hK K
  try simp only[Act.put,sA,sB,sC]
  repeat((first|refine Zf rfl ?_|(refine Zd (v:= ?_) rfl rfl ?_ ?_;rotate_left;(focus(rintro w' -;go_simp;try with_reducible rfl))));simp only[Act.put,sA,sB,sC])
  refine Zg ?_
  clear hgt
  cases z0 with
  |false=>(
 go_wp2_with fail
 exact bodyPost_ret (v:= .tuple #[.slice none 0 0,.slice none 0 0,.int .i64 10]) (by simp[results,Tryz.results73,go_sem]) rfl ⟨none,0,0,none,0,0,10,[],[],rfl,Rd.nil _ _,Rd.nil _ _,.inr (.inl ⟨q,rfl,HX.out,rfl,rfl,rfl,fun u hu=>by
  have:=(HS.out.sub _ _ (HS.out.botl _ (hu.2 0 (Nat.pos_of_ne_zero HQ0.out)))).1
  rw[HZ0.out] at this
  cases this⟩),HB2.out⟩)
  |true=>
   have HBOT:Hid (0 < q→S.has S.bot=true):=Hd fun _=>HZ0.out
   go_wp2_with fail
   refine wro [0,1,2,3,4,5,6,7,8,9] [8] 10 (fun _=>True) (by kernel_rfl) (fun _ _ _ _ _ h=>h) trivial ?_
   simp only[steps,sE,sD]
   repeat((first|refine Zf rfl ?_|(refine Zd (v:= ?_) rfl rfl ?_ ?_;rotate_left;(focus(rintro w' -;go_simp;try with_reducible rfl))));simp only[Act.put,sA,sB,sC])
   have HB3:=Hd HB2.out.drew
   generalize w2.drew=w3 at*
   refine Ze rfl rfl (fun K hK=> ?_)
   go_simp
   refine(UU _ _ q A n c l S _ HS.out (ZeG (HV.out.keep HB3.out)) HQ.out (HR.out.at_size lR HB3.out) HF.out HM.out HBOT.out).mono ?_
   rintro e w4 ⟨g,lo,rfl,hlo,hlow,hb4⟩
   have HB4:=Hd (HB3.out.trans (hb4.mono HB3.out.size))
   have HLO:=Hd hlo
   have HLW:=Hd hlow
   clear hb4 hlo hlow
   refine hK.out _ _ (fun _=>trivial) ?_
   clear hK K
   try simp only[Act.put,sA,sB,sC]
   repeat((first|refine Zf rfl ?_|(refine Zd (v:= ?_) rfl rfl ?_ ?_;rotate_left;(focus(rintro w' -;go_simp;try with_reducible rfl))));simp only[Act.put,sA,sB,sC])
   refine Zg ?_
   obtain⟨z,hz⟩: ∃z,Yu S lo l=z:=⟨_,rfl⟩
   have HZ:=Hd hz
   clear hz
   have hhold:=Zdh _ (some ⟨g,0,none⟩) q q lo A n c l S w4 z (.inr (HV.out.keep HB4.out)) HLO.out (Ql HS.out HLW.out.has) (HR.out.at_size lR HB4.out) HF.out HZ.out
   go_wp2_with fail
   refine hhold.mono ?_
   rintro e w5 ⟨rfl,hb5⟩
   have HB5:=Hd (HB4.out.trans (hb5.mono HB4.out.size))
   have HLO5:=Hd (HLO.out.at_size lR hb5)
   clear hb5 hhold HLO
   cases z with
   |false=>(
 go_wp2_with fail
 exact bodyPost_ret (v:= .tuple #[.slice none 0 0,.slice none 0 0,.int .i64 10]) (by simp[results,Tryz.results73,go_sem]) rfl ⟨none,0,0,none,0,0,10,[],[],rfl,Rd.nil _ _,Rd.nil _ _,.inr (.inl ⟨q,rfl,HX.out,rfl,rfl,rfl,fun u hu=>by
  cases hh:Yu S u l with
  |false=>rfl
  |true=>
   have:=Zct HS.out HM.out HLW.out hu hh
   rw[HZ.out] at this
   cases this⟩),HB5.out⟩)
   |true=>
    go_wp2_with fail
    refine wro [0,1,2,4,5,6,7,8,9,3,10,11,12,13] [3,10] 14 (fun _=>True) (by kernel_rfl) (fun _ _ _ _ _ h=>h) trivial ?_
    simp only[steps,sE,sD]
    repeat((first|refine Zf rfl ?_|(refine Zd (v:= ?_) rfl rfl ?_ ?_;rotate_left;(focus(rintro w' -;go_simp;try with_reducible rfl))));simp only[Act.put,sA,sB,sC])
    have HB6:=Hd HB5.out.drew
    have HLO6:=Hd (HLO5.out.at_size lR (Below.refl _ w5).drew)
    generalize w5.drew=w6 at*
    refine Ze rfl rfl (fun K hK=> ?_)
    go_simp
    refine(Vd A n c l w6 (HR.out.at_size lR HB6.out) (by have:=HLL.out;have:=HL.out;omega)).mono ?_
    rintro e w7 ⟨g2,rfl,htr,hb7⟩
    have HB7:=Hd (HB6.out.trans (hb7.mono HB6.out.size))
    have HLO7:=Hd (HLO6.out.at_size lR hb7)
    have HTR:=Hd htr
    clear hb7 htr HLO6 HLO5
    refine hK.out _ _ (fun _=>trivial) ?_
    clear hK K
    try simp only[Act.put,sA,sB,sC]
    repeat((first|refine Zf rfl ?_|(refine Zd (v:= ?_) rfl rfl ?_ ?_;rotate_left;(focus(rintro w' -;go_simp;try with_reducible rfl))));simp only[Act.put,sA,sB,sC])
    refine Ze rfl rfl (fun K hK=> ?_)
    go_simp
    refine(UU _ _ q (some ⟨g2,0,none⟩) n n (l.map Bd.turn) S.turn w7 HS.out.turn (Zcw (HV.out.keep HB7.out)) HQ.out HTR.out (Zcv HF.out) (Zcu HM.out) (fun h0=>(HS.out.sub _ _ (HS.out.topl _ (HBOT.out h0))).2)).mono ?_
    rintro e w8 ⟨g3,hi,rfl,hhi,hhigh,hb8⟩
    have HB8:=Hd (HB7.out.trans (hb8.mono HB7.out.size))
    have HLO8:=Hd (HLO7.out.at_size lR hb8)
    have HHI:=Hd hhi
    have HHG:=Hd hhigh
    clear hb8 hhi hhigh HLO7
    refine hK.out _ _ (fun _=>trivial) ?_
    clear hK K
    try simp only[Act.put,sA,sB,sC]
    repeat((first|refine Zf rfl ?_|(refine Zd (v:= ?_) rfl rfl ?_ ?_;rotate_left;(focus(rintro w' -;go_simp;try with_reducible rfl))));simp only[Act.put,sA,sB,sC])
    refine Zg ?_
    go_wp2_with fail
    exact bodyPost_ret (v:= .tuple #[.slice (some ⟨g,0,none⟩) q q,.slice (some ⟨g3,0,none⟩) q q,.int .i64 0]) (by simp[results,Tryz.results73,go_sem]) rfl ⟨_,_,_,_,_,_,0,lo,hi,rfl,HLO8.out,HHI.out,.inr (.inr ⟨q,rfl,HX.out,rfl,HLW.out,HHG.out,HZ.out⟩),HB8.out⟩))
 ·(
 clear HV
 have hne:((x:Int) !=0)=true:=by simpa using hx0
 have HN:=Hd hx0
 clear hx0
 go_wp2_with fail
 exact bodyPost_ret (v:= .tuple #[.slice none 0 0,.slice none 0 0,.int .i64 x]) (by simp[results,Tryz.results73,go_sem]) rfl ⟨none,0,0,none,0,0,x,[],[],rfl,Rd.nil _ _,Rd.nil _ _,.inl ⟨HX.out,HN.out,rfl,rfl⟩,HB1.out⟩)
end Go.Proofs.YtmejhedegmjboaaGreat.Bo
