import Derived.Test.YtmejhedegmjboaaGreatLaRefLeast
set_option maxRecDepth 100000
set_option maxHeartbeats 1000000
namespace Go.Proofs.YtmejhedegmjboaaGreat.La
open Go.RowKit
theorem Below.then {w w1 w2:World}(h:Below w.heap.size w w1)(k:Below w1.heap.size w1 w2):Below w.heap.size w w2:=h.trans (k.mono h.size)
def ZmM (l:List Nat)(w:World)(v4:Value)(wr:World):Prop:= ∃k:Nat,v4= .int .i64 (k:Int)∧k≤l.length∧Uz l k=true∧wr=w
def R5 (l:List Nat)(w:World)(v5:Value)(wr:World):Prop:= ∃i:Nat,v5= .int .u64 (i:Int)∧i≤l.length∧tr1 l i=true∧wr=w
def R6 (l:List Nat)(w:World)(i:Nat)(v6:Value)(wr:World):Prop:= ∃j:Nat,v6= .int .u64 (j:Int)∧j≤l.length∧tr2 l i j=true∧wr=w
def R7 (l:List Nat)(w:World)(i j:Nat)(v7:Value)(wr:World):Prop:= ∃k:Nat,v7= .int .u64 (k:Int)∧k≤l.length∧tr3 l i j k=true∧wr=w
def R8 (l:List Nat)(w:World)(v8:Value)(wr:World):Prop:= ∃i:Nat,v8= .int .u64 (i:Int)∧i≤l.length∧la1 l i=true∧Below w.heap.size w wr
def R9 (l:List Nat)(w:World)(i:Nat)(v9:Value)(wr:World):Prop:= ∃j:Nat,v9= .int .u64 (j:Int)∧j≤l.length∧la2 l i j=true∧Below w.heap.size w wr
def ChkE (l:List Nat)(w:World)(e:Ending)(w':World):Prop:= ∃x:Int,e= .returned (.int .i64 x)∧Uy l x∧Below w.heap.size w w'
theorem Zi2 {l:List Nat}{i j:Nat}(hn:l.length≤64)(hk:Known l)(hi:i < l.length)(hj:j < l.length)(h:(anB l i j && tr3 l i j l.length)=false):Uy l 9:=by
 refine .inr (.inl ⟨hk,fun ho=> ?_,rfl⟩)
 have h1:tr2 l i l.length=false:=ZX hj h
 have h2:tr1 l l.length=false:=ZX hi (by rw[h1,Bool.and_false])
 have:=(ZbP hn).2 ho
 rw[h2] at this
 cases this
theorem ZlA {l:List Nat}{i j k:Nat}(hn:l.length≤64)(hk:Known l)(hi:i < l.length)(hj:j < l.length)(hkk:k < l.length)(h:trB l i j k=false):Uy l 9:=by
 have h1:tr3 l i j l.length=false:=ZX hkk h
 exact Zi2 hn hk hi hj (by rw[h1,Bool.and_false])
theorem ZlB {l:List Nat}{i:Nat}(hn:l.length≤64)(hk:Known l)(hi:i < l.length)(h:Zj l i i=false):Uy l 9:=by
 refine .inr (.inl ⟨hk,fun ho=> ?_,rfl⟩)
 have h2:tr1 l l.length=false:=ZX hi (by rw[h,Bool.false_and])
 have:=(ZbP hn).2 ho
 rw[h2] at this
 cases this
theorem ZmN {l:List Nat}{i j:Nat}(hn:l.length≤64)(hk:Known l)(ho:Ux l.length (bt l))(hi:i < l.length)(hj:j < l.length)(h:(UD l (upsL l i j) && UE l (U4 l i j))=false):Uy l 7:=by
 refine .inr (.inr (.inl ⟨hk,ho,fun hu=> ?_,rfl⟩))
 have h1:la2 l i l.length=false:=ZX hj h
 have h2:la1 l l.length=false:=ZX hi h1
 have:=(Ze0 hn).2 hu
 rw[h2] at this
 cases this
theorem Za9 (A:Option Addr)(n c:Nat)(l:List Nat)(w:World)(h:Rd nm w w.heap.size A n c l)(hf:Fit l):
  Calls Tryz.prog 59 #[.slice A n c] w (ChkE l w):=by
 have HL:=Hd h.len
 have hcap:=h.cap
 have htop:=h.top
 unfold maxLen at htop
 have HC1:Hid (¬(1≤n∧n≤64)→Uy l 1):=Hd fun hh=> .inl ⟨fun hk=>hh (by rw[← HL.out];exact hk.1),rfl⟩
 go_enter Tryz.func59,Tryz.ntmps59
 by_cases h1:n < 1
 ·have d1:decide ((n:Int) < 1)=true:=by simp;omega
  go_wp2
  go_ret
  exact⟨1,rfl,HC1.out (by omega),Below.refl _ _⟩
 have d1:decide ((n:Int) < 1)=false:=by simp;omega
 by_cases h2:64 < n
 ·have d2:decide (64 < (n:Int))=true:=by simp;omega
  go_wp2
  go_ret
  exact⟨1,rfl,HC1.out (by omega),Below.refl _ _⟩
 have d2:decide (64 < (n:Int))=false:=by simp;omega
 go_wp2
 go_loopw [4] (fun v4 wr=>ZmM l w v4 wr) (fun v4 _=>n - (intOf v4).toNat)
 case atStart=>exact⟨0,rfl,by omega,rfl,rfl⟩
 case round=>(
 obtain⟨k,rfl,hk,hkn,rfl⟩:=hrel
 have HK:=Hd hkn
 clear hkn
 by_cases hlt:k < n
 ·(
 obtain⟨b,o,rfl,_,hc⟩:=h.spot (by omega)
 have hk':k < l.length:=by rw[HL.out];exact hlt
 have hcell:wr.cell? ⟨b,o+k,none⟩=some (.int .u64 (l[k]:Int)):=hc k hk'
 have hx:=hf.get k hk'
 have hs:=KX l k
 rw[HK.out,Bool.true_and,getD_at hk',HL.out] at hs
 have hq:(l[k]:Int) / 2 ^ n=((l[k] / 2 ^ n:Nat):Int):=ZbN _ _
 have hbad:(l[k] / 2 ^ n==0)=false→Uy l 1:=fun e=> .inl ⟨(fun hkk=>by
  have:=(KY l).2 hkk.2
  rw[show Uz l l.length=false from ZX hk' (by rw[getD_at hk',HL.out];exact e)] at this
  cases this),rfl⟩
 have hq64:n=64→l[k] / 2 ^ n=0:=fun e=>by rw[e];exact Nat.div_eq_of_lt hx
 generalize l[k] / 2 ^ n=q at*
 generalize l[k]=x at*
 have HS:=Hd hs
 have HF:=Hd hbad
 have HQ:=Hd hq64
 clear hc hs hbad hq64
 by_cases hn64:n < 64
 ·(
 have d3:decide ((n:Int) < 64)=true:=by simp;omega
 by_cases hq0:q=0
 ·(
 subst hq0
 have hne:((0:Int) !=0)=false:=rfl
 go_wp2
 go_roundw
 case rel=>exact⟨k+1,by go_num,by omega,HS.out,rfl⟩
 case measure=>simp[intOf];omega)
 ·have hne:((q:Int) !=0)=true:=by simpa using hq0
  go_wp2
  go_ret
  exact⟨1,rfl,HF.out (by simpa using hq0),Below.refl _ _⟩)
 ·(
 have d3:decide ((n:Int) < 64)=false:=by simp;omega
 go_wp2
 go_roundw
 case rel=>exact⟨k+1,by go_num,by omega,by rw[HS.out,HQ.out (by omega)];rfl,rfl⟩
 case measure=>simp[intOf];omega))
 ·(
 obtain rfl:k=n:=by have:=HL.out;omega
 have hkn:Known l:=by(
 refine⟨by rw[HL.out];omega,(KY l).1 ?_⟩
 rw[HL.out]
 exact HK.out)
 have hl64:l.length≤64:=hkn.1.2
 have HKN:=Hd hkn
 clear hkn
 have hcalls: ∀(a b:Nat) (W:World),a < 64→b < 64→W.heap=wr.heap→Calls Tryz.prog 100 #[.slice A k c,.int .u64 (a:Int),.int .u64 (b:Int)] W fun e w'=>e= .returned (.bool (Zj l a b))∧W=w':=fun a b W ha hb hW=>ZN A k c wr.heap.size l a b W (h.keep fun _ _=>by rw[hW]) hf (by omega) (by omega)
 have HCALL:=Hd hcalls
 clear hcalls
 obtain⟨wo,rfl⟩: ∃wo:World,wo=wr:=⟨_,rfl⟩
 go_wp2
 go_loopw [5] (fun v5 wr=>R5 l wo v5 wr) (fun v5 _=>k - (intOf v5).toNat)
 case atStart=>exact⟨0,rfl,by omega,rfl,rfl⟩
 case round=>(
 obtain⟨i,rfl,hi,ht1,rfl⟩:=hrel
 have HT1:=Hd ht1
 clear ht1
 by_cases hlt1:i < k
 ·(
 have hil:i < l.length:=by rw[HL.out];exact hlt1
 have HT1S:=Hd (Zhh l i)
 have HNO1:Hid (Zj l i i=false→Uy l 9):=Hd (ZlB hl64 HKN.out hil)
 have hc1:=HCALL.out i i wr (by omega) (by omega) rfl
 cases hb1:Zj l i i with
 |false=>(
 rw[hb1] at hc1
 have HB1:=Hd hb1
 clear hb1
 go_wp2_with (go_at_call 100;refine hc1.mono ?_;rintro e w' ⟨rfl,rfl⟩)
 go_ret
 exact⟨9,rfl,HNO1.out HB1.out,Below.refl _ _⟩)
 |true=>(
 rw[hb1] at hc1
 have HB1:=Hd hb1
 clear hb1
 obtain⟨wo,rfl⟩: ∃wo:World,wo=wr:=⟨_,rfl⟩
 go_wp2_with (go_at_call 100;refine hc1.mono ?_;rintro e w' ⟨rfl,rfl⟩)
 go_loopw [6] (fun v6 wr=>R6 l wo i v6 wr) (fun v6 _=>k - (intOf v6).toNat)
 case atStart=>exact⟨0,rfl,by omega,rfl,rfl⟩
 case round=>(
 obtain⟨j,rfl,hj,ht2,rfl⟩:=hrel
 have HT2:=Hd ht2
 clear ht2 hc1
 by_cases hlt2:j < k
 ·(
 have hjl:j < l.length:=by rw[HL.out];exact hlt2
 have HT2S:=Hd (Zhg l i j)
 have HNO2:Hid ((anB l i j && tr3 l i j l.length)=false→Uy l 9):=Hd (Zi2 hl64 HKN.out hil hjl)
 have hc1:=HCALL.out i j wr (by omega) (by omega) rfl
 have hc2:=HCALL.out j i wr (by omega) (by omega) rfl
 have hAN:anB l i j= !((i !=j) && Zj l i j && Zj l j i):=rfl
 have HAN:=Hd hAN
 clear hAN
 by_cases hbad:i≠j∧Zj l i j=true∧Zj l j i=true
 ·(
 obtain⟨hne,hb1,hb2⟩:=hbad
 rw[hb1] at hc1
 rw[hb2] at hc2
 have HA0:Hid (anB l i j=false):=Hd (by rw[HAN.out,hb1,hb2];simpa using hne)
 clear hb1 hb2
 have d4:((i:Int) !=(j:Int))=true:=by simp;omega
 go_wp2_with (go_at_call 100;(first|(with_reducible refine hc1.mono ?_)|(with_reducible refine hc2.mono ?_));rintro e w' ⟨rfl,rfl⟩)
 go_ret
 exact⟨9,rfl,HNO2.out (by rw[HA0.out,Bool.false_and]),Below.refl _ _⟩)
 ·have HA1:Hid (anB l i j=true):=Hd (by
   rw[HAN.out]
   by_cases e:i=j
   ·simp[e]
   ·cases hb1:Zj l i j with
    |false=>simp
    |true=>
     cases hb2:Zj l j i with
     |false=>simp
     |true=>exact absurd ⟨e,hb1,hb2⟩ hbad)
  have h3:((i:Int) !=(j:Int))=false∨(((i:Int) !=(j:Int))=true∧Zj l i j=false)∨(((i:Int) !=(j:Int))=true∧Zj l i j=true∧Zj l j i=false):=by(
 by_cases e:i=j
 ·exact .inl (by simp[e])
 ·(
 have d4:((i:Int) !=(j:Int))=true:=by simp;omega
 cases hb1:Zj l i j with
 |false=>exact .inr (.inl ⟨d4,rfl⟩)
 |true=>(
 cases hb2:Zj l j i with
 |false=>exact .inr (.inr ⟨d4,rfl,rfl⟩)
 |true=>exact absurd ⟨e,hb1,hb2⟩ hbad)))
  clear hbad
  obtain⟨wo,rfl⟩: ∃wo:World,wo=wr:=⟨_,rfl⟩
  rcases h3 with d4|⟨d4,hb1⟩|⟨d4,hb1,hb2⟩
  (focus
   clear hc1 hc2
   go_wp2)
  rotate_left
  (focus
   rw[hb1] at hc1
   clear hb1 hc2
   go_wp2_with (go_at_call 100;refine hc1.mono ?_;rintro e w' ⟨rfl,rfl⟩)
   clear hc1)
  rotate_left
  (focus
   rw[hb1] at hc1
   rw[hb2] at hc2
   clear hb1 hb2
   go_wp2_with (go_at_call 100;(first|(with_reducible refine hc1.mono ?_)|(with_reducible refine hc2.mono ?_));rintro e w' ⟨rfl,rfl⟩)
   clear hc1 hc2)
  rotate_left
  all_goals
   go_loopw [7] (fun v7 wr=>R7 l wo i j v7 wr) (fun v7 _=>k - (intOf v7).toNat)
   case atStart=>exact⟨0,rfl,by omega,rfl,rfl⟩
   case round=>(
 obtain⟨x,rfl,hx,ht3,rfl⟩:=hrel
 have HT3:=Hd ht3
 clear ht3
 by_cases hlt3:x < k
 ·(
 have hxl:x < l.length:=by rw[HL.out];exact hlt3
 have HT3S:=Hd (Zhf l i j x)
 have HNO3:Hid (trB l i j x=false→Uy l 9):=Hd (ZlA hl64 HKN.out hil hjl hxl)
 have hc1:=HCALL.out i j wr (by omega) (by omega) rfl
 have hc2:=HCALL.out j x wr (by omega) (by omega) rfl
 have hc3:=HCALL.out i x wr (by omega) (by omega) rfl
 have HTB:Hid (trB l i j x= !(Zj l i j && Zj l j x && !Zj l i x)):=Hd rfl
 clear d4
 generalize Zj l i j=r1 at*
 generalize Zj l j x=r2 at*
 generalize Zj l i x=r3 at*
 cases r1 with
 |false=>(
 go_wp2_with (go_at_call 100;(with_reducible refine hc1.mono ?_);rintro e w' ⟨rfl,rfl⟩)
 go_roundw
 case rel=>exact⟨x+1,by go_num,by omega,by rw[HT3S.out,HT3.out,HTB.out];rfl,rfl⟩
 case measure=>simp[intOf];omega)
 |true=>(
 cases r2 with
 |false=>(
 go_wp2_with (go_at_call 100;(first|(with_reducible refine hc1.mono ?_)|(with_reducible refine hc2.mono ?_));rintro e w' ⟨rfl,rfl⟩)
 go_roundw
 case rel=>exact⟨x+1,by go_num,by omega,by rw[HT3S.out,HT3.out,HTB.out];rfl,rfl⟩
 case measure=>simp[intOf];omega)
 |true=>(
 cases r3 with
 |true=>(
 go_wp2_with (go_at_call 100;(first|(with_reducible refine hc1.mono ?_)|(with_reducible refine hc2.mono ?_)|(with_reducible refine hc3.mono ?_));rintro e w' ⟨rfl,rfl⟩)
 go_roundw
 case rel=>exact⟨x+1,by go_num,by omega,by rw[HT3S.out,HT3.out,HTB.out];rfl,rfl⟩
 case measure=>simp[intOf];omega)
 |false=>(
 go_wp2_with (go_at_call 100;(first|(with_reducible refine hc1.mono ?_)|(with_reducible refine hc2.mono ?_)|(with_reducible refine hc3.mono ?_));rintro e w' ⟨rfl,rfl⟩)
 go_ret
 exact⟨9,rfl,HNO3.out HTB.out,Below.refl _ _⟩))))
 ·(
 obtain rfl:x=k:=by have:=HL.out;omega
 go_wp2
 go_roundw
 case rel=>exact⟨j+1,by go_num,by omega,by rw[HT2S.out,HT2.out,HA1.out,HL.out,HT3.out];rfl,rfl⟩
 case measure=>simp[intOf];omega)))
 ·(
 obtain rfl:j=k:=by have:=HL.out;omega
 go_wp2
 go_roundw
 case rel=>exact⟨i+1,by go_num,by omega,by rw[HT1S.out,HT1.out,HB1.out,HL.out,HT2.out];rfl,rfl⟩
 case measure=>simp[intOf];omega))))
 ·(
 obtain rfl:i=k:=by have:=HL.out;omega
 have ho:Ux l.length (bt l):=(ZbP hl64).1 (by rw[HL.out];exact HT1.out)
 have HO:=Hd ho
 clear ho HCALL
 obtain⟨wo,rfl⟩: ∃wo:World,wo=wr:=⟨_,rfl⟩
 go_wp2
 go_loopw [8] (fun v8 wr=>R8 l wo v8 wr) (fun v8 _=>i - (intOf v8).toNat)
 case atStart=>exact⟨0,rfl,by omega,rfl,Below.refl _ _⟩
 case round=>(
 obtain⟨a,rfl,ha,hla,hbe⟩:=hrel
 have HLA:=Hd hla
 clear hla
 by_cases hlt4:a < i
 ·(
 have hal:a < l.length:=by rw[HL.out];exact hlt4
 have HLAS:=Hd (Zhj l a)
 go_wp2
 go_loopw [9] (fun v9 wr=>R9 l wo a v9 wr) (fun v9 _=>i - (intOf v9).toNat)
 case atStart=>exact⟨0,rfl,by omega,rfl,hbe⟩
 case round=>(
 clear hbe
 obtain⟨b,rfl,hb,hlb,hbe⟩:=hrel
 have HLB:=Hd hlb
 clear hlb
 by_cases hlt5:b < i
 ·(
 have hbl:b < l.length:=by rw[HL.out];exact hlt5
 have HLBS:=Hd (Zhi l a b)
 have HNO:Hid ((UD l (upsL l a b) && UE l (U4 l a b))=false→Uy l 7):=Hd (ZmN hl64 HKN.out HO.out hal hbl)
 have hr:=h.at_size lR hbe
 have hfu:Fit (upsL l a b):=ZcK _ _ (by omega)
 have hfd:Fit (U4 l a b):=ZcK _ _ (by omega)
 go_wp2_with fail
 refine(ZbA A i c l a b _ hr hf (by omega) (by omega) (by omega)).mono ?_
 rintro e w1 ⟨A1,n1,c1,rfl,f1⟩
 have hr1:=hr.at_size lR f1.bel
 go_wp2_with fail
 refine(Zbz A A1 i c n1 c1 _ _ l (upsL l a b) w1 hr1 hf f1.rd hfu).mono ?_
 rintro e w2 ⟨⟨v,rfl⟩,hd2⟩
 have b2:=Below.then (Below.then hbe f1.bel) (hd2.below (B:=w1.heap.size))
 have hr2:=hr1.at_size lR hd2.below
 clear hr hr1 hbe hd2 f1 hfu
 go_wp2_with fail
 refine(ZbB A i c l a b _ hr2 hf (by omega) (by omega) (by omega)).mono ?_
 rintro e w3 ⟨A3,n3,c3,rfl,f3⟩
 have hr3:=hr2.at_size lR f3.bel
 go_wp2_with fail
 refine(QF A A3 i c n3 c3 _ _ l (U4 l a b) w3 hr3 hf f3.rd hfd).mono ?_
 rintro e w4 ⟨⟨v2,rfl⟩,hd4⟩
 have b4:=Below.then (Below.then b2 f3.bel) (hd4.below (B:=w3.heap.size))
 clear hr2 hr3 b2 hd4 f3 hfd
 generalize UD l (upsL l a b)=p1 at*
 generalize UE l (U4 l a b)=p2 at*
 cases p1 with
 |false=>(
 go_wp2_with fail
 go_ret
 exact⟨7,rfl,HNO.out rfl,b4⟩)
 |true=>(
 cases p2 with
 |false=>(
 go_wp2_with fail
 go_ret
 exact⟨7,rfl,HNO.out rfl,b4⟩)
 |true=>(
 go_wp2_with fail
 go_roundw
 case rel=>exact⟨b+1,by go_num,by omega,by rw[HLBS.out,HLB.out];rfl,b4⟩
 case measure=>simp[intOf];omega)))
 ·(
 obtain rfl:b=i:=by have:=HL.out;omega
 go_wp2
 go_roundw
 case rel=>exact⟨a+1,by go_num,by omega,by rw[HLAS.out,HLA.out,HL.out,HLB.out];rfl,hbe⟩
 case measure=>simp[intOf];omega)))
 ·obtain rfl:a=i:=by have:=HL.out;omega
  go_wp2
  go_ret
  exact⟨0,rfl,.inr (.inr (.inr ⟨HKN.out,HO.out,(Ze0 hl64).1 (by rw[HL.out];exact HLA.out),rfl⟩)),hbe⟩)))))
end Go.Proofs.YtmejhedegmjboaaGreat.La
