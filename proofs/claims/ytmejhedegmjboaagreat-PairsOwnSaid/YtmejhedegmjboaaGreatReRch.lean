/- BoBd; BoChk: merged. -/
/- Who reaches whom by bounds, as rows of bits: what leads to what at once, and over others; what follows. No condition but sizes. -/
import Derived.LoopTactic
import Derived.Handy
import Derived.Test.YtmejhedegmjboaaGreatBoSrt
import Derived.Test.YtmejhedegmjboaaGreatLaOrd
import Derived.Test.YtmejhedegmjboaaGreatRs
namespace Go.Proofs.YtmejhedegmjboaaGreat.Bo
open Go.RowKit
structure Bd where
 av:Bool
 an:Nat
 bv:Bool
 bn:Nat
def bdc (b:Bd):List Value:= [.bool b.av,.int .u64 (b.an:Int),.bool b.bv,.int .u64 (b.bn:Int)]
theorem bdc_len (b:Bd):(bdc b).length=4:=rfl
def Bd.Fit (b:Bd):Prop:=b.an < 18446744073709551616∧b.bn < 18446744073709551616
def tmv (v:Bool)(n:Nat):Value:= .agg #[.bool v,.int .u64 (n:Int)]
theorem bd_at {w:World}{B n c:Nat}{A:Option Addr}{l:List Bd}(h:Rs bdc 4 w B A n c l){k:Nat}(hk:k < l.length): ∃b o,A=some ⟨b,o,none⟩∧b < B∧
  w.cell? ⟨b,o+k*4,none⟩=some (.bool l[k].av)∧w.cell? ⟨b,o+k*4+1,none⟩=some (.int .u64 (l[k].an:Int))∧w.cell? ⟨b,o+k*4+2,none⟩=some (.bool l[k].bv)∧w.cell? ⟨b,o+k*4+3,none⟩=some (.int .u64 (l[k].bn:Int)):=by
 obtain⟨b,o,e,hb,hc⟩:=h.spot (by have:=h.len;omega)
 exact⟨b,o,e,hb,hc k hk 0 _ rfl,hc k hk 1 _ rfl,hc k hk 2 _ rfl,hc k hk 3 _ rfl⟩
def vl (u:List Nat)(v:Bool)(n:Nat):Nat:=cond v (u.getD n 0) n
def okT (u:List Nat)(v:Bool)(n:Nat):Bool:= !v||decide (n < u.length)
def mayT (S:Sr)(k:Nat)(v:Bool)(n:Nat):Bool:=cond v (decide (n < k)) (S.has n)
theorem wrap_small {k:Nat}(h:k < 18446744073709551616):IntKind.u64.wrap (k:Int)=(k:Int):=by rw[IntKind.wrap_u64];omega
def SrtIn (w:World)(v:Value)(S:Sr):Prop:=(v= .nilIface∧S=dead)∨Srt w v S
theorem SrtIn.keep {w W:World}{v:Value}{S:Sr}(h:SrtIn w v S)(hb:Below w.heap.size w W):SrtIn W v S:=h.imp id fun h=>h.keep hb
set_option maxRecDepth 100000 in
theorem some_any (v:Value)(S:Sr)(w:World)(h:SrtIn w v S):Calls Tryz.prog 114 #[v] w fun e w'=> ∃v',e= .returned v'∧Srt w v' S∧w=w':=by
 rcases h with⟨rfl,rfl⟩|⟨a,rfl,h⟩|⟨a,rfl,h⟩|⟨rfl,h⟩
 ·go_enter Tryz.func114,Tryz.ntmps114
  go_wp2
  go_ret
  exact⟨_,rfl,.inr (.inr ⟨rfl,ans_none w⟩),rfl⟩
 ·have H:=Lib.hid h
  clear h
  go_enter Tryz.func114,Tryz.ntmps114
  go_wp2
  go_ret
  exact⟨_,rfl,.inl ⟨a,rfl,H.out⟩,rfl⟩
 ·have H:=Lib.hid h
  clear h
  go_enter Tryz.func114,Tryz.ntmps114
  go_wp2
  go_ret
  exact⟨_,rfl,.inr (.inl ⟨a,rfl,H.out⟩),rfl⟩
 ·have H:=Lib.hid h
  clear h
  go_enter Tryz.func114,Tryz.ntmps114
  go_wp2
  go_ret
  exact⟨_,rfl,.inr (.inr ⟨rfl,H.out⟩),rfl⟩
set_option maxRecDepth 100000 in
set_option maxHeartbeats 1000000 in
theorem may_any (b:Bool)(n k:Nat)(v:Value)(S:Sr)(w:World)(hs:Srt w v S)(hn:n < 18446744073709551616)(hk:k≤64):
  Calls Tryz.prog 115 #[tmv b n,v,.int .i64 (k:Int)] w fun e w'=>e= .returned (.bool (mayT S k b n))∧Below w.heap.size w w':=by
 have hw:=wrap_small (k:=k) (by omega)
 have hal:Below w.heap.size w (w.alloc (.cells #[.bool b,.int .u64 (n:Int)] 62)):=(Below.refl _ _).alloc (Nat.le_refl _) _
 unfold tmv mayT
 cases b with
 |true=>
  clear hs
  simp only[cond_true]
  have e:decide (n < k)=decide ((n:Int) < (k:Int)):=by congr 1;simp
  rw[e]
  generalize hd:decide ((n:Int) < (k:Int))=d at*
  go_enter Tryz.func115,Tryz.ntmps115
  go_wp2
  go_ret
  exact⟨rfl,hal⟩
 |false=>
  simp only[cond_false]
  have HN:=Lib.hid hn
  clear hw hk hn
  rcases hs with⟨a,rfl,h⟩|⟨a,rfl,h⟩|⟨rfl,h⟩
  all_goals(
   have H:=Lib.hid (h.has _ hal n HN.out)
   clear h
   generalize S.has n=r at*
   have HA:=Lib.hid hal
   clear hal
   go_enter Tryz.func115,Tryz.ntmps115
   go_wp2_with fail
   refine H.out.mono ?_
   rintro e w1 ⟨rfl,hb⟩
   go_wp2_with fail
   go_ret
   exact⟨rfl,HA.out.trans (hb.mono HA.out.size)⟩)
set_option maxRecDepth 100000 in
set_option maxHeartbeats 1000000 in
theorem value_any (b:Bool)(n:Nat)(A:Option Addr)(m c B:Nat)(u:List Nat)(w:World)(h:Rd La.nm w B A m c u)(hB:B≤w.heap.size)(hn:n < 18446744073709551616)(x:Nat)(y:Bool)(hx:vl u b n=x)(hy:okT u b n=y):
  Calls Tryz.prog 145 #[tmv b n,.slice A m c] w fun e w'=>e= .returned (.tuple #[.int .u64 (x:Int),.bool y])∧Below w.heap.size w w':=by
 have hal:Below w.heap.size w (w.alloc (.cells #[.bool b,.int .u64 (n:Int)] 62)):=(Below.refl _ _).alloc (Nat.le_refl _) _
 have hlen:=h.len
 have htop:=h.top
 have hcap:=h.cap
 unfold maxLen at htop
 have hw:=wrap_small (k:=m) (by omega)
 unfold tmv
 subst hx hy
 cases b with
 |false=>
  simp only[vl,okT,cond_false,Bool.not_false,Bool.true_or]
  clear h
  go_enter Tryz.func145,Tryz.ntmps145
  go_wp2
  exact bodyPost_ret (v:= .tuple #[.int .u64 (n:Int),.bool true]) (by simp[results,Tryz.results145,go_sem]) rfl ⟨rfl,hal⟩
 |true=>
  simp only[vl,okT,cond_true,Bool.not_true,Bool.false_or]
  by_cases hlt:n < u.length
  ·have e:u.getD n 0=u[n]:=by simp[hlt]
   rw[e,decide_eq_true hlt]
   obtain⟨b,o,rfl,hb,hc'⟩:=h.spot (by omega)
   have hc:=hc' n hlt
   clear hc'
   have hc1:=(hal.cell (p:=⟨b,o+n,none⟩) (show b < _ by omega)).trans hc
   replace hc1:_=some (Value.int .u64 (u[n]:Int)):=hc1
   have hlt':n < m:=by omega
   clear h hc e
   generalize u[n]=q at*
   clear hlt hlen
   go_enter Tryz.func145,Tryz.ntmps145
   go_wp2
   exact bodyPost_ret (v:= .tuple #[.int .u64 (q:Int),.bool true]) (by simp[results,Tryz.results145,go_sem]) rfl ⟨rfl,hal⟩
  ·have e:u.getD n 0=0:=by simp[List.getD,List.getElem?_eq_none (Nat.le_of_not_lt hlt)]
   rw[e,decide_eq_false hlt]
   have hge: ¬n < m:=by omega
   clear h e hlt hlen
   go_enter Tryz.func145,Tryz.ntmps145
   go_wp2
   exact bodyPost_ret (v:= .tuple #[.int .u64 0,.bool false]) (by simp[results,Tryz.results145,go_sem]) rfl ⟨rfl,hal⟩
end Go.Proofs.YtmejhedegmjboaaGreat.Bo
namespace Go.Proofs.YtmejhedegmjboaaGreat.Bo
open Go.RowKit
def mayB (S:Sr)(k:Nat)(b:Bd):Bool:=mayT S k b.av b.an && mayT S k b.bv b.bn
def chkS (S:Sr)(k:Int)(l:List Bd):Int:=if k < 0∨64 < k∨256 < l.length then 3 else if l.all (mayB S k.toNat) then 0 else 1
def okB (S:Sr)(u:List Nat)(b:Bd):Bool:=okT u b.av b.an && okT u b.bv b.bn && S.below (vl u b.av b.an) (vl u b.bv b.bn)
def holdS (S:Sr)(u:List Nat)(l:List Bd):Bool:=l.all (okB S u)
theorem vl_fit {u:List Nat}(hu:La.Fit u){v:Bool}{n:Nat}(hn:n < 18446744073709551616):vl u v n < 18446744073709551616:=by
 cases v with
 |false=>exact hn
 |true=>
  show u.getD n 0 < _
  by_cases h:n < u.length
  ·rw[List.getD_eq_getElem?_getD,List.getElem?_eq_getElem h]
   exact hu.get n h
  ·rw[List.getD_eq_getElem?_getD,List.getElem?_eq_none (Nat.le_of_not_lt h)]
   exact Nat.zero_lt_succ _
theorem all_step {α:Type}{p:α→Bool}{l:List α}{i:Nat}(hi:i < l.length)(h:(l.take i).all p=true):(l.take (i+1)).all p=p l[i]:=by
 rw[List.take_succ_eq_append_getElem hi,List.all_append,h]
 simp
theorem all_off {α:Type}{p:α→Bool}{l:List α}{i:Nat}(hi:i < l.length)(h:p l[i]=false):l.all p=false:=by
 refine Bool.eq_false_iff.2 fun e=> ?_
 have:=List.all_eq_true.1 e _ (List.getElem_mem hi)
 rw[h] at this
 cases this
def AllRel (p:Bd→Bool)(l:List Bd)(w:World)(v:Value)(wr:World):Prop:= ∃i:Nat,v= .int .i64 (i:Int)∧i≤l.length∧(l.take i).all p=true∧Below w.heap.size w wr
set_option maxRecDepth 100000 in
set_option maxHeartbeats 2000000 in
theorem check_any (v:Value)(k:Int)(A:Option Addr)(n c:Nat)(l:List Bd)(S:Sr)(w:World)(x:Int)(hs:SrtIn w v S)(h:Rs bdc 4 w w.heap.size A n c l)(hf: ∀b∈l,b.Fit)(hx:chkS S k l=x):
  Calls Tryz.prog 70 #[v,.int .i64 k,.slice A n c] w fun e w'=>e= .returned (.int .i64 x)∧Below w.heap.size w w':=by
 have hlen:=h.len
 by_cases h0:k < 0
 ·obtain rfl:(3:Int)=x:=by rw[← hx,chkS,if_pos (.inl h0)]
  clear hx hs h hf
  go_enter Tryz.func70,Tryz.ntmps70
  go_wp2
  go_ret
  exact⟨rfl,Below.refl _ _⟩
 by_cases h1:64 < k
 ·obtain rfl:(3:Int)=x:=by rw[← hx,chkS,if_pos (.inr (.inl h1))]
  clear hx hs h hf
  go_enter Tryz.func70,Tryz.ntmps70
  go_wp2
  go_ret
  exact⟨rfl,Below.refl _ _⟩
 by_cases h2:256 < n
 ·obtain rfl:(3:Int)=x:=by rw[← hx,chkS,if_pos (.inr (.inr (by rw[hlen];exact h2)))]
  have h2':(256:Int) < (n:Int):=by omega
  clear hx hs h hf h2
  go_enter Tryz.func70,Tryz.ntmps70
  go_wp2
  go_ret
  exact⟨rfl,Below.refl _ _⟩
 obtain⟨q,rfl⟩: ∃q:Nat,k=(q:Int):=⟨k.toNat,by omega⟩
 have hq:q≤64:=by omega
 have h0': ¬(q:Int) < 0:=by omega
 have h2': ¬(256:Int) < (n:Int):=by omega
 have hx':(if l.all (mayB S q) then(0:Int) else 1)=x:=by rw[← hx,chkS,if_neg (show ¬((q:Int) < 0∨64 < (q:Int)∨256 < l.length) by omega),Int.toNat_natCast]
 have HX:=Lib.hid hx'
 have HF:=Lib.hid hf
 have HQ:=Lib.hid hq
 have HL:=Lib.hid hlen
 have htop:=h.top
 have hcap:=h.cap
 unfold maxLen at htop
 have HR:=Lib.hid h
 have hcall:=some_any v S w hs
 clear hx hx' hf hq hlen h hs h0 h2
 go_enter Tryz.func70,Tryz.ntmps70
 go_wp2_with fail
 refine hcall.mono ?_
 rintro e w1 ⟨v',rfl,hs,rfl⟩
 have HS:=Lib.hid hs
 clear hs hcall
 go_wp2_with fail
 clear h0' h1 h2'
 go_loopw [24] (fun v24 wr=>AllRel (mayB S q) l w v24 wr) (fun v24 _=>n - (intOf v24).toNat)
 case atStart=>exact⟨0,rfl,by omega,rfl,Below.refl _ _⟩
 case round=>
  obtain⟨i,rfl,hi,hall,hb⟩:=hrel
  by_cases hlt:i < n
  ·have hi':i < l.length:=by rw[HL.out];exact hlt
   have hr:=(HR.out.at_size (Nat.le_refl _) hb)
   obtain⟨b,o,rfl,hbb,e0,e1,e2,e3⟩:=bd_at hr hi'
   have hu:=HF.out _ (List.getElem_mem hi')
   obtain⟨r1,hr1⟩: ∃r,mayT S q l[i].av l[i].an=r:=⟨_,rfl⟩
   obtain⟨r2,hr2⟩: ∃r,mayT S q l[i].bv l[i].bn=r:=⟨_,rfl⟩
   have HST:Hid ((l.take (i+1)).all (mayB S q)=(r1 && r2)):=Lib.hid (by rw[all_step hi' hall,mayB,hr1,hr2])
   have HNO:Hid ((r1 && r2)=false→l.all (mayB S q)=false):=Lib.hid fun e=>all_off hi' (by rw[mayB,hr1,hr2];exact e)
   generalize l[i]=y at*
   obtain⟨av,an,bv,bn⟩:=y
   simp only at e0 e1 e2 e3 hu hr1 hr2
   have hal:Below wr.heap.size wr (wr.alloc (.cells #[.bool av,.int .u64 (an:Int),.bool bv,.int .u64 (bn:Int)] 69)):=(Below.refl _ _).alloc (Nat.le_refl _) _
   have hb1:=hb.trans (hal.mono hb.size)
   have hm1:=may_any av an q v' S _ (HS.out.keep hb1) hu.1 HQ.out
   have HM2:Hid (∀W,Below w.heap.size w W→Calls Tryz.prog 115 #[tmv bv bn,v',.int .i64 (q:Int)] W fun e w'=>e= .returned (.bool r2)∧Below W.heap.size W w'):=
    Lib.hid fun W hW=>hr2▸may_any bv bn q v' S W (HS.out.keep hW) hu.2 HQ.out
   rw[hr1] at hm1
   have HM1:=Lib.hid hm1
   have HB1:=Lib.hid hb1
   have hcx:=fun (j:Nat) (hj:j < 4)=>cell_blk (i:=j) (heap_alloc_new wr (.cells #[.bool av,.int .u64 (an:Int),.bool bv,.int .u64 (bn:Int)] 69))
   have HLT:=Lib.hid hlt
   clear hall hr hu hr1 hr2 hbb hal hb1 hm1 hi'
   unfold tmv at HM1 HM2
   go_wp2_with fail
   refine HM1.out.mono ?_
   rintro e w2 ⟨rfl,hb2⟩
   have g2:=(hb2.cell (p:=⟨wr.heap.size,2,none⟩) (show wr.heap.size < (wr.alloc _).heap.size by simp)).trans (hcx 2 (by decide))
   have g3:=(hb2.cell (p:=⟨wr.heap.size,3,none⟩) (show wr.heap.size < (wr.alloc _).heap.size by simp)).trans (hcx 3 (by decide))
   replace g2:_=some (Value.bool bv):=g2
   replace g3:_=some (Value.int .u64 (bn:Int)):=g3
   have HB2:=Lib.hid (HB1.out.trans (hb2.mono HB1.out.size))
   clear hb2 hcx e0 e1 e2 e3 HM1
   cases r1 with
   |false=>
    have HN:=Lib.hid (HNO.out rfl)
    clear HNO HST
    go_wp2_with fail
    go_ret
    refine⟨?_,HB2.out⟩
    rw[← HX.out,HN.out]
    rfl
   |true=>
    have hm2:=HM2.out _ HB2.out
    go_wp2_with fail
    refine hm2.mono ?_
    rintro e w3 ⟨rfl,hb3⟩
    have HB3:=Lib.hid (HB2.out.trans (hb3.mono HB2.out.size))
    clear hb3 hm2 g2 g3
    cases r2 with
    |false=>
     have HN:=Lib.hid (HNO.out rfl)
     clear HNO HST
     go_wp2_with fail
     go_ret
     refine⟨?_,HB3.out⟩
     rw[← HX.out,HN.out]
     rfl
    |true=>
     clear HNO
     go_wp2_with fail
     go_roundw
     case rel=>exact⟨i+1,by go_num,by have:=HLT.out;have:=HL.out;omega,HST.out,HB3.out⟩
     case measure=>
      have:=HLT.out
      simp[intOf]
      omega
  ·obtain rfl:i=n:=by have:=HL.out;omega
   have HE:Hid ((0:Int)=x):=Lib.hid (by
    rw[List.take_of_length_le (by rw[HL.out];omega)] at hall
    rw[← HX.out,hall]
    rfl)
   clear hall
   go_wp2
   go_ret
   exact⟨by rw[← HE.out];rfl,hb⟩
set_option maxRecDepth 100000 in
set_option maxHeartbeats 4000000 in
theorem hold_any (v:Value)(A2:Option Addr)(m c2:Nat)(u:List Nat)(A:Option Addr)(n c:Nat)(l:List Bd)(S:Sr)(w:World)(x:Bool)(hs:SrtIn w v S)(hr2:Rd La.nm w w.heap.size A2 m c2 u)(hfu:La.Fit u)(h:Rs bdc 4 w w.heap.size A n c l)(hf: ∀b∈l,b.Fit)(hx:holdS S u l=x):
  Calls Tryz.prog 117 #[v,.slice A2 m c2,.slice A n c] w fun e w'=>e= .returned (.bool x)∧Below w.heap.size w w':=by
 have hlen:=h.len
 have HX:=Lib.hid hx
 have HF:=Lib.hid hf
 have HL:=Lib.hid hlen
 have htop:=h.top
 have hcap:=h.cap
 unfold maxLen at htop
 have HR:=Lib.hid h
 have HR2:=Lib.hid hr2
 have HFU:=Lib.hid hfu
 have hcall:=some_any v S w hs
 clear hx hf hlen h hs hr2 hfu
 go_enter Tryz.func117,Tryz.ntmps117
 go_wp2_with fail
 refine hcall.mono ?_
 rintro e w1 ⟨v',rfl,hs,rfl⟩
 have HS:=Lib.hid hs
 clear hcall
 rcases hs with⟨a,rfl,hA⟩|⟨a,rfl,hA⟩|⟨rfl,hA⟩
 all_goals(
  have HA:=Lib.hid hA
  clear hA
  go_wp2_with fail
  go_loopw [17] (fun v17 wr=>AllRel (okB S u) l w v17 wr) (fun v17 _=>n - (intOf v17).toNat)
  case atStart=>exact⟨0,rfl,by omega,rfl,Below.refl _ _⟩
  case round=>
   obtain⟨i,rfl,hi,hall,hb⟩:=hrel
   by_cases hlt:i < n
   ·have hi':i < l.length:=by rw[HL.out];exact hlt
    have hr:=(HR.out.at_size (Nat.le_refl _) hb)
    obtain⟨b,o,rfl,hbb,e0,e1,e2,e3⟩:=bd_at hr hi'
    have hu:=HF.out _ (List.getElem_mem hi')
    obtain⟨x1,hx1⟩: ∃r,vl u l[i].av l[i].an=r:=⟨_,rfl⟩
    obtain⟨x2,hx2⟩: ∃r,vl u l[i].bv l[i].bn=r:=⟨_,rfl⟩
    obtain⟨y1,hy1⟩: ∃r,okT u l[i].av l[i].an=r:=⟨_,rfl⟩
    obtain⟨y2,hy2⟩: ∃r,okT u l[i].bv l[i].bn=r:=⟨_,rfl⟩
    obtain⟨z,hz⟩: ∃r,S.below x1 x2=r:=⟨_,rfl⟩
    have HST:Hid ((l.take (i+1)).all (okB S u)=(y1 && y2 && z)):=Lib.hid (by rw[all_step hi' hall,okB,hx1,hx2,hy1,hy2,hz])
    have HNO:Hid ((y1 && y2 && z)=false→holdS S u l=false):=Lib.hid fun e=>all_off hi' (by rw[okB,hx1,hx2,hy1,hy2,hz];exact e)
    generalize l[i]=y at*
    obtain⟨av,an,bv,bn⟩:=y
    simp only at e0 e1 e2 e3 hu hx1 hx2 hy1 hy2
    have hx1f:x1 < 18446744073709551616:=hx1▸vl_fit HFU.out hu.1
    have hx2f:x2 < 18446744073709551616:=hx2▸vl_fit HFU.out hu.2
    have hal:Below wr.heap.size wr (wr.alloc (.cells #[.bool av,.int .u64 (an:Int),.bool bv,.int .u64 (bn:Int)] 69)):=(Below.refl _ _).alloc (Nat.le_refl _) _
    have hb1:=hb.trans (hal.mono hb.size)
    have HM:Hid (∀W,Below w.heap.size w W→Calls Tryz.prog 145 #[tmv av an,.slice A2 m c2] W fun e w'=>e= .returned (.tuple #[.int .u64 (x1:Int),.bool y1])∧Below W.heap.size W w'):=
     Lib.hid fun W hW=>value_any av an A2 m c2 W.heap.size u W (HR2.out.at_size (Nat.le_refl _) hW) (Nat.le_refl _) hu.1 x1 y1 hx1 hy1
    have HM2:Hid (∀W,Below w.heap.size w W→Calls Tryz.prog 145 #[tmv bv bn,.slice A2 m c2] W fun e w'=>e= .returned (.tuple #[.int .u64 (x2:Int),.bool y2])∧Below W.heap.size W w'):=
     Lib.hid fun W hW=>value_any bv bn A2 m c2 W.heap.size u W (HR2.out.at_size (Nat.le_refl _) hW) (Nat.le_refl _) hu.2 x2 y2 hx2 hy2
    have HM3:=Lib.hid fun W hW=>hz▸HA.out.below W hW x1 x2 hx1f hx2f
    have hm1:=HM.out _ hb1
    have HM1:=Lib.hid hm1
    have HB1:=Lib.hid hb1
    have hcx:=fun (j:Nat) (hj:j < 4)=>cell_blk (i:=j) (heap_alloc_new wr (.cells #[.bool av,.int .u64 (an:Int),.bool bv,.int .u64 (bn:Int)] 69))
    have HLT:=Lib.hid hlt
    clear hall hr hu hx1 hx2 hy1 hy2 hz hx1f hx2f hbb hal hb1 hm1 hi' HM
    unfold tmv at HM1 HM2
    go_wp2_with fail
    refine HM1.out.mono ?_
    rintro e w2 ⟨rfl,hb2⟩
    have g2:=(hb2.cell (p:=⟨wr.heap.size,2,none⟩) (show wr.heap.size < (wr.alloc _).heap.size by simp)).trans (hcx 2 (by decide))
    have g3:=(hb2.cell (p:=⟨wr.heap.size,3,none⟩) (show wr.heap.size < (wr.alloc _).heap.size by simp)).trans (hcx 3 (by decide))
    replace g2:_=some (Value.bool bv):=g2
    replace g3:_=some (Value.int .u64 (bn:Int)):=g3
    have HB2:=Lib.hid (HB1.out.trans (hb2.mono HB1.out.size))
    clear hb2 hcx e0 e1 e2 e3 HM1
    have hm2:=HM2.out _ HB2.out
    go_wp2_with fail
    refine hm2.mono ?_
    rintro e w3 ⟨rfl,hb3⟩
    have HB3:=Lib.hid (HB2.out.trans (hb3.mono HB2.out.size))
    clear hb3 hm2 g2 g3 HM2
    cases y1 with
    |false=>
     have HN:=Lib.hid (HNO.out rfl)
     clear HNO HST
     go_wp2_with fail
     go_ret
     refine⟨?_,HB3.out⟩
     rw[← HX.out,HN.out]
     rfl
    |true=>
     cases y2 with
     |false=>
      have HN:=Lib.hid (HNO.out rfl)
      clear HNO HST
      go_wp2_with fail
      go_ret
      refine⟨?_,HB3.out⟩
      rw[← HX.out,HN.out]
      rfl
     |true=>
      have hm3:=HM3.out _ HB3.out
      go_wp2_with fail
      refine hm3.mono ?_
      rintro e w4 ⟨rfl,hb4⟩
      have HB4:=Lib.hid (HB3.out.trans (hb4.mono HB3.out.size))
      clear hb4 hm3 HM3
      cases z with
      |false=>
       have HN:=Lib.hid (HNO.out rfl)
       clear HNO HST
       go_wp2_with fail
       go_ret
       refine⟨?_,HB4.out⟩
       rw[← HX.out,HN.out]
       rfl
      |true=>
       clear HNO
       go_wp2_with fail
       go_roundw
       case rel=>exact⟨i+1,by go_num,by have:=HLT.out;have:=HL.out;omega,HST.out,HB4.out⟩
       case measure=>
        have:=HLT.out
        simp[intOf]
        omega
   ·obtain rfl:i=n:=by have:=HL.out;omega
    have HE:Hid (true=x):=Lib.hid (by
     rw[List.take_of_length_le (by rw[HL.out];omega)] at hall
     rw[← HX.out,holdS,hall])
    clear hall
    go_wp2
    go_ret
    exact⟨by rw[← HE.out];rfl,hb⟩)
end Go.Proofs.YtmejhedegmjboaaGreat.Bo
namespace Go.Proofs.YtmejhedegmjboaaGreat.Re
open Go.Proofs.YtmejhedegmjboaaGreat.Bo (Bd bdc bdc_len bd_at tmv wrap_small AllRel all_step all_off)
open La (bt Clos stepW OnTo)
def mayV (n:Nat)(v:Bool)(k:Nat):Bool:= !v||decide (k < n)
def mayB (n:Nat)(b:Bd):Bool:=mayV n b.av b.an && mayV n b.bv b.bn
def ofE (k:Int)(l:List Bd):Int:=if k < 0∨64 < k∨256 < l.length then 3 else if l.all (mayB k.toNat) then 0 else 1
def Edge (l:List Bd)(i j:Nat):Prop:= ∃b∈l,b.av=true∧b.bv=true∧b.an=i∧b.bn=j
def idK (k:Nat):List Nat:=(List.range 64).map fun i=>if i < k then 2 ^ i else 0
theorem idK_len (k:Nat):(idK k).length=64:=by simp[idK]
theorem idK_set {k:Nat}:(idK k).set k (2 ^ k)=idK (k+1):=by
 apply List.ext_getElem (by simp[idK])
 intro x h1 h2
 by_cases e:x=k
 ·subst e
  rw[List.getElem_set_self]
  simp[idK]
 ·have:(x < k+1)=(x < k):=propext ⟨fun h=>by omega,fun h=>by omega⟩
  rw[List.getElem_set_ne (by omega)]
  simp[idK,this]
theorem idK_bt {n:Nat}(h:n≤64)(i j:Nat):bt (idK n) i j=true↔i < n∧i=j:=by
 by_cases hi:i < 64
 ·rw[La.bt_get (by simpa [idK] using hi)]
  by_cases hn:i < n
  ·simp[idK,Nat.testBit_two_pow,hn]
  ·simp[idK,hn]
 ·constructor
  ·intro hb
   exact absurd (by have:=La.bt_lt hb;simpa [idK] using this) hi
  ·rintro⟨h1,-⟩
   omega
theorem idK_lt (n:Nat): ∀x∈idK n,x < 2 ^ 64:=by
 intro x hx
 obtain⟨i,hi,rfl⟩:=List.mem_map.1 hx
 have hi:=List.mem_range.1 hi
 split
 ·exact Nat.pow_lt_pow_right (by decide) hi
 ·exact Nat.two_pow_pos 64
def putB (t:List Nat)(b:Bd):List Nat:=cond (b.av && b.bv) (t.set b.an (t.getD b.an 0|||2 ^ b.bn)) t
def dirN (n:Nat)(l:List Bd):List Nat:=l.foldl putB (idK n)
theorem may_var {n k:Nat}(h:mayV n true k=true):k < n:=by simpa [mayV] using h
theorem mayB_edge {n:Nat}{b:Bd}(h:mayB n b=true)(ha:b.av=true)(hb:b.bv=true):b.an < n∧b.bn < n:=by
 rw[mayB,Bool.and_eq_true,ha,hb] at h
 exact⟨may_var h.1,may_var h.2⟩
theorem putB_len (t:List Nat)(b:Bd):(putB t b).length=t.length:=by
 unfold putB
 cases b.av && b.bv <;> simp
theorem putB_lt {n:Nat}(hn:n≤64){t:List Nat}{b:Bd}(hm:mayB n b=true)(ht:t.length=64)(h: ∀x∈t,x < 2 ^ 64): ∀x∈putB t b,x < 2 ^ 64:=by
 unfold putB
 cases ha:b.av with
 |false=>simpa using h
 |true=>
  cases hb:b.bv with
  |false=>simpa using h
  |true=>
   obtain⟨h1,h2⟩:=mayB_edge hm ha hb
   intro x hx
   rcases List.mem_or_eq_of_mem_set hx with hx|rfl
   ·exact h x hx
   ·exact Nat.or_lt_two_pow (h _ (La.getD_mem (by omega))) (Nat.pow_lt_pow_right (by decide) (by omega))
theorem putB_bt {n:Nat}(hn:n≤64){t:List Nat}{b:Bd}(hm:mayB n b=true)(ht:t.length=64)(i j:Nat):bt (putB t b) i j=true↔bt t i j=true∨(b.av=true∧b.bv=true∧b.an=i∧b.bn=j):=by
 unfold putB
 cases ha:b.av with
 |false=>simp
 |true=>
  cases hb:b.bv with
  |false=>simp
  |true=>
   obtain⟨h1,h2⟩:=mayB_edge hm ha hb
   rw[Bool.true_and,cond_true,La.set_bt (by omega)]
   by_cases e:i=b.an
   ·subst e
    rw[if_pos rfl,Nat.testBit_or,Nat.testBit_two_pow,Bool.or_eq_true,decide_eq_true_iff]
    simp[bt]
   ·have: ¬b.an=i:=fun h=>e h.symm
    rw[if_neg e]
    simp[this]
theorem fold_facts {n:Nat}(hn:n≤64): ∀(l:List Bd) (t:List Nat),t.length=64→(∀x∈t,x < 2 ^ 64)→(∀b∈l,mayB n b=true)→
  (l.foldl putB t).length=64∧(∀x∈l.foldl putB t,x < 2 ^ 64)∧ ∀i j,bt (l.foldl putB t) i j=true↔bt t i j=true∨Edge l i j
 | [],t,h1,h2,_=>⟨h1,h2,fun i j=>⟨.inl,fun h=>h.elim id fun ⟨b,hb,_⟩=>by cases hb⟩⟩
 |b::l,t,h1,h2,h3=>by
  have hm:=h3 b (List.mem_cons_self ..)
  obtain⟨g1,g2,g3⟩:=fold_facts hn l (putB t b) (by rw[putB_len];exact h1) (putB_lt hn hm h1 h2) fun c hc=>h3 c (List.mem_cons_of_mem _ hc)
  refine⟨g1,g2,fun i j=> ?_⟩
  rw[List.foldl_cons,g3,putB_bt hn hm h1,or_assoc]
  refine or_congr Iff.rfl ?_
  unfold Edge
  simp only[List.mem_cons,exists_eq_or_imp]
def thrN (n:Nat)(t:List Nat):Nat→List Nat
 |0=>t
 |k+1=>stepW (thrN n t k) k n
def rchN (n:Nat)(l:List Bd):List Nat:=thrN n (dirN n l) n
section
variable {n:Nat} {l:List Bd} (hn:n≤64) (hm: ∀b∈l,mayB n b=true)
include hn hm
theorem dir_len:(dirN n l).length=64:=(fold_facts hn l _ (idK_len n) (idK_lt n) hm).1
theorem dir_lt: ∀x∈dirN n l,x < 2 ^ 64:=(fold_facts hn l _ (idK_len n) (idK_lt n) hm).2.1
theorem dir_bt (i j:Nat):bt (dirN n l) i j=true↔(i < n∧i=j)∨Edge l i j:=by
 rw[dirN,(fold_facts hn l _ (idK_len n) (idK_lt n) hm).2.2,idK_bt hn]
theorem dir_low {i j:Nat}(h:bt (dirN n l) i j=true):i < n∧j < n:=by
 rcases(dir_bt hn hm i j).1 h with⟨h1,rfl⟩|⟨b,hb,h1,h2,rfl,rfl⟩
 ·exact⟨h1,h1⟩
 ·exact mayB_edge (hm b hb) h1 h2
theorem thr_way: ∀k,La.Way 64 (bt (dirN n l)) (thrN n (dirN n l) k)
 |0=>⟨dir_len hn hm,dir_lt hn hm,fun _ _ h=>h,fun _ t1 _ i j h=>t1 i j h⟩
 |k+1=>by
  have h:=thr_way k
  refine⟨by rw[thrN,La.stepW_len];exact h.len,fun x hx=> ?_,fun i j hr=>(La.stepW_bt _ _ _ _ _).2 (.inl (h.has i j hr)),fun T t1 t2 i j hb=> ?_⟩
  ·obtain⟨y,hy,rfl⟩:=List.mem_map.1 hx
   have hy:=List.mem_range.1 hy
   split
   ·refine Nat.or_lt_two_pow (h.lt _ (La.getD_mem hy)) ?_
    by_cases hk:k < (thrN n (dirN n l) k).length
    ·exact h.lt _ (La.getD_mem hk)
    ·rw[La.getD_none hk]
     exact Nat.two_pow_pos 64
   ·exact h.lt _ (La.getD_mem hy)
  ·have hl:=h.least T t1 t2
   rcases(La.stepW_bt _ _ _ _ _).1 hb with g|⟨_,g1,g2⟩
   ·exact hl _ _ g
   ·exact t2 _ _ _ (hl _ _ g1) (hl _ _ g2)
theorem thr_low {k i j:Nat}(h:bt (thrN n (dirN n l) k) i j=true):i < n∧j < n:=
 (thr_way hn hm k).least (fun i j=>i < n∧j < n) (fun _ _ g=>dir_low hn hm g) (fun _ _ _ g1 g2=>⟨g1.1,g2.2⟩) i j h
theorem thr_on: ∀k,OnTo (thrN n (dirN n l) k) k
 |0=>fun m hm=>absurd hm (Nat.not_lt_zero m)
 |k+1=>by
  have h:=thr_on k
  have key: ∀x j,bt (thrN n (dirN n l) (k+1)) x j=true↔bt (thrN n (dirN n l) k) x j=true∨(bt (thrN n (dirN n l) k) x k=true∧bt (thrN n (dirN n l) k) k j=true):=fun x j=>by
   rw[thrN,La.stepW_bt]
   exact⟨fun h=>h.elim .inl fun h=> .inr h.2,fun h=>h.elim .inl fun h=> .inr ⟨(thr_low hn hm h.1).1,h⟩⟩
  intro m hmk i j h1 h2
  rw[key] at h1 h2 ⊢
  by_cases e:m=k
  ·subst e
   exact .inr ⟨h1.elim id (·.1),h2.elim id (·.2)⟩
  ·have hm':m < k:=by omega
   rcases h1 with h1|⟨h1,h1'⟩ <;> rcases h2 with h2|⟨h2,h2'⟩
   ·exact .inl (h m hm' i j h1 h2)
   ·exact .inr ⟨h m hm' i k h1 h2,h2'⟩
   ·exact .inr ⟨h1,h m hm' k j h1' h2⟩
   ·exact .inr ⟨h1,h2'⟩
theorem rch_clos:Clos (bt (dirN n l)) (bt (rchN n l)):=
 (thr_way hn hm n).clos fun i j k h1 h2=>thr_on hn hm n j (thr_low hn hm h2).1 i k h1 h2
theorem rch_self {i:Nat}(h:i < n):bt (rchN n l) i i=true:=(rch_clos hn hm).has _ _ ((dir_bt hn hm i i).2 (.inl ⟨h,rfl⟩))
theorem rch_edge {i j:Nat}(h:Edge l i j):bt (rchN n l) i j=true:=(rch_clos hn hm).has _ _ ((dir_bt hn hm i j).2 (.inr h))
theorem rch_on {i j k:Nat}(h1:bt (rchN n l) i j=true)(h2:bt (rchN n l) j k=true):bt (rchN n l) i k=true:=(rch_clos hn hm).on i j k h1 h2
theorem rch_least {T:Nat→Nat→Prop}(t0: ∀i,i < n→T i i)(t1: ∀i j,Edge l i j→T i j)(t2: ∀i j k,T i j→T j k→T i k){i j:Nat}(h:bt (rchN n l) i j=true):T i j:=by
 refine(rch_clos hn hm).least T (fun i j g=> ?_) t2 i j h
 rcases(dir_bt hn hm i j).1 g with⟨h1,rfl⟩|h1
 ·exact t0 _ h1
 ·exact t1 _ _ h1
end
theorem ofE_is {q:Nat}{l:List Bd}(h1:q≤64)(h2:l.length≤256)(h3: ∀b∈l,mayB q b=true):ofE (q:Int) l=0:=by
 unfold ofE
 rw[if_neg (by omega),Int.toNat_natCast,if_pos (List.all_eq_true.2 h3)]
end Go.Proofs.YtmejhedegmjboaaGreat.Re
