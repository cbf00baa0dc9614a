import Derived.WalkMore
import Derived.Test.YtfmpecnkkbpdlaaGreatDoorBoRefR
import Derived.Test.YtfmpecnkkbpdlaaGreatDoorBoRefV
import Derived.Test.YtfmpecnkkbpdlaaGreatDoorSen
set_option maxRecDepth 100000
set_option maxHeartbeats 16000000
namespace Go.Proofs.YtfmpecnkkbpdlaaGreatDoor.Bo
open Go.RowKit
theorem Lw.congrq {S:Sr}{q:Nat}{P Q P' Q':Nat→Nat→Prop}{v:List Nat}(h:Lw S q P Q v)(hp: ∀c x,x < q→(P' c x↔P c x))(hq: ∀c x,Q' c x→Q c x):Lw S q P' Q' v:=
 ⟨h.has,h.bot,fun c x hx k=>h.up c x hx ((hp c x hx).1 k),fun x hx y hy k=>h.lub x hx y hy fun c kc=>k c ((hp c x hx).2 kc),fun c d k=>h.dn c d (hq c d k)⟩
def PA (l:List Bd)(cs:List Tm)(i c x:Nat):Prop:= ∃j,j < i∧cs[j]?=some (false,c)∧Reach l (false,c) (true,x)
def QA (l:List Bd)(cs:List Tm)(i c d:Nat):Prop:= ∃j,j < i∧cs[j]?=some (false,c)∧Reach l (false,c) (false,d)
def PB (l:List Bd)(cs:List Tm)(i cv:Nat)(to:List Tm)(k c x:Nat):Prop:=PA l cs i c x∨(c=cv∧(true,x)∈to.take k)
def QB (l:List Bd)(cs:List Tm)(i cv:Nat)(to:List Tm)(k c d:Nat):Prop:=QA l cs i c d∨(c=cv∧(false,d)∈to.take k)
theorem ZiX {l:List Bd}{cs:List Tm}{c x:Nat}:PA l cs 0 c x↔False:=⟨fun ⟨_,h,_⟩=>by omega,False.elim⟩
theorem ZiY {l:List Bd}{cs:List Tm}{c x:Nat}:QA l cs 0 c x→False:=fun ⟨_,h,_⟩=>by omega
theorem ZiZ {l:List Bd}{cs:List Tm}{i cv:Nat}{to:List Tm}{c x:Nat}:PB l cs i cv to 0 c x↔PA l cs i c x:=⟨fun h=>h.elim id fun h=>by simp at h,.inl⟩
theorem Zi0 {l:List Bd}{cs:List Tm}{i cv:Nat}{to:List Tm}{c x:Nat}:QB l cs i cv to 0 c x→QA l cs i c x:=fun h=>h.elim id fun h=>by simp at h
theorem UK {to:List Tm}{k:Nat}(hk:k < to.length){t:Tm}:t∈to.take (k+1)↔t∈to.take k∨t=to[k]:=by
 rw[List.take_succ_eq_append_getElem hk,List.mem_append,List.mem_singleton]
theorem Zke {l:List Bd}{cs:List Tm}{i cv:Nat}{to:List Tm}{k tz:Nat}(hk:k < to.length)(ht:to[k]=(true,tz))(c x:Nat):PB l cs i cv to (k+1) c x↔PB l cs i cv to k c x∨(c=cv∧x=tz):=by
 unfold PB
 rw[UK hk,ht]
 constructor
 ·rintro(h|⟨h1,h2|h2⟩)
  ·exact .inl (.inl h)
  ·exact .inl (.inr ⟨h1,h2⟩)
  ·injection h2 with _ h2
   exact .inr ⟨h1,h2⟩
 ·rintro((h|⟨h1,h2⟩)|⟨h1,h2⟩)
  ·exact .inl h
  ·exact .inr ⟨h1,.inl h2⟩
  ·exact .inr ⟨h1,.inr (by rw[h2])⟩
theorem Zkf {l:List Bd}{cs:List Tm}{i cv:Nat}{to:List Tm}{k tz:Nat}(hk:k < to.length)(ht:to[k]=(true,tz))(c d:Nat)(h:QB l cs i cv to (k+1) c d):QB l cs i cv to k c d:=by
 unfold QB at*
 rw[UK hk,ht] at h
 rcases h with h|⟨h1,h2|h2⟩
 ·exact .inl h
 ·exact .inr ⟨h1,h2⟩
 ·cases h2
theorem Zkg {l:List Bd}{cs:List Tm}{i cv:Nat}{to:List Tm}{k tz:Nat}(hk:k < to.length)(ht:to[k]=(false,tz))(c x:Nat):PB l cs i cv to (k+1) c x↔PB l cs i cv to k c x:=by
 unfold PB
 rw[UK hk,ht]
 constructor
 ·rintro(h|⟨h1,h2|h2⟩)
  ·exact .inl h
  ·exact .inr ⟨h1,h2⟩
  ·cases h2
 ·rintro(h|⟨h1,h2⟩)
  ·exact .inl h
  ·exact .inr ⟨h1,.inl h2⟩
theorem Zkh {l:List Bd}{cs:List Tm}{i cv:Nat}{to:List Tm}{k tz:Nat}(hk:k < to.length)(ht:to[k]=(false,tz))(c d:Nat)(h:QB l cs i cv to (k+1) c d):QB l cs i cv to k c d∨(c=cv∧d=tz):=by
 unfold QB at*
 rw[UK hk,ht] at h
 rcases h with h|⟨h1,h2|h2⟩
 ·exact .inl (.inl h)
 ·exact .inl (.inr ⟨h1,h2⟩)
 ·injection h2 with _ h2
  exact .inr ⟨h1,h2⟩
theorem Zi1 {l:List Bd}{cs:List Tm}{i cv:Nat}{to:List Tm}(hi:i < cs.length)(hc:cs[i]=(false,cv))(hF:Rz l (false,cv) to)(c x:Nat):PA l cs (i+1) c x↔PB l cs i cv to to.length c x:=by
 unfold PB PA
 rw[List.take_length]
 constructor
 ·rintro⟨j,hj,h1,h2⟩
  by_cases e:j=i
  ·subst e
   rw[List.getElem?_eq_getElem hi,hc] at h1
   injection h1 with h1
   injection h1 with _ h1
   subst h1
   exact .inr ⟨rfl,(hF.mem _).2 h2⟩
  ·exact .inl ⟨j,by omega,h1,h2⟩
 ·rintro(⟨j,hj,h1,h2⟩|⟨rfl,h⟩)
  ·exact⟨j,by omega,h1,h2⟩
  ·exact⟨i,by omega,by rw[List.getElem?_eq_getElem hi,hc],(hF.mem _).1 h⟩
theorem Zi2 {l:List Bd}{cs:List Tm}{i cv:Nat}{to:List Tm}(hi:i < cs.length)(hc:cs[i]=(false,cv))(hF:Rz l (false,cv) to)(c x:Nat)(h:QA l cs (i+1) c x):QB l cs i cv to to.length c x:=by
 unfold QB
 rw[List.take_length]
 obtain⟨j,hj,h1,h2⟩:=h
 by_cases e:j=i
 ·subst e
  rw[List.getElem?_eq_getElem hi,hc] at h1
  injection h1 with h1
  injection h1 with _ h1
  subst h1
  exact .inr ⟨rfl,(hF.mem _).2 h2⟩
 ·exact .inl ⟨j,by omega,h1,h2⟩
theorem ZeU {l:List Bd}{cs:List Tm}(hC:Consts l l.length cs){c:Nat}:IsC l c↔ ∃j,j < cs.length∧cs[j]?=some (false,c):=by
 have hm:=hC.mem (false,c)
 rw[List.take_length] at hm
 constructor
 ·rintro⟨b,hb,e⟩
  obtain⟨j,hj,e⟩:=List.mem_iff_getElem.1 (hm.2 ⟨rfl,b,hb,e⟩)
  exact⟨j,hj,by rw[List.getElem?_eq_getElem hj,e]⟩
 ·rintro⟨j,hj,e⟩
  rw[List.getElem?_eq_getElem hj] at e
  injection e with e
  obtain⟨_,b,hb,e⟩:=hm.1 (by rw[← e];exact List.getElem_mem hj)
  exact⟨b,hb,e⟩
theorem Zki {l:List Bd}{cs:List Tm}(hC:Consts l l.length cs)(c x:Nat):(IsC l c∧Reach l (false,c) (true,x))↔PA l cs cs.length c x:=by
 rw[ZeU hC]
 exact⟨fun ⟨⟨j,h1,h2⟩,h3⟩=>⟨j,h1,h2,h3⟩,fun ⟨j,h1,h2,h3⟩=>⟨⟨j,h1,h2⟩,h3⟩⟩
theorem Zkj {l:List Bd}{cs:List Tm}(hC:Consts l l.length cs)(c x:Nat)(h:IsC l c∧Reach l (false,c) (false,x)):QA l cs cs.length c x:=by
 rw[ZeU hC] at h
 obtain⟨⟨j,h1,h2⟩,h3⟩:=h
 exact⟨j,h1,h2,h3⟩
def PH (l:List Bd)(i d x:Nat):Prop:=x < i∧Reach l (true,x) (false,d)
def PI (l:List Bd)(i:Nat)(to:List Tm)(k d x:Nat):Prop:=PH l i d x∨(x=i∧(false,d)∈to.take k)
theorem Zi3 {l:List Bd}{d x:Nat}:PH l 0 d x↔False:=⟨fun ⟨h,_⟩=>by omega,False.elim⟩
theorem Zi4 {l:List Bd}{i:Nat}{to:List Tm}{d x:Nat}:PI l i to 0 d x↔PH l i d x:=⟨fun h=>h.elim id fun h=>by simp at h,.inl⟩
theorem Zkk {l:List Bd}{i:Nat}{to:List Tm}{k tz:Nat}(hk:k < to.length)(ht:to[k]=(false,tz))(d x:Nat):PI l i to (k+1) d x↔PI l i to k d x∨(d=tz∧x=i):=by
 unfold PI
 rw[UK hk,ht]
 constructor
 ·rintro(h|⟨h1,h2|h2⟩)
  ·exact .inl (.inl h)
  ·exact .inl (.inr ⟨h1,h2⟩)
  ·injection h2 with _ h2
   exact .inr ⟨h2,h1⟩
 ·rintro((h|⟨h1,h2⟩)|⟨h1,h2⟩)
  ·exact .inl h
  ·exact .inr ⟨h1,.inl h2⟩
  ·exact .inr ⟨h2,.inr (by rw[h1])⟩
theorem Zkl {l:List Bd}{i:Nat}{to:List Tm}{k tz:Nat}(hk:k < to.length)(ht:to[k]=(true,tz))(d x:Nat):PI l i to (k+1) d x↔PI l i to k d x:=by
 unfold PI
 rw[UK hk,ht]
 constructor
 ·rintro(h|⟨h1,h2|h2⟩)
  ·exact .inl h
  ·exact .inr ⟨h1,h2⟩
  ·cases h2
 ·rintro(h|⟨h1,h2⟩)
  ·exact .inl h
  ·exact .inr ⟨h1,.inl h2⟩
theorem Zi5 {l:List Bd}{i:Nat}{to:List Tm}(hF:Rz l (true,i) to)(d x:Nat):PH l (i+1) d x↔PI l i to to.length d x:=by
 unfold PI PH
 rw[List.take_length]
 constructor
 ·rintro⟨h1,h2⟩
  by_cases e:x=i
  ·subst e
   exact .inr ⟨rfl,(hF.mem _).2 h2⟩
  ·exact .inl ⟨by omega,h2⟩
 ·rintro(⟨h1,h2⟩|⟨rfl,h⟩)
  ·exact⟨by omega,h2⟩
  ·exact⟨by omega,(hF.mem _).1 h⟩
theorem Zkm {l:List Bd}{q:Nat}(d x:Nat)(hx:x < q):Reach l (true,x) (false,d)↔PH l q d x:=⟨fun h=>⟨hx,h⟩,And.right⟩
def Zkn (S:Sr)(q:Nat)(w:World)(v6 v7 v9:Value)(wr:World):Prop:=
 ∃(i:Nat) (A:Option Addr) (k c:Nat) (A':Option Addr) (k' c':Nat),v9= .int .i64 (i:Int)∧i≤q∧v6= .slice A k c∧v7= .slice A' k' c'∧Jm wr w.heap.size (.slice A k c) (.slice A' k' c') k k' (List.replicate i S.bot) (List.replicate i S.top)∧Below w.heap.size w wr
structure St (S:Sr)(q base:Nat)(V:Value)(w0:World)(P Q:Nat→Nat→Prop)(lo:List Nat)(wr:World):Prop where
 own:wr.ownsRow base 72 1 V q (lo.flatMap en)
 lw:Lw S q P Q lo
 kept:Kept (fun b=>V.ownBlock=some b) w0 wr
theorem St.below {S:Sr}{q base:Nat}{V:Value}{w0:World}{P Q:Nat→Nat→Prop}{lo:List Nat}{wr:World}(h:St S q base V w0 P Q lo wr){w3:World}(hb:Below base w3 w0)(hB:base≤w0.heap.size):Below base w3 wr:=
 hb.trans (h.kept.below hB fun b hd=>(h.own.lt b hd).1)
theorem St.other {S:Sr}{q base:Nat}{V:Value}{w0:World}{P Q:Nat→Nat→Prop}{lo:List Nat}{wr:World}(h:St S q base V w0 P Q lo wr){b2 sz n:Nat}{E:TypeId}{v:Value}{xs:List Value}(ho:w0.ownsRow b2 E sz v n xs)(ha: ∀b,V.ownBlock=some b→v.ownBlock≠some b):wr.ownsRow b2 E sz v n xs:=
 Vr ho fun b hb=>h.kept.block b (ho.lt b hb).2 fun hd=>ha b hd hb
def Zk2 (S:Sr)(q:Nat)(l:List Bd)(cs:List Tm)(base:Nat)(V V7:Value)(w0:World)(v6 v7 v11:Value)(wr:World):Prop:=
 ∃(i:Nat) (lo:List Nat),v6=V∧v7=V7∧v11= .int .i64 (i:Int)∧i≤cs.length∧St S q base V w0 (PA l cs i) (QA l cs i) lo wr
def Zk3 (S:Sr)(q:Nat)(l:List Bd)(cs:List Tm)(i cz:Nat)(to:List Tm)(base:Nat)(V V7:Value)(w0:World)(v6 v7 v13:Value)(wr:World):Prop:=
 ∃(k:Nat) (lo:List Nat),v6=V∧v7=V7∧v13= .int .i64 (k:Int)∧k≤to.length∧St S q base V w0 (PB l cs i cz to k) (QB l cs i cz to k) lo wr
def Zk4 (S:Sr)(q:Nat)(l:List Bd)(base:Nat)(V:Value)(w0:World)(v14:Value)(wr:World):Prop:=
 ∃(i:Nat) (hi:List Nat),v14= .int .i64 (i:Int)∧i≤q∧St S.turn q base V w0 (PH l i) (fun _ _=>False) hi wr
def Zk5 (S:Sr)(q:Nat)(l:List Bd)(i:Nat)(to:List Tm)(base:Nat)(V:Value)(w0:World)(v16:Value)(wr:World):Prop:=
 ∃(k:Nat) (hi:List Nat),v16= .int .i64 (k:Int)∧k≤to.length∧St S.turn q base V w0 (PI l i to k) (fun _ _=>False) hi wr
theorem ZeV (t:Nat)(At:Option Addr)(mt ct et:Nat)(k:Int)(A:Option Addr)(n c:Nat)(l:List Bd)(S:Sr)(w:World)(hS:S.Ok)(hs:RSrt w.heap.size w t At mt ct et S)(h:Rs bdc 4 w w.heap.size A n c l)(hf: ∀b∈l,b.Fit):
  Calls Tryz.prog 117 #[rsV t At mt ct et,.int .i64 k,.slice A n c] w fun e w'=> ∃A1 n1 c1 A2 n2 c2 x lo hi,e= .returned (.tuple #[.slice A1 n1 c1,.slice A2 n2 c2,.int .i64 x])∧Rd La.nm w' w'.heap.size A1 n1 c1 lo∧Rd La.nm w' w'.heap.size A2 n2 c2 hi∧Za4 S k l x lo hi∧Below w.heap.size w w':=by
 obtain⟨x,hx⟩: ∃x,chkS S k l=x:=⟨_,rfl⟩
 have hal:Below w.heap.size w (w.alloc (.cells #[.int .i64 (t:Int),.slice At mt ct,.int .i64 (et:Int)] 36)):=bA
 have HCK:=Hd (KU t At mt ct et k A n c l S _ x (hs.keep hal).rhas (h.at_size lR hal) hf hx)
 have hbx:=heap_alloc_new w (.cells #[.int .i64 (t:Int),.slice At mt ct,.int .i64 (et:Int)] 36)
 have hz0:=(Za (i:=0) hbx).trans rfl
 have hz1:=(Za (i:=1) hbx).trans rfl
 have hz2:=(Za (i:=2) hbx).trans rfl
 replace hz0:_=some (Value.int .i64 (t:Int)):=hz0
 replace hz1:_=some (Value.slice At mt ct):=hz1
 replace hz2:_=some (Value.int .i64 (et:Int)):=hz2
 have HS:=Hd hS
 have HRS:=Hd hs
 have HF:=Hd hf
 have HR:=Hd h
 have HX:=Hd hx
 have HL:=Hd h.len
 have htop:=h.top
 have hcap:=h.cap
 unfold maxLen at htop
 have hb:=hal
 clear hS hs h hf hx hbx hal
 unfold rsV at HCK ⊢
 go_enter Tryz.func117,Tryz.ntmps117
 go_wp2_with fail
 refine HCK.out.mono ?_
 rintro e w1 ⟨rfl,hv⟩
 replace hz0:=Zc hz0 hv
 replace hz1:=Zc hz1 hv
 replace hz2:=Zc hz2 hv
 replace hb:=hb.trans (hv.mono hb.size)
 clear hv HCK
 by_cases hx0:x=0
 case neg=>
  have hne:((x:Int) !=0)=true:=by simpa using hx0
  have HN:=Hd hx0
  clear hx0
  go_wp2_with fail
  exact bodyPost_ret (v:= .tuple #[.slice none 0 0,.slice none 0 0,.int .i64 x]) (by simp[results,Tryz.results117,go_sem]) rfl ⟨none,0,0,none,0,0,x,[],[],rfl,Rd.nil _ _,Rd.nil _ _,.inl ⟨HX.out,HN.out,rfl,rfl⟩,hb⟩
 subst hx0
 obtain⟨q,hkq,hq64,hl256,hm⟩:=ZbW HX.out
 subst hkq
 have HM:=Hd hm
 have HLL:=Hd hl256
 have HQ:=Hd hq64
 clear hm hl256
 go_wp2_with fail
 refine wro [0,1,2,3,4,5,6,7,8] [5,6] 9 (fun w'=>w'.cell? ⟨w.heap.size,0,none⟩=some (.int .i64 (t:Int))∧w'.cell? ⟨w.heap.size,1,none⟩=some (.slice At mt ct)∧w'.cell? ⟨w.heap.size,2,none⟩=some (.int .i64 (et:Int))) (by kernel_rfl) (fun _ _ _ _ _ h=>h) ⟨hz0,hz1,hz2⟩ ?_
 simp only[steps,sE,sD]
 by_cases hq0:q=0
 focus(
  have hgt:decide (0 < q)=false:=decide_eq_false (by omega)
  have HBOT:Hid (0 < q→S.has S.bot=true):=Hd fun h=>absurd h (by omega)
  repeat((first|refine Zg rfl ?_|(refine Zf (v:= ?_) rfl rfl ?_ ?_;rotate_left;(focus(rintro w' ⟨hS0,hS1,hS2⟩;go_simp;try with_reducible rfl))));simp only[Act.put,sA,sB,sC])
  refine Zi ?_
  have hv:Below w1.heap.size w1 w1.drew:=(Below.refl _ _).drew
  replace hz0:=Zc hz0 hv
  replace hz1:=Zc hz1 hv
  replace hz2:=Zc hz2 hv
  replace hb:=hb.trans (hv.mono hb.size)
  clear hv
  generalize w1.drew=w3 at*
  clear hgt
  have HQ0:Hid True:=Hd trivial
  have HBI:Hid True:=Hd trivial
  clear hq0)
 rotate_left
 focus(
  have hgt:decide (0 < q)=true:=decide_eq_true (by omega)
  have HQ0:=Hd hq0
  clear hq0
  obtain⟨r,hr⟩: ∃r,S.has S.bot=r:=⟨_,rfl⟩
  have HBI:=Hd hr
  clear hr
  repeat((first|refine Zg rfl ?_|(refine Zf (v:= ?_) rfl rfl ?_ ?_;rotate_left;(focus(rintro w' ⟨hS0,hS1,hS2⟩;go_simp;try with_reducible rfl))));simp only[Act.put,sA,sB,sC])
  have hv:Below w1.heap.size w1 w1.drew:=(Below.refl _ _).drew
  replace hz0:=Zc hz0 hv
  replace hz1:=Zc hz1 hv
  replace hz2:=Zc hz2 hv
  replace hb:=hb.trans (hv.mono hb.size)
  clear hv
  generalize w1.drew=w2 at*
  refine Ze rfl rfl (fun K hK=> ?_)
  go_simp
  have hcb:=RV t At mt ct et S w2 (HRS.out.keep hb)
  unfold rsV at hcb
  refine hcb.mono ?_
  rintro e w4 ⟨rfl,hv⟩
  clear hcb
  replace hz0:=Zc hz0 hv
  replace hz1:=Zc hz1 hv
  replace hz2:=Zc hz2 hv
  replace hb:=hb.trans (hv.mono hb.size)
  clear hv
  refine hK.out _ _ (fun _=>⟨hz0,hz1,hz2⟩) ?_
  clear hK K
  try simp only[Act.put,sA,sB,sC]
  refine Ze rfl rfl (fun K hK=> ?_)
  go_simp
  have hch:=V8 t At mt ct et S S.bot w4 (HRS.out.keep hb) HS.out.fitb
  rw[HBI.out] at hch
  unfold rsV at hch
  refine hch.mono ?_
  rintro e w3 ⟨rfl,hv⟩
  clear hch
  replace hz0:=Zc hz0 hv
  replace hz1:=Zc hz1 hv
  replace hz2:=Zc hz2 hv
  replace hb:=hb.trans (hv.mono hb.size)
  clear hv
  refine hK.out _ _ (fun _=>⟨hz0,hz1,hz2⟩) ?_
  clear hK K
  try simp only[Act.put,sA,sB,sC]
  repeat((first|refine Zg rfl ?_|(refine Zf (v:= ?_) rfl rfl ?_ ?_;rotate_left;(focus(rintro w' ⟨hS0,hS1,hS2⟩;go_simp;try with_reducible rfl))));simp only[Act.put,sA,sB,sC])
  refine Zi ?_
  clear hgt
  cases r
  focus(
   go_wp2_with fail
   exact bodyPost_ret (v:= .tuple #[.slice none 0 0,.slice none 0 0,.int .i64 10]) (by simp[results,Tryz.results117,go_sem]) rfl ⟨none,0,0,none,0,0,10,[],[],rfl,Rd.nil _ _,Rd.nil _ _,.inr (.inl ⟨q,rfl,HX.out,rfl,rfl,rfl,ZfE HS.out (Nat.pos_of_ne_zero HQ0.out) HBI.out⟩),hb⟩)
  have HBOT:Hid (0 < q→S.has S.bot=true):=Hd fun _=>HBI.out
  clear HQ0 HBI
  have HQ0:Hid True:=Hd trivial
  have HBI:Hid True:=Hd trivial)
 rotate_left
 all_goals(
  clear HQ0 HBI
  have HB0:=Hd hb
  have HS3:=Hd (HRS.out.keep hb)
  have HR3:=Hd (HR.out.at_size lR hb)
  have HZ0:=Hd fun W (hW:Below w3.heap.size w3 W)=>Zc hz0 hW
  have HZ1:=Hd fun W (hW:Below w3.heap.size w3 W)=>Zc hz1 hW
  have HZ2:=Hd fun W (hW:Below w3.heap.size w3 W)=>Zc hz2 hW
  have HBO:=Hd fun W (hW:Below w3.heap.size w3 W)=>RV t At mt ct et S W (HS3.out.keep hW)
  have HTO:=Hd fun W (hW:Below w3.heap.size w3 W)=>Kq t At mt ct et S W (HS3.out.keep hW)
  have HJO:=Hd fun W (hW:Below w3.heap.size w3 W) x y hx hy=>Zew t At mt ct et S x y W (HS3.out.keep hW) HS.out hx hy
  have HME:=Hd fun W (hW:Below w3.heap.size w3 W) x y hx hy=>Zex t At mt ct et S x y W (HS3.out.keep hW) HS.out hx hy
  have HBE:=Hd fun W (hW:Below w3.heap.size w3 W) x y hx hy=>QZ t At mt ct et S x y W (HS3.out.keep hW) hx hy
  have HFR:=Hd fun W (hW:Below w3.heap.size w3 W) b z=>ZhO A n c l b z W (HR3.out.at_size lR hW) HF.out HLL.out
  have HCO:=Hd fun W (hW:Below w3.heap.size w3 W)=>Zak A n c l W (HR3.out.at_size lR hW) HF.out HLL.out
  unfold rsV at HBO HTO HJO HME HBE
  unfold tmv at HFR
  clear hb hz0 hz1 hz2 HR HRS
  try simp only[Bool.not_true]
  go_wp2_with fail
  go_loopw [6,7,9] (fun v6 v7 v9 wr=>Zkn S q w3 v6 v7 v9 wr) (fun _ _ v9 _=>q - (intOf v9).toNat)
  case atStart=>exact⟨0,none,0,0,none,0,0,rfl,Nat.zero_le _,rfl,rfl,⟨World.ownsRow_nil _ _ _ _,World.ownsRow_nil _ _ _ _,fun q h=>by cases h⟩,Below.refl _ _⟩
  case round=>
   obtain⟨i,A6,k6,c6,A7,k7,c7,rfl,hi1,rfl,rfl,hjm,hb1⟩:=hrel
   by_cases hlt:i < q
   ·have HKL:Hid (k6=i):=Hd (by have:=(QM hjm.j).len;simpa using this.symm)
    have HKM:Hid (k7=i):=Hd (by have:=(QM hjm.m).len;simpa using this.symm)
    have HLT:=Hd hlt
    have z0:=HZ0.out _ hb1
    have z1:=HZ1.out _ hb1
    have z2:=HZ2.out _ hb1
    go_wp2_with fail
    refine(HBO.out _ hb1).mono ?_
    rintro e w5 ⟨rfl,hv⟩
    replace hb1:=hb1.trans (hv.mono hb1.size)
    replace hjm:=hjm.keep hv
    clear hv
    have hv:Below w5.heap.size w5 (w5.alloc (.cells #[.int .u64 (S.bot:Int)] 72)):=bA
    have ho:=Zix w5 S.bot
    have hb4:=hb1.trans (hv.mono hb1.size)
    have hj4:=hjm.keep hv
    clear hv hb1 hjm
    clear z0 z1 z2
    go_wp2_with (at_builtin;refine ZbY rfl (.tmp 38) (.tmp 41) rfl w3.heap.size (.slice A6 k6 c6) k6 (List.replicate i S.bot) rfl hj4.j _ _ 1 1 [S.bot] rfl ho (by have:=HKL.out;have:=HQ.out;have:=HLT.out;omega) hb4.size ?_;intro A8 k8 c8 w6 hk8 ha8;have hb6:=hb4.grown ha8.out.grown hb4.size (fun j hj=>(hj4.j.lt j hj).1);have hj6:=hj4.one ha8.out;clear ha8 hk8 hj4 hb4 ho;have z0:=HZ0.out _ hb6;have z1:=HZ1.out _ hb6;have z2:=HZ2.out _ hb6)
    refine(HTO.out _ hb6).mono ?_
    rintro e w7 ⟨rfl,hv⟩
    replace hb6:=hb6.trans (hv.mono hb6.size)
    replace hj6:=hj6.keep hv
    clear hv
    have hv:Below w7.heap.size w7 (w7.alloc (.cells #[.int .u64 (S.top:Int)] 72)):=bA
    have ho:=Zix w7 S.top
    have hb4:=hb6.trans (hv.mono hb6.size)
    have hj4:=hj6.keep hv
    clear hv hb6 hj6
    clear z0 z1 z2
    go_wp2_with (at_builtin;refine ZbY rfl (.tmp 43) (.tmp 46) rfl w3.heap.size (.slice A7 k7 c7) k7 (List.replicate i S.top) rfl hj4.m _ _ 1 1 [S.top] rfl ho (by have:=HKM.out;have:=HQ.out;have:=HLT.out;omega) hb4.size ?_;intro A9 k9 c9 w8 hk9 ha9;have hb8:=hb4.grown ha9.out.grown hb4.size (fun j hj=>(hj4.m.lt j hj).1);have hj8:=hj4.two ha9.out;clear ha9 hk9 hj4 hb4 ho)
    go_roundw
    case rel=>exact⟨i+1,A8,k8,c8,A9,k9,c9,by have:=HLT.out;have:=HQ.out;go_num,by have:=HLT.out;omega,rfl,rfl,by rw[List.replicate_succ',List.replicate_succ'];exact hj8,hb8⟩
    case measure=>
     have:=HLT.out
     simp[intOf]
     omega
   ·obtain rfl:q=i:=by omega
    obtain rfl:q=k6:=by have:=(QM hjm.j).len;simpa using this
    obtain rfl:q=k7:=by have:=(QM hjm.m).len;simpa using this
    clear hlt hi1
    go_wp2_with fail
    refine(HCO.out _ hb1).mono ?_
    rintro e w4 ⟨A10,k10,c10,cs,rfl,hcs,hC,hv⟩
    have HAP:Hid (∀b,(Value.slice A6 q c6).ownBlock=some b→(Value.slice A10 k10 c10).ownBlock≠some b):=Hd fun b hb h2=>by
     have:=(hjm.j.lt b hb).2
     have:=(hcs.lt b h2).1
     omega
    have HAP2:=Hd hjm.ap
    have hj2:=hjm.keep hv
    have HJL:=Hd hj2.j
    have HJM:=Hd hj2.m
    have HB4:=Hd (hb1.trans (hv.mono hb1.size))
    have HCS:=Hd hcs
    have HC:=Hd hC
    have HCL:Hid (cs.length=k10):=Hd (ZI ZJ (by decide) hcs)
    have HCN:=Hd hC.len
    have HSZ:=Hd (show w3.heap.size≤w4.heap.size from(hb1.trans (hv.mono hb1.size)).size)
    clear hcs hC hjm hj2 hv hb1
    have hkl:k10≤512:=by have:=HCL.out;have:=HCN.out;have:=HLL.out;omega
    go_wp2_with fail
    go_loopw [6,7,11] (fun v6 v7 v11 wr=>Zk2 S q l cs w3.heap.size (.slice A6 q c6) (.slice A7 q c7) w4 v6 v7 v11 wr) (fun _ _ v11 _=>k10 - (intOf v11).toNat)
    case atStart=>exact⟨0,_,rfl,rfl,rfl,Nat.zero_le _,HJL.out,(Lw.start HS.out HBOT.out).congr (fun c x=>ZiX) (fun c x h=>ZiY h),Kept.refl _ _⟩
    case round=>
     clear HJL
     obtain⟨i,lo,rfl,rfl,rfl,hi1,hst⟩:=hrel
     have hbW:=hst.below HB4.out HSZ.out
     by_cases hlt:i < k10
     ·have hi':i < cs.length:=by rw[HCL.out];exact hlt
      have hcr:=Rs.of_own ZJ (by decide) (hst.other HCS.out HAP.out)
      obtain⟨bc,oc,rfl,hbc,c0,c1⟩:=Zee hcr hi'
      obtain⟨cz,hcz⟩: ∃cz,cs[i]=(false,cz):=⟨cs[i].2,by have:=((HC.out.mem cs[i]).1 (List.getElem_mem hi')).1;rw[← this]⟩
      have HCZ:=Hd hcz
      have HIC:Hid (IsC l cz):=Hd ((ZeU HC.out).2 ⟨i,hi',by rw[List.getElem?_eq_getElem hi',hcz]⟩)
      have HI:=Hd hi'
      rw[hcz] at c0 c1
      replace c0:_=some (Value.bool false):=c0
      replace c1:_=some (Value.int .u64 (cz:Int)):=c1
      have hcc:=hst.other HCS.out HAP.out
      have HLT:=Hd hlt
      have HST:=Hd hst
      clear hcr hcz hst hlt
      go_wp2_with fail
      refine(HFR.out _ hbW false cz).mono ?_
      rintro e w5 ⟨A12,k12,c12,to,rfl,hto,hF,hv⟩
      have HB5:=Hd (hbW.trans (hv.mono hbW.size))
      have HO5:=Hd (ZV HST.out.own hv)
      have HC5:=Hd (ZV hcc hv)
      have HAT:Hid (∀b,(Value.slice A6 q c6).ownBlock=some b→(Value.slice A12 k12 c12).ownBlock≠some b):=Hd fun b hb h2=>by
       have:=(HST.out.own.lt b hb).2
       have:=(hto.lt b h2).1
       omega
      have HTO5:=Hd hto
      have HF5:=Hd hF
      have HTL:Hid (to.length=k12):=Hd (ZI ZJ (by decide) hto)
      have HTN:=Hd hF.len
      have HK5:=Hd (HST.out.kept.trans (Kept.of_below hv))
      have HL5:=Hd HST.out.lw
      have HSZ5:Hid (w3.heap.size≤w5.heap.size):=Hd HB5.out.size
      clear hto hF hv hcc c0 c1 hbW HST
      have hkt:k12≤257:=by have:=HTL.out;have:=HTN.out;have:=HLL.out;omega
      go_wp2_with fail
      go_loopw [6,7,13] (fun v6 v7 v13 wr=>Zk3 S q l cs i cz to w3.heap.size (.slice A6 q c6) (.slice A7 q c7) w5 v6 v7 v13 wr) (fun _ _ v13 _=>k12 - (intOf v13).toNat)
      case atStart=>exact⟨0,lo,rfl,rfl,rfl,Nat.zero_le _,HO5.out,HL5.out.congr (fun c x=>ZiZ) (fun c x h=>Zi0 h),Kept.refl _ _⟩
      case round=>
       clear HO5 HL5
       obtain⟨k,lo,rfl,rfl,rfl,hk1,hst⟩:=hrel
       have hbW:=hst.below HB5.out HSZ5.out
       by_cases hlt:k < k12
       ·have hk':k < to.length:=by rw[HTL.out];exact hlt
        have htr:=Rs.of_own ZJ (by decide) (hst.other HTO5.out HAT.out)
        have hcr:=Rs.of_own ZJ (by decide) (hst.other HC5.out HAP.out)
        obtain⟨bt,ot,rfl,hbt,d0,d1⟩:=Zee htr hk'
        obtain⟨bc2,oc2,hbe,hbc2,c0,c1⟩:=Zee hcr HI.out
        injection hbe with hbe
        injection hbe with hb1 hb2
        subst hb1
        subst hb2
        rw[HCZ.out] at c0 c1
        replace c1:_=some (Value.int .u64 (cz:Int)):=c1
        have HRE:=Hd ((HF5.out.mem _).1 (List.getElem_mem hk'))
        obtain⟨tv,tz,htt⟩: ∃tv tz,to[k]=(tv,tz):=⟨to[k].1,to[k].2,rfl⟩
        have HTT:=Hd htt
        have HKK:=Hd hk'
        rw[htt] at d0 d1 HRE
        replace d0:_=some (Value.bool tv):=d0
        replace d1:_=some (Value.int .u64 (tz:Int)):=d1
        have HLT:=Hd hlt
        have z0:=HZ0.out _ hbW
        have z1:=HZ1.out _ hbW
        have z2:=HZ2.out _ hbW
        clear htr hcr htt c0 hlt
        cases tv with
        |true=>
         have htq:tz < q:=Zky HM.out (t:=(false,cz)) (fun e=>by cases e) HRE.out
         have htl:tz < lo.length:=by rw[hst.lw.has.1];exact htq
         obtain⟨g,hgA,hbg,hgl,hlc,hfz,hset⟩:=ZdA hst.own htl
         have HTQ:=Hd htl
         have hlw:=hst.lw
         have h1:=hlw.has.2 tz htq
         have h2:=Zas HM.out HIC.out
         have HLV:=Hd (hlw.var HS.out htq h2)
         obtain⟨x1,hx1⟩: ∃x,lo.getD tz 0=x:=⟨_,rfl⟩
         rw[hx1] at hlc h1 HLV
         obtain⟨j,hj⟩: ∃j,S.join x1 cz=j:=⟨_,rfl⟩
         have HJ:=Hd fun W (hW:Below w3.heap.size w3 W)=>hj▸HJO.out W hW x1 cz h1 h2
         rw[hj] at HLV
         have htqi:(tz:Int) < (q:Int):=by omega
         have HOWN:=Hd hst.own
         have HKP:=Hd hst.kept
         clear hx1 hj h1 h2 hlw hset hst htl
         subst hgA
         go_wp2_with fail
         refine wro [0,1,2,3,4,5,6,7,8,9,10,11,12,13,14,15,16,17,18,19,20,21,22] [20,22] 22 (fun w'=>w'.cell? ⟨w.heap.size,0,none⟩=some (.int .i64 (t:Int))∧w'.cell? ⟨w.heap.size,1,none⟩=some (.slice At mt ct)∧w'.cell? ⟨w.heap.size,2,none⟩=some (.int .i64 (et:Int))∧w'.cell? ⟨bt,ot+k*2+1,none⟩=some (.int .u64 (tz:Int))∧w'.cell? ⟨bc,oc+i*2+1,none⟩=some (.int .u64 (cz:Int))∧w'.cell? ⟨g,tz,none⟩=some (.int .u64 (x1:Int))) (by kernel_rfl) (fun _ _ _ _ _ h=>h) ⟨z0,z1,z2,d1,c1,hlc⟩ ?_
         simp only[steps,sE,sD]
         repeat((first|refine Zg rfl ?_|(refine Zf (v:= ?_) rfl rfl ?_ ?_;rotate_left;(focus(rintro w' ⟨hS0,hS1,hS2,hS3,hS4,hS5⟩;go_simp;try with_reducible rfl))));simp only[Act.put,sA,sB,sC])
         have hv:Below wr.heap.size wr wr.drew:=(Below.refl _ _).drew
         replace z0:=Zc z0 hv
         replace z1:=Zc z1 hv
         replace z2:=Zc z2 hv
         replace d1:=Zc d1 hv
         replace c1:=Zc c1 hv
         replace hlc:=Zc hlc hv
         replace hbW:=hbW.trans (hv.mono hbW.size)
         have HK6:=Hd (Kept.of_below (D:=fun b=>(Value.slice (some ⟨g,0,none⟩) q c6).ownBlock=some b) hv)
         have HO6:=Hd (ZV HOWN.out hv)
         clear hv
         generalize wr.drew=w6 at*
         refine Ze rfl rfl (fun K hK=> ?_)
         go_simp
         refine(HJ.out _ hbW).mono ?_
         rintro e w7 ⟨rfl,hv⟩
         replace z0:=Zc z0 hv
         replace z1:=Zc z1 hv
         replace z2:=Zc z2 hv
         replace d1:=Zc d1 hv
         replace c1:=Zc c1 hv
         replace hlc:=Zc hlc hv
         have HO7:=Hd (ZV HO6.out hv)
         have HK7:=Hd ((HKP.out.trans HK6.out).trans (Kept.of_below hv))
         clear hv HO6 HK6
         refine hK.out _ _ (fun _=>⟨z0,z1,z2,d1,c1,hlc⟩) ?_
         clear hK K
         try simp only[Act.put,sA,sB,sC]
         repeat((first|refine Zg rfl ?_|(refine Zf (v:= ?_) rfl rfl ?_ ?_;rotate_left;(focus(rintro w' ⟨hS0,hS1,hS2,hS3,hS4,hS5⟩;go_simp;try with_reducible rfl))));simp only[Act.put,sA,sB,sC])
         obtain⟨g',hgA,_,hgl7,hlc7,hfz7,hset⟩:=ZdA HO7.out HTQ.out
         injection hgA with hgA
         injection hgA with hgA
         subst hgA
         refine Ze rfl rfl (fun K hK=> ?_)
         go_simp
         refine hK.out _ _ (fun h=>absurd rfl h) ?_
         clear hK K
         refine Zi ?_
         have HSTN:Hid (St S q w3.heap.size (.slice (some ⟨g,0,none⟩) q c6) w5 (PB l cs i cz to (k+1)) (QB l cs i cz to (k+1)) (lo.set tz j) (w7.setCell ⟨g,tz,none⟩ (.int .u64 (j:Int)))):=
          Hd ⟨hset j,HLV.out.congr (fun c x=>Zke HKK.out HTT.out c x) (fun c d h=>Zkf HKK.out HTT.out c d h),HK7.out.setCell (p:=⟨g,tz,none⟩) (.inl rfl) _⟩
         clear hset hlc7 hfz7 hgl7
         go_wp2_with fail
         go_roundw
         case rel=>exact⟨k+1,_,rfl,rfl,by have:=HLT.out;go_num,by have:=HLT.out;have:=HTL.out;omega,HSTN.out⟩
         case measure=>
          have:=HLT.out
          simp[intOf]
          omega
        |false=>
         have h1:=Zas HM.out HIC.out
         have h2:=ZbK HM.out (t:=(false,cz)) (fun _=>h1) HRE.out
         obtain⟨r,hr⟩: ∃r,S.below cz tz=r:=⟨_,rfl⟩
         have HRR:=Hd hr
         have HJ:=Hd fun W (hW:Below w3.heap.size w3 W)=>hr▸HBE.out W hW cz tz (HS.out.fit _ h1) (HS.out.fit _ h2)
         have H1:=Hd h1
         have HSTA:=Hd hst
         clear h1 h2 hr hst
         go_wp2_with fail
         refine wro [0,1,2,3,4,5,6,7,8,9,10,11,12] [11] 13 (fun w'=>w'.cell? ⟨w.heap.size,0,none⟩=some (.int .i64 (t:Int))∧w'.cell? ⟨w.heap.size,1,none⟩=some (.slice At mt ct)∧w'.cell? ⟨w.heap.size,2,none⟩=some (.int .i64 (et:Int))∧w'.cell? ⟨bt,ot+k*2+1,none⟩=some (.int .u64 (tz:Int))∧w'.cell? ⟨bc,oc+i*2+1,none⟩=some (.int .u64 (cz:Int))) (by kernel_rfl) (fun _ _ _ _ _ h=>h) ⟨z0,z1,z2,d1,c1⟩ ?_
         simp only[steps,sE,sD]
         repeat((first|refine Zg rfl ?_|(refine Zf (v:= ?_) rfl rfl ?_ ?_;rotate_left;(focus(rintro w' ⟨hS0,hS1,hS2,hS3,hS4⟩;go_simp;try with_reducible rfl))));simp only[Act.put,sA,sB,sC])
         have hv:Below wr.heap.size wr wr.drew:=(Below.refl _ _).drew
         replace z0:=Zc z0 hv
         replace z1:=Zc z1 hv
         replace z2:=Zc z2 hv
         replace d1:=Zc d1 hv
         replace c1:=Zc c1 hv
         replace hbW:=hbW.trans (hv.mono hbW.size)
         have HK6:=Hd (Kept.of_below (D:=fun b=>(Value.slice A6 q c6).ownBlock=some b) hv)
         have HO6:=Hd (ZV HSTA.out.own hv)
         clear hv
         generalize wr.drew=w6 at*
         refine Ze rfl rfl (fun K hK=> ?_)
         go_simp
         refine(HJ.out _ hbW).mono ?_
         rintro e w7 ⟨rfl,hv⟩
         replace z0:=Zc z0 hv
         replace z1:=Zc z1 hv
         replace z2:=Zc z2 hv
         replace d1:=Zc d1 hv
         replace c1:=Zc c1 hv
         replace hbW:=hbW.trans (hv.mono hbW.size)
         have HO7:=Hd (ZV HO6.out hv)
         have HK7:=Hd ((HSTA.out.kept.trans HK6.out).trans (Kept.of_below hv))
         clear hv HO6 HK6
         refine hK.out _ _ (fun _=>⟨z0,z1,z2,d1,c1⟩) ?_
         clear hK K
         try simp only[Act.put,sA,sB,sC]
         repeat((first|refine Zg rfl ?_|(refine Zf (v:= ?_) rfl rfl ?_ ?_;rotate_left;(focus(rintro w' ⟨hS0,hS1,hS2,hS3,hS4⟩;go_simp;try with_reducible rfl))));simp only[Act.put,sA,sB,sC])
         refine Zi ?_
         cases r with
         |false=>
          have HBE:=Hd (HB0.out.trans (hbW.mono HB0.out.size))
          have HUN:=Hd fun u (_:UW S q u)=>ZfD HS.out H1.out HRE.out HRR.out u
          clear hbW
          go_wp2_with fail
          exact bodyPost_ret (v:= .tuple #[.slice none 0 0,.slice none 0 0,.int .i64 10]) (by simp[results,Tryz.results117,go_sem]) rfl ⟨none,0,0,none,0,0,10,[],[],rfl,Rd.nil _ _,Rd.nil _ _,.inr (.inl ⟨q,rfl,HX.out,rfl,rfl,rfl,HUN.out⟩),HBE.out⟩
         |true=>
          have HSTN:Hid (St S q w3.heap.size (.slice A6 q c6) w5 (PB l cs i cz to (k+1)) (QB l cs i cz to (k+1)) lo w7):=
           Hd ⟨HO7.out,(HSTA.out.lw.con HRR.out).congr (fun c x=>Zkg HKK.out HTT.out c x) (fun c d h=>Zkh HKK.out HTT.out c d h),HK7.out⟩
          clear hbW
          go_wp2_with fail
          go_roundw
          case rel=>exact⟨k+1,lo,rfl,rfl,by have:=HLT.out;go_num,by have:=HLT.out;have:=HTL.out;omega,HSTN.out⟩
          case measure=>
           have:=HLT.out
           simp[intOf]
           omega
       ·obtain rfl:k=k12:=by have:=HTL.out;omega
        have HSTN:Hid (St S q w3.heap.size (.slice A6 q c6) w4 (PA l cs (i+1)) (QA l cs (i+1)) lo wr):=Hd ⟨hst.own,by
         have hl:=hst.lw
         rw[← HTL.out] at hl
         exact hl.congr (fun c x=>Zi1 HI.out HCZ.out HF5.out c x) (fun c d h=>Zi2 HI.out HCZ.out HF5.out c d h),HK5.out.trans hst.kept⟩
        clear hst hbW hlt hk1
        go_wp2_with fail
        go_roundw
        case rel=>exact⟨i+1,lo,rfl,rfl,by have:=HLT.out;go_num,HI.out,HSTN.out⟩
        case measure=>
         have:=HLT.out
         simp[intOf]
         omega
     ·obtain rfl:i=k10:=by have:=HCL.out;omega
      have HLO:Hid (Lw S q (fun c x=>IsC l c∧Reach l (false,c) (true,x)) (fun c d=>IsC l c∧Reach l (false,c) (false,d)) lo):=Hd (by
       have hl:=hst.lw
       rw[← HCL.out] at hl
       exact hl.congr (fun c x=>Zki HC.out c x) (fun c d h=>Zkj HC.out c d h))
      have HLOW:=Hd hst.own
      have HMH:=Hd (hst.other HJM.out HAP2.out)
      have HBW:=Hd hbW
      have HSZW:Hid (w3.heap.size≤wr.heap.size):=Hd hbW.size
      clear hst hlt hi1 hbW
      obtain⟨w4,rfl⟩: ∃w4,w4=wr:=⟨_,rfl⟩
      go_wp2_with fail
      go_loopw [14] (fun v14 wr=>Zk4 S q l w3.heap.size (.slice A7 q c7) w4 v14 wr) (fun v14 _=>q - (intOf v14).toNat)
      case atStart=>exact⟨0,_,rfl,Nat.zero_le _,HMH.out,(Lw.start HS.out.turn (fun h0=>(HS.out.sub _ _ (HS.out.topl _ (HBOT.out h0))).2)).congr (fun c x=>Zi3) (fun c x h=>h),Kept.refl _ _⟩
      case round=>
       obtain⟨i,hi,rfl,hi1,hst⟩:=hrel
       have hbW:=hst.below HBW.out HSZW.out
       by_cases hlt:i < q
       ·have hwi:=wrap_small (k:=i) (by have:=HQ.out;omega)
        have HLT:=Hd hlt
        have HST:=Hd hst
        clear hst hlt
        go_wp2_with fail
        refine(HFR.out _ hbW true i).mono ?_
        rintro e w5 ⟨A15,k15,c15,to,rfl,hto,hF,hv⟩
        have HB5:=Hd (hbW.trans (hv.mono hbW.size))
        have HO5:=Hd (ZV HST.out.own hv)
        have HAT:Hid (∀b,(Value.slice A7 q c7).ownBlock=some b→(Value.slice A15 k15 c15).ownBlock≠some b):=Hd fun b hb h2=>by
         have:=(HST.out.own.lt b hb).2
         have:=(hto.lt b h2).1
         omega
        have HTO5:=Hd hto
        have HF5:=Hd hF
        have HTL:Hid (to.length=k15):=Hd (ZI ZJ (by decide) hto)
        have HTN:=Hd hF.len
        have HK5:=Hd (HST.out.kept.trans (Kept.of_below hv))
        have HL5:=Hd HST.out.lw
        have HSZ5:Hid (w3.heap.size≤w5.heap.size):=Hd HB5.out.size
        clear hto hF hv hbW HST hwi
        have hkt:k15≤257:=by have:=HTL.out;have:=HTN.out;have:=HLL.out;omega
        go_wp2_with fail
        go_loopw [16] (fun v16 wr=>Zk5 S q l i to w3.heap.size (.slice A7 q c7) w5 v16 wr) (fun v16 _=>k15 - (intOf v16).toNat)
        case atStart=>exact⟨0,hi,rfl,Nat.zero_le _,HO5.out,HL5.out.congr (fun c x=>Zi4) (fun c x h=>h),Kept.refl _ _⟩
        case round=>
         clear HO5 HL5
         obtain⟨k,hi,rfl,hk1,hst⟩:=hrel
         have hbW:=hst.below HB5.out HSZ5.out
         by_cases hlt:k < k15
         ·have hk':k < to.length:=by rw[HTL.out];exact hlt
          have htr:=Rs.of_own ZJ (by decide) (hst.other HTO5.out HAT.out)
          obtain⟨bt,ot,rfl,hbt,d0,d1⟩:=Zee htr hk'
          have HRE:=Hd ((HF5.out.mem _).1 (List.getElem_mem hk'))
          obtain⟨tv,tz,htt⟩: ∃tv tz,to[k]=(tv,tz):=⟨to[k].1,to[k].2,rfl⟩
          have HTT:=Hd htt
          have HKK:=Hd hk'
          rw[htt] at d0 d1 HRE
          replace d0:_=some (Value.bool tv):=d0
          replace d1:_=some (Value.int .u64 (tz:Int)):=d1
          have HLTK:=Hd hlt
          have z0:=HZ0.out _ hbW
          have z1:=HZ1.out _ hbW
          have z2:=HZ2.out _ hbW
          clear htr htt hlt
          cases tv with
          |true=>
           have HSTN:Hid (St S.turn q w3.heap.size (.slice A7 q c7) w5 (PI l i to (k+1)) (fun _ _=>False) hi wr):=Hd ⟨hst.own,hst.lw.congr (fun c x=>Zkl HKK.out HTT.out c x) (fun c d h=>h),hst.kept⟩
           clear hst hbW
           go_wp2_with fail
           go_roundw
           case rel=>exact⟨k+1,hi,by have:=HLTK.out;go_num,by have:=HLTK.out;have:=HTL.out;omega,HSTN.out⟩
           case measure=>
            have:=HLTK.out
            simp[intOf]
            omega
          |false=>
           have htl:i < hi.length:=by rw[hst.lw.has.1];exact HLT.out
           obtain⟨g,hgA,hbg,hgl,hlc,hfz,hset⟩:=ZdA hst.own htl
           have HTQ:=Hd htl
           have hlw:=hst.lw
           have h1:S.has (hi.getD i 0)=true:=hlw.has.2 i HLT.out
           have h2:=ZbK HM.out (t:=(true,i)) (fun e=>by cases e) HRE.out
           have HLV:=Hd (hlw.var HS.out.turn HLT.out h2)
           obtain⟨x1,hx1⟩: ∃x,hi.getD i 0=x:=⟨_,rfl⟩
           rw[hx1] at hlc h1 HLV
           obtain⟨j,hj⟩: ∃j,S.meet x1 tz=j:=⟨_,rfl⟩
           have HJ:=Hd fun W (hW:Below w3.heap.size w3 W)=>hj▸HME.out W hW x1 tz h1 h2
           rw[show S.turn.join x1 tz=j from hj] at HLV
           have hiq:(i:Int) < (q:Int):=by have:=HLT.out;omega
           have HOWN:=Hd hst.own
           have HKP:=Hd hst.kept
           clear hx1 hj h1 h2 hlw hset hst htl
           subst hgA
           go_wp2_with fail
           refine wro [0,1,2,3,4,5,6,7,8,9,10,11,12,13,14] [12,14] 14 (fun w'=>w'.cell? ⟨w.heap.size,0,none⟩=some (.int .i64 (t:Int))∧w'.cell? ⟨w.heap.size,1,none⟩=some (.slice At mt ct)∧w'.cell? ⟨w.heap.size,2,none⟩=some (.int .i64 (et:Int))∧w'.cell? ⟨bt,ot+k*2+1,none⟩=some (.int .u64 (tz:Int))∧w'.cell? ⟨g,i,none⟩=some (.int .u64 (x1:Int))) (by kernel_rfl) (fun _ _ _ _ _ h=>h) ⟨z0,z1,z2,d1,hlc⟩ ?_
           simp only[steps,sE,sD]
           repeat((first|refine Zg rfl ?_|(refine Zf (v:= ?_) rfl rfl ?_ ?_;rotate_left;(focus(rintro w' ⟨hS0,hS1,hS2,hS3,hS4⟩;go_simp;try with_reducible rfl))));simp only[Act.put,sA,sB,sC])
           have hv:Below wr.heap.size wr wr.drew:=(Below.refl _ _).drew
           replace z0:=Zc z0 hv
           replace z1:=Zc z1 hv
           replace z2:=Zc z2 hv
           replace d1:=Zc d1 hv
           replace hlc:=Zc hlc hv
           replace hbW:=hbW.trans (hv.mono hbW.size)
           have HK6:=Hd (Kept.of_below (D:=fun b=>(Value.slice (some ⟨g,0,none⟩) q c7).ownBlock=some b) hv)
           have HO6:=Hd (ZV HOWN.out hv)
           clear hv
           generalize wr.drew=w6 at*
           refine Ze rfl rfl (fun K hK=> ?_)
           go_simp
           refine(HJ.out _ hbW).mono ?_
           rintro e w7 ⟨rfl,hv⟩
           replace z0:=Zc z0 hv
           replace z1:=Zc z1 hv
           replace z2:=Zc z2 hv
           replace d1:=Zc d1 hv
           replace hlc:=Zc hlc hv
           have HO7:=Hd (ZV HO6.out hv)
           have HK7:=Hd ((HKP.out.trans HK6.out).trans (Kept.of_below hv))
           clear hv HO6 HK6
           refine hK.out _ _ (fun _=>⟨z0,z1,z2,d1,hlc⟩) ?_
           clear hK K
           try simp only[Act.put,sA,sB,sC]
           repeat((first|refine Zg rfl ?_|(refine Zf (v:= ?_) rfl rfl ?_ ?_;rotate_left;(focus(rintro w' ⟨hS0,hS1,hS2,hS3,hS4⟩;go_simp;try with_reducible rfl))));simp only[Act.put,sA,sB,sC])
           obtain⟨g',hgA,_,hgl7,hlc7,hfz7,hset⟩:=ZdA HO7.out HTQ.out
           injection hgA with hgA
           injection hgA with hgA
           subst hgA
           refine Ze rfl rfl (fun K hK=> ?_)
           go_simp
           refine hK.out _ _ (fun h=>absurd rfl h) ?_
           clear hK K
           refine Zi ?_
           have HSTN:Hid (St S.turn q w3.heap.size (.slice (some ⟨g,0,none⟩) q c7) w5 (PI l i to (k+1)) (fun _ _=>False) (hi.set i j) (w7.setCell ⟨g,i,none⟩ (.int .u64 (j:Int)))):=
            Hd ⟨hset j,HLV.out.congr (fun c x=>Zkk HKK.out HTT.out c x) (fun c d h=>h),HK7.out.setCell (p:=⟨g,i,none⟩) (.inl rfl) _⟩
           clear hset hlc7 hfz7 hgl7
           go_wp2_with fail
           go_roundw
           case rel=>exact⟨k+1,_,by have:=HLTK.out;go_num,by have:=HLTK.out;have:=HTL.out;omega,HSTN.out⟩
           case measure=>
            have:=HLTK.out
            simp[intOf]
            omega
         ·obtain rfl:k=k15:=by have:=HTL.out;omega
          have HSTN:Hid (St S.turn q w3.heap.size (.slice A7 q c7) w4 (PH l (i+1)) (fun _ _=>False) hi wr):=Hd ⟨hst.own,by
           have hl:=hst.lw
           rw[← HTL.out] at hl
           exact hl.congr (fun c x=>Zi5 HF5.out c x) (fun c d h=>h),HK5.out.trans hst.kept⟩
          clear hst hbW hlt hk1
          go_wp2_with fail
          go_roundw
          case rel=>exact⟨i+1,hi,by have:=HLT.out;have:=HQ.out;go_num,HLT.out,HSTN.out⟩
          case measure=>
           have:=HLT.out
           simp[intOf]
           omega
       ·obtain rfl:q=i:=by omega
        have HHI:=Hd (hst.lw.congrq (fun c x hx=>Zkm c x hx) (fun c d h=>h):Lw S.turn q (fun d x=>Reach l (true,x) (false,d)) (fun _ _=>False) hi)
        have HR1:=Hd (QM (hst.other HLOW.out fun b hb h2=>HAP2.out b h2 hb))
        have HR2:=Hd (QM hst.own)
        have HBE:=Hd (HB0.out.trans (hbW.mono HB0.out.size))
        clear hst hbW hlt hi1
        go_wp2_with fail
        exact bodyPost_ret (v:= .tuple #[.slice A6 q c6,.slice A7 q c7,.int .i64 0]) (by simp[results,Tryz.results117,go_sem]) rfl ⟨_,_,_,_,_,_,0,lo,hi,rfl,HR1.out,HR2.out,Zht HS.out HX.out HLO.out HHI.out,HBE.out⟩)
end Go.Proofs.YtfmpecnkkbpdlaaGreatDoor.Bo
