import Derived.Test.YtfmpecnkkbpdlaaGreatDoorLiv
import Derived.Test.YtfmpecnkkbpdlaaGreatDoorSen
set_option maxRecDepth 100000
set_option maxHeartbeats 2000000
namespace Go.Proofs.YtfmpecnkkbpdlaaGreatDoor.Bo
open Go.RowKit
abbrev Tm:=Bool×Nat
def Bd.a (b:Bd):Tm:=(b.av,b.an)
def Bd.b (b:Bd):Tm:=(b.bv,b.bn)
inductive Reach (l:List Bd) (t:Tm):Tm→Prop
 |refl:Reach l t t
 |step (b:Bd):b∈l→Reach l t b.a→Reach l t b.b
theorem Reach.head {l:List Bd}{b:Bd}(hb:b∈l){z:Tm}(h:Reach l b.b z):Reach l b.a z:=by
 induction h with
 |refl=>exact .step b hb .refl
 |step c hc _ ih=>exact .step c hc ih
theorem QC {α:Type} [DecidableEq α]: ∀(l m:List α),l.Nodup→(∀x∈l,x∈m)→l.length≤m.length
 | [],_,_,_=>Nat.zero_le _
 |x::l,m,h,hm=>by
  have h2:=List.nodup_cons.1 h
  have hx:=hm x (List.mem_cons_self ..)
  have ih:=QC l (m.erase x) h2.2 fun y hy=>(List.mem_erase_of_ne (fun e=>h2.1 (by rw[← e];exact hy))).2 (hm y (List.mem_cons_of_mem _ hy))
  rw[List.length_erase_of_mem hx] at ih
  have:=List.length_pos_of_mem hx
  simp only[List.length_cons]
  omega
structure Z9 (l:List Bd)(t:Tm)(a i:Nat)(out:List Tm):Prop where
 zero:t∈out
 nodup:out.Nodup
 sub: ∀x∈out,Reach l t x
 inl: ∀x∈out,x∈t::l.map Bd.b
 done: ∀j (h:j < out.length),j < a→ ∀b∈l,b.a=out[j]→b.b∈out
 now: ∀(h:a < out.length) k (hk:k < l.length),k < i→l[k].a=out[a]→l[k].b∈out
theorem Z9.start (l:List Bd)(t:Tm):Z9 l t 0 0 [t]:=
 ⟨by simp,by simp,fun x hx=>by rw[List.mem_singleton.1 hx];exact .refl,fun x hx=>by rw[List.mem_singleton.1 hx];simp,fun _ _ h=>absurd h (Nat.not_lt_zero _),fun _ _ _ h=>absurd h (Nat.not_lt_zero _)⟩
theorem Z9.len {l:List Bd}{t:Tm}{a i:Nat}{out:List Tm}(h:Z9 l t a i out):out.length≤l.length+1:=by
 have:=QC out _ h.nodup h.inl
 simpa using this
theorem Z9.next {l:List Bd}{t:Tm}{a i:Nat}{out:List Tm}(h:Z9 l t a i out)(ha:a < out.length)(hi:i=l.length):Z9 l t (a+1) 0 out:=
 ⟨h.zero,h.nodup,h.sub,h.inl,fun j hj hlt b hb e=>by
  by_cases hja:j=a
  ·subst hja
   obtain⟨k,hk,rfl⟩:=List.mem_iff_getElem.1 hb
   exact h.now hj k hk (by omega) e
  ·exact h.done j hj (by omega) b hb e,fun _ _ _ h=>absurd h (Nat.not_lt_zero _)⟩
theorem Z9.skip {l:List Bd}{t:Tm}{a i:Nat}{out:List Tm}(h:Z9 l t a i out)(ha:a < out.length)(hi:i < l.length)(hs:l[i].a=out[a]→l[i].b∈out):Z9 l t a (i+1) out:=
 ⟨h.zero,h.nodup,h.sub,h.inl,h.done,fun ha' k hk hlt e=>by
  by_cases hki:k=i
  ·subst hki
   exact hs e
  ·exact h.now ha' k hk (by omega) e⟩
theorem Z9.more {l:List Bd}{t:Tm}{a i:Nat}{out:List Tm}(h:Z9 l t a i out)(ha:a < out.length)(hi:i < l.length)(he:l[i].a=out[a])(hn:l[i].b∉out):Z9 l t a (i+1) (out++ [l[i].b]):=by
 have old: ∀j (hj:j < (out++ [l[i].b]).length) (hlt:j < out.length),(out++ [l[i].b])[j]=out[j]:=fun j hj hlt=>List.getElem_append_left hlt
 refine⟨List.mem_append_left _ h.zero,?_,fun x hx=> ?_,fun x hx=> ?_,fun j hj hlt b hb e=> ?_,fun ha' k hk hlt e=> ?_⟩
 ·rw[List.nodup_append]
  refine⟨h.nodup,by simp,fun x hx y hy e=>hn ?_⟩
  rw[← List.mem_singleton.1 hy, ← e]
  exact hx
 ·rcases List.mem_append.1 hx with hx|hx
  ·exact h.sub x hx
  ·rw[List.mem_singleton.1 hx]
   exact .step _ (List.getElem_mem hi) (by rw[he];exact h.sub _ (List.getElem_mem ha))
 ·rcases List.mem_append.1 hx with hx|hx
  ·exact h.inl x hx
  ·rw[List.mem_singleton.1 hx]
   exact List.mem_cons_of_mem _ (List.mem_map.2 ⟨_,List.getElem_mem hi,rfl⟩)
 ·rw[old j hj (by omega)] at e
  exact List.mem_append_left _ (h.done j (by omega) hlt b hb e)
 ·rw[old a ha' ha] at e
  by_cases hki:k=i
  ·subst hki
   simp
  ·exact List.mem_append_left _ (h.now ha k hk (by omega) e)
structure Rz (l:List Bd)(t:Tm)(out:List Tm):Prop where
 len:out.length≤l.length+1
 mem: ∀x,x∈out↔Reach l t x
theorem Z9.end {l:List Bd}{t:Tm}{out:List Tm}(h:Z9 l t out.length 0 out):Rz l t out:=
 ⟨h.len,fun x=>⟨h.sub x,fun hr=>by
  induction hr with
  |refl=>exact h.zero
  |step b hb _ ih=>
   obtain⟨j,hj,e⟩:=List.mem_iff_getElem.1 ih
   exact h.done j hj hj b hb e.symm⟩⟩
structure Consts (l:List Bd)(i:Nat)(out:List Tm):Prop where
 nodup:out.Nodup
 mem: ∀x,x∈out↔x.1=false∧ ∃b∈l.take i,b.a=x∨b.b=x
theorem Consts.start (l:List Bd):Consts l 0 []:=⟨List.nodup_nil,fun x=>by simp⟩
theorem Consts.len {l:List Bd}{i:Nat}{out:List Tm}(h:Consts l i out):out.length≤2*l.length:=by
 have:=QC out (l.map Bd.a++l.map Bd.b) h.nodup fun x hx=>by
  obtain⟨-,b,hb,e⟩:=(h.mem x).1 hx
  have hb:=List.mem_of_mem_take hb
  rcases e with e|e
  ·exact List.mem_append_left _ (List.mem_map.2 ⟨b,hb,e⟩)
  ·exact List.mem_append_right _ (List.mem_map.2 ⟨b,hb,e⟩)
 simp at this
 omega
def addC (out:List Tm)(t:Tm):List Tm:=if t.1=false∧t∉out then out++ [t] else out
theorem RD {out:List Tm}{t:Tm}(h:out.Nodup):(addC out t).Nodup:=by
 unfold addC
 split
 ·rename_i hc
  rw[List.nodup_append]
  refine⟨h,by simp,fun x hx y hy e=>hc.2 ?_⟩
  rw[← List.mem_singleton.1 hy, ← e]
  exact hx
 ·exact h
theorem Zdc {out:List Tm}{t x:Tm}:x∈addC out t↔x∈out∨(x=t∧t.1=false):=by
 unfold addC
 split
 ·rename_i hc
  rw[List.mem_append,List.mem_singleton]
  exact⟨fun h=>h.imp id fun e=>⟨e,hc.1⟩,fun h=>h.imp id And.left⟩
 ·rename_i hc
  refine⟨.inl,fun h=>h.elim id fun ⟨e,h1⟩=> ?_⟩
  rw[e]
  exact Classical.byContradiction fun hn=>hc ⟨h1,hn⟩
theorem Consts.next {l:List Bd}{i:Nat}{out:List Tm}(h:Consts l i out)(hi:i < l.length):Consts l (i+1) (addC (addC out l[i].a) l[i].b):=by
 refine⟨RD (RD h.nodup),fun x=> ?_⟩
 rw[Zdc,Zdc,h.mem,List.take_succ_eq_append_getElem hi]
 constructor
 ·rintro((⟨h1,b,hb,e⟩|⟨rfl,h1⟩)|⟨rfl,h1⟩)
  ·exact⟨h1,b,List.mem_append_left _ hb,e⟩
  ·exact⟨h1,l[i],List.mem_append_right _ (List.mem_singleton.2 rfl),.inl rfl⟩
  ·exact⟨h1,l[i],List.mem_append_right _ (List.mem_singleton.2 rfl),.inr rfl⟩
 ·rintro⟨h1,b,hb,e⟩
  rcases List.mem_append.1 hb with hb|hb
  ·exact .inl (.inl ⟨h1,b,hb,e⟩)
  ·rw[List.mem_singleton.1 hb] at e
   rcases e with rfl|rfl
   ·exact .inl (.inr ⟨rfl,h1⟩)
   ·exact .inr ⟨rfl,h1⟩
structure Lw (S:Sr)(q:Nat)(P Q:Nat→Nat→Prop)(v:List Nat):Prop where
 has:UW S q v
 bot: ∀x,x < q→S.below S.bot (v.getD x 0)=true
 up: ∀c x,x < q→P c x→S.below c (v.getD x 0)=true
 lub: ∀x,x < q→ ∀y,S.below S.bot y=true→(∀c,P c x→S.below c y=true)→S.below (v.getD x 0) y=true
 dn: ∀c d,Q c d→S.below c d=true
theorem Lw.congr {S:Sr}{q:Nat}{P Q P' Q':Nat→Nat→Prop}{v:List Nat}(h:Lw S q P Q v)(hp: ∀c x,P' c x↔P c x)(hq: ∀c x,Q' c x→Q c x):Lw S q P' Q' v:=
 ⟨h.has,h.bot,fun c x hx k=>h.up c x hx ((hp c x).1 k),fun x hx y hy k=>h.lub x hx y hy fun c kc=>k c ((hp c x).2 kc),fun c d k=>h.dn c d (hq c d k)⟩
theorem Lw.start {S:Sr}(hS:S.Ok){q:Nat}(hb:0 < q→S.has S.bot=true):Lw S q (fun _ _=>False) (fun _ _=>False) (List.replicate q S.bot):=by
 refine⟨⟨by simp,fun i hi=> ?_⟩,fun x hx=> ?_,fun _ _ _ h=>h.elim,fun x hx y hy _=> ?_,fun _ _ h=>h.elim⟩
 ·rw[Yq hi]
  exact hb (by omega)
 ·rw[Yq hx]
  exact hS.refl _ (hb (by omega))
 ·rw[Yq hx]
  exact hy
theorem Lw.var {S:Sr}(hS:S.Ok){q:Nat}{P Q:Nat→Nat→Prop}{v:List Nat}(h:Lw S q P Q v){c x:Nat}(hx:x < q)(hc:S.has c=true):Lw S q (fun d y=>P d y∨(d=c∧y=x)) Q (v.set x (S.join (v.getD x 0) c)):=by
 have hl:x < v.length:=by rw[h.has.1];exact hx
 have hv:=h.has.2 x hx
 have hj1:=hS.joinA _ _ hv hc
 have hj2:=hS.joinB _ _ hv hc
 refine⟨⟨by rw[List.length_set];exact h.has.1,fun i hi=> ?_⟩,fun i hi=> ?_,fun d i hi k=> ?_,fun i hi y hy k=> ?_,h.dn⟩
 ·rw[UO hl]
  split
  ·exact(hS.sub _ _ hj1).2
  ·exact h.has.2 i hi
 ·rw[UO hl]
  split
  ·exact hS.trans _ _ _ (h.bot x hx) hj1
  ·exact h.bot i hi
 ·rw[UO hl]
  split
  ·rename_i e
   subst e
   rcases k with k|⟨rfl,-⟩
   ·exact hS.trans _ _ _ (h.up d x hx k) hj1
   ·exact hj2
  ·rename_i e
   rcases k with k|⟨-,k⟩
   ·exact h.up d i hi k
   ·exact absurd k.symm e
 ·rw[UO hl]
  split
  ·rename_i e
   subst e
   exact hS.joinL _ _ _ (h.lub x hx y hy fun d kd=>k d (.inl kd)) (k c (.inr ⟨rfl,rfl⟩))
  ·exact h.lub i hi y hy fun d kd=>k d (.inl kd)
theorem Lw.con {S:Sr}{q:Nat}{P Q:Nat→Nat→Prop}{v:List Nat}(h:Lw S q P Q v){c d:Nat}(hc:S.below c d=true):Lw S q P (fun a b=>Q a b∨(a=c∧b=d)) v:=
 ⟨h.has,h.bot,h.up,h.lub,fun a b k=>k.elim (h.dn a b) fun ⟨e1,e2⟩=>by rw[e1,e2];exact hc⟩
def IsC (l:List Bd)(c:Nat):Prop:= ∃b∈l,b.a=(false,c)∨b.b=(false,c)
theorem Zas {S:Sr}{q:Nat}{l:List Bd}(hm: ∀b∈l,mayB S q b=true){c:Nat}(h:IsC l c):S.has c=true:=by
 obtain⟨b,hb,e⟩:=h
 obtain⟨h1,h2⟩:=Bool.and_eq_true_iff.1 (hm b hb)
 rcases e with e|e
 ·injection e with e1 e2
  unfold mayT at h1
  rw[e1,e2] at h1
  exact h1
 ·injection e with e1 e2
  unfold mayT at h2
  rw[e1,e2] at h2
  exact h2
theorem Zky {S:Sr}{q:Nat}{l:List Bd}(hm: ∀b∈l,mayB S q b=true){t:Tm}(ht:t.1=true→t.2 < q){x:Nat}(h:Reach l t (true,x)):x < q:=by
 generalize hz:(true,x)=z at h
 cases h with
 |refl=>rw[← hz] at ht;exact ht rfl
 |step b hb _=>
  obtain⟨_,h2⟩:=Bool.and_eq_true_iff.1 (hm b hb)
  injection hz with e1 e2
  unfold mayT at h2
  rw[← e1, ← e2] at h2
  exact of_decide_eq_true h2
theorem ZbK {S:Sr}{q:Nat}{l:List Bd}(hm: ∀b∈l,mayB S q b=true){t:Tm}(ht:t.1=false→S.has t.2=true){d:Nat}(h:Reach l t (false,d)):S.has d=true:=by
 generalize hz:(false,d)=z at h
 cases h with
 |refl=>rw[← hz] at ht;exact ht rfl
 |step b hb _=>exact Zas hm ⟨b,hb,.inr hz.symm⟩
theorem way {S:Sr}(hS:S.Ok){u:List Nat}{l:List Bd}(hh:VK S u l=true){t z:Tm}(h:Reach l t z)(ht:S.below (vl u t.1 t.2) (vl u t.1 t.2)=true):S.below (vl u t.1 t.2) (vl u z.1 z.2)=true:=by
 induction h with
 |refl=>exact ht
 |step b hb _ ih=>exact hS.trans _ _ _ ih (Bool.and_eq_true_iff.1 (List.all_eq_true.1 hh b hb)).2
theorem ZfD {S:Sr}(hS:S.Ok){l:List Bd}{c d:Nat}(hc:S.has c=true)(h:Reach l (false,c) (false,d))(hn:S.below c d=false)(u:List Nat):VK S u l=false:=by
 cases hh:VK S u l with
 |false=>rfl
 |true=>
  have:=way hS hh h (hS.refl _ hc)
  rw[show S.below (vl u false c) (vl u false d)=S.below c d from rfl,hn] at this
  cases this
theorem ZfE {S:Sr}(hS:S.Ok){q:Nat}(hq:0 < q)(hb:S.has S.bot=false){l:List Bd}(u:List Nat)(hu:UW S q u):VK S u l=false:=by
 have:=(hS.sub _ _ (hS.botl _ (hu.2 0 hq))).1
 rw[hb] at this
 cases this
theorem Zkz {S:Sr}(hS:S.Ok){q:Nat}{l:List Bd}(hm: ∀b∈l,mayB S q b=true){v:List Nat}
  (h:Lw S q (fun c x=>IsC l c∧Reach l (false,c) (true,x)) (fun c d=>IsC l c∧Reach l (false,c) (false,d)) v):Y7 S q l v∧VK S v l=true:=by
 have led: ∀b∈l,S.below (vl v b.av b.an) (vl v b.bv b.bn)=true:=fun b hb=>by
  obtain⟨h1,h2⟩:=Bool.and_eq_true_iff.1 (hm b hb)
  cases hav:b.av with
  |false=>
   have ha:b.a=(false,b.an):=by unfold Bd.a;rw[hav]
   have hc:IsC l b.an:=⟨b,hb,.inl ha⟩
   have hr:Reach l (false,b.an) b.b:= .step b hb (by rw[ha];exact .refl)
   cases hbv:b.bv with
   |false=>exact h.dn _ _ ⟨hc,by unfold Bd.b at hr;rw[hbv] at hr;exact hr⟩
   |true=>
    unfold Bd.b at hr
    rw[hbv] at hr h2
    exact h.up _ _ (of_decide_eq_true h2) ⟨hc,hr⟩
  |true=>
   rw[hav] at h1
   have ha:b.a=(true,b.an):=by unfold Bd.a;rw[hav]
   have hr: ∀c,Reach l (false,c) (true,b.an)→Reach l (false,c) b.b:=fun c k=> .step b hb (by rw[ha];exact k)
   cases hbv:b.bv with
   |false=>
    rw[hbv] at h2
    have hb':b.b=(false,b.bn):=by unfold Bd.b;rw[hbv]
    exact h.lub _ (of_decide_eq_true h1) b.bn (hS.botl _ h2) fun c k=>h.dn c b.bn ⟨k.1,by rw[← hb'];exact hr c k.2⟩
   |true=>
    rw[hbv] at h2
    have hb':b.b=(true,b.bn):=by unfold Bd.b;rw[hbv]
    exact h.lub _ (of_decide_eq_true h1) _ (h.bot _ (of_decide_eq_true h2)) fun c k=>h.up _ _ (of_decide_eq_true h2) ⟨k.1,by rw[← hb'];exact hr c k.2⟩
 refine⟨⟨⟨h.has,fun u hu hl i hi=> ?_⟩,fun b hb hv=>by
  have:=led b hb
  rw[hv] at this
  exact this⟩,List.all_eq_true.2 fun b hb=>by
  obtain⟨o1,o2⟩:=Ziv (hm b hb) h.has.1
  unfold okB
  rw[o1,o2,led b hb]
  rfl⟩
 refine h.lub i hi _ (hS.botl _ (hu.2 i hi)) fun c k=> ?_
 have key: ∀z,Reach l (false,c) z→S.below c (vl u z.1 z.2)=true:=fun z hz=>by
  induction hz with
  |refl=>exact hS.refl _ (Zas hm k.1)
  |step b hb hr ih=>
   cases hbv:b.bv with
   |false=>
    show S.below c (vl u b.bv b.bn)=true
    rw[hbv]
    exact h.dn c b.bn ⟨k.1,by have:=Reach.step b hb hr;unfold Bd.b at this;rw[hbv] at this;exact this⟩
   |true=>
    have:=hS.trans _ _ _ ih (hl b hb hbv)
    show S.below c (vl u b.bv b.bn)=true
    rw[hbv]
    exact this
 exact key _ k.2
theorem Zju {S:Sr}(hS:S.Ok){q:Nat}{l:List Bd}(hm: ∀b∈l,mayB S q b=true){v:List Nat}(hdn: ∀c d,IsC l c→Reach l (false,c) (false,d)→S.below c d=true)
  (h:Lw S.turn q (fun d x=>Reach l (true,x) (false,d)) (fun _ _=>False) v):Y7 S.turn q (l.map Bd.turn) v:=by
 refine⟨⟨h.has,fun u hu hl i hi=> ?_⟩,fun b' hb' hv=> ?_⟩
 ·refine h.lub i hi _ (hS.topl _ (hu.2 i hi)) fun d k=> ?_
  have rev: ∀s,Reach l (true,i) s→Reach l s (false,d)→(s.1=true→S.below (u.getD s.2 0) d=true)→S.below (u.getD i 0) d=true:=by
   intro s hs
   induction hs with
   |refl=>exact fun _ k=>k rfl
   |step b hb _ ih=>
    intro hr hk
    refine ih (Reach.head hb hr) fun ha=> ?_
    have hl2:S.below (u.getD b.an 0) (vl u b.bv b.bn)=true:=hl b.turn (List.mem_map.2 ⟨b,hb,rfl⟩) ha
    cases hbv:b.bv with
    |true=>
     rw[hbv] at hl2
     exact hS.trans _ _ _ hl2 (hk hbv)
    |false=>
     rw[hbv] at hl2
     have hb2:b.b=(false,b.bn):=by unfold Bd.b;rw[hbv]
     rw[hb2] at hr
     exact hS.trans _ _ _ hl2 (hdn _ _ ⟨b,hb,.inr hb2⟩ hr)
  exact rev _ k .refl fun h=>by cases h
 ·obtain⟨b,hb,rfl⟩:=List.mem_map.1 hb'
  have hv:b.av=true:=hv
  obtain⟨h1,h2⟩:=Bool.and_eq_true_iff.1 (hm b hb)
  rw[hv] at h1
  have hr: ∀d,Reach l b.b (false,d)→Reach l (true,b.an) (false,d):=fun d k=>by
   have:=Reach.head hb k
   unfold Bd.a at this
   rw[hv] at this
   exact this
  show S.below (v.getD b.an 0) (vl v b.bv b.bn)=true
  cases hbv:b.bv with
  |false=>exact h.up _ _ (of_decide_eq_true h1) (hr _ (by unfold Bd.b;rw[hbv];exact .refl))
  |true=>
   rw[hbv] at h2
   exact h.lub _ (of_decide_eq_true h2) _ (h.bot _ (of_decide_eq_true h1)) fun d k=>h.up _ _ (of_decide_eq_true h1) (hr _ (by unfold Bd.b;rw[hbv];exact k))
theorem Zht {S:Sr}(hS:S.Ok){q:Nat}{l:List Bd}(hc:chkS S (q:Int) l=0){lo hi:List Nat}(h1:Lw S q (fun c x=>IsC l c∧Reach l (false,c) (true,x)) (fun c d=>IsC l c∧Reach l (false,c) (false,d)) lo)
  (h2:Lw S.turn q (fun d x=>Reach l (true,x) (false,d)) (fun _ _=>False) hi):Za4 S (q:Int) l 0 lo hi:=by
 obtain⟨q2,e,-,-,hm⟩:=ZbW hc
 obtain rfl:q2=q:=by omega
 obtain⟨k1,k2⟩:=Zkz hS hm h1
 exact .inr (.inr ⟨q2,rfl,hc,rfl,k1,Zju hS hm (fun c d k r=>h1.dn c d ⟨k,r⟩) h2,k2⟩)
end Go.Proofs.YtfmpecnkkbpdlaaGreatDoor.Bo
namespace Go.Proofs.YtfmpecnkkbpdlaaGreatDoor.Bo
open Go.RowKit
def rsV (t:Nat)(A:Option Addr)(n c:Nat)(m:Nat):Value:= .agg #[.int .i64 (t:Int),.slice A n c,.int .i64 (m:Int)]
def RHas (w:World)(p:Value)(S:Sr):Prop:= ∀W,Below w.heap.size w W→ ∀x:Nat,x < 18446744073709551616→Calls Tryz.prog 191 #[p,.int .u64 (x:Int)] W fun e w'=>e= .returned (.bool (S.has x))∧Below W.heap.size W w'
theorem RHas.keep {w W:World}{p:Value}{S:Sr}(h:RHas w p S)(hb:Below w.heap.size w W):RHas W p S:=fun V hV=>h V (hb.trans (hV.mono hb.size))
theorem Kt (t:Nat)(A:Option Addr)(m c e:Nat)(S:Sr)(b:Bool)(n k:Nat)(w:World)(hs:RHas w (rsV t A m c e) S)(hn:n < 18446744073709551616)(hk:k≤64):
  Calls Tryz.prog 116 #[rsV t A m c e,.int .i64 (k:Int),tmv b n] w fun e w'=>e= .returned (.bool (mayT S k b n))∧Below w.heap.size w w':=by
 have hw:=wrap_small (k:=k) (by omega)
 have hal:Below w.heap.size w ((w.alloc (.cells #[.int .i64 (t:Int),.slice A m c,.int .i64 (e:Int)] 36)).alloc (.cells #[.bool b,.int .u64 (n:Int)] 74)):=(bA).alloc (by simp) _
 unfold tmv mayT
 have HS:=Hd hs
 unfold rsV at HS ⊢
 cases b with
 |true=>
  clear hs HS
  simp only[cond_true]
  by_cases h0:k=0
  ·subst h0
   have e:decide (n < 0)=false:=by simp
   rw[e]
   go_enter Tryz.func116,Tryz.ntmps116
   go_wp2
   go_ret
   exact⟨rfl,hal⟩
  ·have e:decide (n < k)=decide ((n:Int) < (k:Int)):=by congr 1;simp
   rw[e]
   have h1:(0:Int) < (k:Int):=by omega
   generalize hd:decide ((n:Int) < (k:Int))=d at*
   clear h0
   go_enter Tryz.func116,Tryz.ntmps116
   go_wp2
   go_ret
   exact⟨rfl,hal⟩
 |false=>
  simp only[cond_false]
  have HN:=Hd hn
  clear hw hk hn hs
  have H:=Hd (HS.out _ hal n HN.out)
  generalize S.has n=r at*
  have HA:=Hd hal
  clear hal HS
  go_enter Tryz.func116,Tryz.ntmps116
  go_wp2_with fail
  refine H.out.mono ?_
  rintro e w1 ⟨rfl,hb⟩
  go_wp2_with fail
  go_ret
  exact⟨rfl,HA.out.trans (hb.mono HA.out.size)⟩
theorem KU (t:Nat)(At:Option Addr)(mt ct et:Nat)(k:Int)(A:Option Addr)(n c:Nat)(l:List Bd)(S:Sr)(w:World)(x:Int)(hs:RHas w (rsV t At mt ct et) S)(h:Rs bdc 4 w w.heap.size A n c l)(hf: ∀b∈l,b.Fit)(hx:chkS S k l=x):
  Calls Tryz.prog 115 #[rsV t At mt ct et,.int .i64 k,.slice A n c] w fun e w'=>e= .returned (.int .i64 x)∧Below w.heap.size w w':=by
 have hlen:=h.len
 have hal:Below w.heap.size w (w.alloc (.cells #[.int .i64 (t:Int),.slice At mt ct,.int .i64 (et:Int)] 36)):=bA
 unfold rsV at hs ⊢
 by_cases h0:k < 0
 ·obtain rfl:(3:Int)=x:=by rw[← hx,chkS,if_pos (.inl h0)]
  clear hx hs h hf
  go_enter Tryz.func115,Tryz.ntmps115
  go_wp2
  go_ret
  exact⟨rfl,hal⟩
 by_cases h1:64 < k
 ·obtain rfl:(3:Int)=x:=by rw[← hx,chkS,if_pos (.inr (.inl h1))]
  clear hx hs h hf
  go_enter Tryz.func115,Tryz.ntmps115
  go_wp2
  go_ret
  exact⟨rfl,hal⟩
 by_cases h2:256 < n
 ·obtain rfl:(3:Int)=x:=by rw[← hx,chkS,if_pos (.inr (.inr (by rw[hlen];exact h2)))]
  have h2':(256:Int) < (n:Int):=by omega
  clear hx hs h hf h2
  go_enter Tryz.func115,Tryz.ntmps115
  go_wp2
  go_ret
  exact⟨rfl,hal⟩
 obtain⟨q,rfl⟩: ∃q:Nat,k=(q:Int):=⟨k.toNat,by omega⟩
 have hq:q≤64:=by omega
 have h0': ¬(q:Int) < 0:=by omega
 have h2': ¬(256:Int) < (n:Int):=by omega
 have hx':(if l.all (mayB S q) then(0:Int) else 1)=x:=by rw[← hx,chkS,if_neg (show ¬((q:Int) < 0∨64 < (q:Int)∨256 < l.length) by omega),Int.toNat_natCast]
 have HX:=Hd hx'
 have HF:=Hd hf
 have HQ:=Hd hq
 have HL:=Hd hlen
 have htop:=h.top
 have hcap:=h.cap
 unfold maxLen at htop
 have HR:=Hd (h.at_size lR hal)
 have HS:=Hd (hs.keep hal)
 have hbx:=heap_alloc_new w (.cells #[.int .i64 (t:Int),.slice At mt ct,.int .i64 (et:Int)] 36)
 have hz0:=(Za (i:=0) hbx).trans rfl
 have hz1:=(Za (i:=1) hbx).trans rfl
 have hz2:=(Za (i:=2) hbx).trans rfl
 have HAL:=Hd hal
 clear hx hx' hf hq hlen h hs h0 h2 hbx hal
 go_enter Tryz.func115,Tryz.ntmps115
 go_wp2_with fail
 clear h0' h1 h2'
 obtain⟨w0,hw0⟩: ∃w0,w0=w.alloc (.cells #[.int .i64 (t:Int),.slice At mt ct,.int .i64 (et:Int)] 36):=⟨_,rfl⟩
 rw[← hw0] at hz0 hz1 hz2 HAL HS HR ⊢
 clear hw0
 go_loopw [7] (fun v7 wr=>UX (mayB S q) l w0 v7 wr) (fun v7 _=>n - (intOf v7).toNat)
 case atStart=>exact⟨0,rfl,by omega,rfl,Below.refl _ _⟩
 case round=>
  obtain⟨i,rfl,hi,hall,hb⟩:=hrel
  by_cases hlt:i < n
  ·have hi':i < l.length:=by rw[HL.out];exact hlt
   have hr:=(HR.out.at_size lR hb)
   replace hz0:=Zc hz0 hb
   replace hz1:=Zc hz1 hb
   replace hz2:=Zc hz2 hb
   obtain⟨b,o,rfl,hbb,e0,e1,e2,e3⟩:=V4 hr hi'
   have hu:=HF.out _ (List.getElem_mem hi')
   obtain⟨r1,hr1⟩: ∃r,mayT S q l[i].av l[i].an=r:=⟨_,rfl⟩
   obtain⟨r2,hr2⟩: ∃r,mayT S q l[i].bv l[i].bn=r:=⟨_,rfl⟩
   have HST:Hid ((l.take (i+1)).all (mayB S q)=(r1 && r2)):=Hd (by rw[Vs hi' hall,mayB,hr1,hr2])
   have HNO:Hid ((r1 && r2)=false→l.all (mayB S q)=false):=Hd fun e=>VR hi' (by rw[mayB,hr1,hr2];exact e)
   generalize l[i]=y at*
   obtain⟨av,an,bv,bn⟩:=y
   simp only at e0 e1 e2 e3 hu hr1 hr2
   have HM1:Hid (∀W,Below w0.heap.size w0 W→Calls Tryz.prog 116 #[rsV t At mt ct et,.int .i64 (q:Int),tmv av an] W fun e w'=>e= .returned (.bool r1)∧Below W.heap.size W w'):=
    Hd fun W hW=>hr1▸Kt t At mt ct et S av an q W (HS.out.keep hW) hu.1 HQ.out
   have HM2:Hid (∀W,Below w0.heap.size w0 W→Calls Tryz.prog 116 #[rsV t At mt ct et,.int .i64 (q:Int),tmv bv bn] W fun e w'=>e= .returned (.bool r2)∧Below W.heap.size W w'):=
    Hd fun W hW=>hr2▸Kt t At mt ct et S bv bn q W (HS.out.keep hW) hu.2 HQ.out
   have HLT:=Hd hlt
   clear hall hr hu hr1 hr2 hbb hi'
   unfold tmv rsV at HM1 HM2
   go_wp2_with fail
   refine wro [0,1,2,3,4,5,6,7,8,9,10,11,12,13,14,15,16,17,18,19] [7,17] 20 (fun w'=>w'.cell? ⟨w.heap.size,0,none⟩=some (.int .i64 (t:Int))∧w'.cell? ⟨w.heap.size,1,none⟩=some (.slice At mt ct)∧w'.cell? ⟨w.heap.size,2,none⟩=some (.int .i64 (et:Int))∧w'.cell? ⟨b,o+i*4,none⟩=some (.bool av)∧w'.cell? ⟨b,o+i*4+1,none⟩=some (.int .u64 (an:Int))∧w'.cell? ⟨b,o+i*4+2,none⟩=some (.bool bv)∧w'.cell? ⟨b,o+i*4+3,none⟩=some (.int .u64 (bn:Int))) (by kernel_rfl) (fun _ _ _ _ _ h=>h) ⟨hz0,hz1,hz2,e0,e1,e2,e3⟩ ?_
   simp only[steps,sE,sD]
   repeat((first|refine Zg rfl ?_|(refine Zf (v:= ?_) rfl rfl ?_ ?_;rotate_left;(focus(rintro w' ⟨hS0,hS1,hS2,hS3,hS4,hS5,hS6⟩;go_simp;try with_reducible rfl))));simp only[Act.put,sA,sB,sC])
   have hv:Below wr.heap.size wr wr.drew:=(Below.refl _ _).drew
   replace hz0:=Zc hz0 hv
   replace hz1:=Zc hz1 hv
   replace hz2:=Zc hz2 hv
   replace e0:=Zc e0 hv
   replace e1:=Zc e1 hv
   replace e2:=Zc e2 hv
   replace e3:=Zc e3 hv
   replace hb:=hb.trans (hv.mono hb.size)
   clear hv
   generalize wr.drew=w5 at*
   refine Ze rfl rfl (fun K hK=> ?_)
   go_simp
   refine(HM1.out _ hb).mono ?_
   rintro e w6 ⟨rfl,hv⟩
   replace hz0:=Zc hz0 hv
   replace hz1:=Zc hz1 hv
   replace hz2:=Zc hz2 hv
   replace e0:=Zc e0 hv
   replace e1:=Zc e1 hv
   replace e2:=Zc e2 hv
   replace e3:=Zc e3 hv
   replace hb:=hb.trans (hv.mono hb.size)
   clear hv
   refine hK.out _ _ (fun _=>⟨hz0,hz1,hz2,e0,e1,e2,e3⟩) ?_
   clear hK K
   try simp only[Act.put,sA,sB,sC]
   cases r1 with
   |false=>
    have HN:=Hd (HNO.out rfl)
    clear HNO HST
    repeat((first|refine Zg rfl ?_|(refine Zf (v:= ?_) rfl rfl ?_ ?_;rotate_left;(focus(rintro w' ⟨hS0,hS1,hS2,hS3,hS4,hS5,hS6⟩;go_simp;try with_reducible rfl))));simp only[Act.put,sA,sB,sC])
    refine Zi ?_
    go_wp2_with fail
    go_ret
    refine⟨?_,HAL.out.trans (hb.mono HAL.out.size)⟩
    rw[← HX.out,HN.out]
    rfl
   |true=>
    repeat((first|refine Zg rfl ?_|(refine Zf (v:= ?_) rfl rfl ?_ ?_;rotate_left;(focus(rintro w' ⟨hS0,hS1,hS2,hS3,hS4,hS5,hS6⟩;go_simp;try with_reducible rfl))));simp only[Act.put,sA,sB,sC])
    refine Ze rfl rfl (fun K hK=> ?_)
    go_simp
    refine(HM2.out _ hb).mono ?_
    rintro e w7 ⟨rfl,hv⟩
    replace hz0:=Zc hz0 hv
    replace hz1:=Zc hz1 hv
    replace hz2:=Zc hz2 hv
    replace e0:=Zc e0 hv
    replace e1:=Zc e1 hv
    replace e2:=Zc e2 hv
    replace e3:=Zc e3 hv
    replace hb:=hb.trans (hv.mono hb.size)
    clear hv
    refine hK.out _ _ (fun _=>⟨hz0,hz1,hz2,e0,e1,e2,e3⟩) ?_
    clear hK K
    try simp only[Act.put,sA,sB,sC]
    repeat((first|refine Zg rfl ?_|(refine Zf (v:= ?_) rfl rfl ?_ ?_;rotate_left;(focus(rintro w' ⟨hS0,hS1,hS2,hS3,hS4,hS5,hS6⟩;go_simp;try with_reducible rfl))));simp only[Act.put,sA,sB,sC])
    refine Zi ?_
    cases r2 with
    |false=>
     have HN:=Hd (HNO.out rfl)
     clear HNO HST
     go_wp2_with fail
     go_ret
     refine⟨?_,HAL.out.trans (hb.mono HAL.out.size)⟩
     rw[← HX.out,HN.out]
     rfl
    |true=>
     clear HNO
     go_wp2_with fail
     go_roundw
     case rel=>exact⟨i+1,by go_num,by have:=HLT.out;have:=HL.out;omega,HST.out,hb⟩
     case measure=>
      have:=HLT.out
      simp[intOf]
      omega
  ·obtain rfl:i=n:=by have:=HL.out;omega
   have HE:Hid ((0:Int)=x):=Hd (by
    rw[List.take_of_length_le (by rw[HL.out];omega)] at hall
    rw[← HX.out,hall]
    rfl)
   clear hall
   go_wp2
   go_ret
   exact⟨by rw[← HE.out];rfl,HAL.out.trans (hb.mono HAL.out.size)⟩
end Go.Proofs.YtfmpecnkkbpdlaaGreatDoor.Bo
namespace Go.Proofs.YtfmpecnkkbpdlaaGreatDoor.Bo
open Go.RowKit
def tmc (t:Tm):List Value:= [.bool t.1,.int .u64 (t.2:Int)]
theorem ZJ (t:Tm):(tmc t).length=2:=rfl
theorem ZjT (l:List Tm): ∀u∈l.flatMap tmc,u.oneCell'=true:=by
 intro u hu
 obtain⟨x,_,hx⟩:=List.mem_flatMap.1 hu
 simp only[tmc,List.mem_cons,List.not_mem_nil,or_false] at hx
 rcases hx with rfl|rfl <;> rfl
theorem ZkN:(Tryz.prog.info? 74).map (fun i=>(i.zero,i.size,i.bytes))=some (some (.agg #[.bool false,.int .u64 0]),2,16):=by kernel_rfl
theorem Zee {w:World}{B n c:Nat}{A:Option Addr}{l:List Tm}(h:Rs tmc 2 w B A n c l){k:Nat}(hk:k < l.length): ∃b o,A=some ⟨b,o,none⟩∧b < B∧w.cell? ⟨b,o+k*2,none⟩=some (.bool l[k].1)∧w.cell? ⟨b,o+k*2+1,none⟩=some (.int .u64 (l[k].2:Int)):=by
 obtain⟨b,o,e,hb,hc⟩:=h.spot (by have:=h.len;omega)
 exact⟨b,o,e,hb,hc k hk 0 _ rfl,hc k hk 1 _ rfl⟩
theorem below_drewN (w:World)(q:Nat):Below w.heap.size w (w.drewN q):=⟨rfl,rfl,rfl,Nat.le_refl _,fun _ _=>rfl⟩
def Zlx (out:List Tm)(t:Tm)(w:World)(v5:Value)(wr:World):Prop:= ∃k:Nat,v5= .int .i64 (k:Int)∧k≤out.length∧t∉out.take k∧Below w.heap.size w wr
theorem ZhP {out:List Tm}{t:Tm}{k:Nat}(hk:k < out.length)(h:t∉out.take k)(hne:t≠out[k]):t∉out.take (k+1):=by
 rw[List.take_succ_eq_append_getElem hk,List.mem_append,List.mem_singleton]
 exact fun e=>e.elim h hne
theorem UR (A:Option Addr)(n c B:Nat)(out:List Tm)(v:Bool)(z:Nat)(w:World)(r:Bool)(h:Rs tmc 2 w B A n c out)(hB:B≤w.heap.size)(hr:decide ((v,z)∈out)=r):
  Calls Tryz.prog 219 #[.slice A n c,tmv v z] w fun e w'=>e= .returned (.bool r)∧Below w.heap.size w w':=by
 have hal:Below w.heap.size w (w.alloc (.cells #[.bool v,.int .u64 (z:Int)] 74)):=bA
 have HL:=Hd h.len
 have htop:=h.top
 have hcap:=h.cap
 unfold maxLen at htop
 have HR:=Hd (h.at_size hB hal)
 have hbx:=heap_alloc_new w (.cells #[.bool v,.int .u64 (z:Int)] 74)
 have hz0:=(Za (i:=0) hbx).trans rfl
 have hz1:=(Za (i:=1) hbx).trans rfl
 have HAL:=Hd hal
 have HRR:=Hd hr
 clear h hbx hal hr
 unfold tmv
 go_enter Tryz.func219,Tryz.ntmps219
 go_wp2_with fail
 obtain⟨w0,hw0⟩: ∃w0,w0=w.alloc (.cells #[.bool v,.int .u64 (z:Int)] 74):=⟨_,rfl⟩
 rw[← hw0] at hz0 hz1 HAL HR ⊢
 clear hw0
 go_loopw [5] (fun v5 wr=>Zlx out (v,z) w0 v5 wr) (fun v5 _=>n - (intOf v5).toNat)
 case atStart=>exact⟨0,rfl,by omega,by simp,Below.refl _ _⟩
 case round=>
  obtain⟨k,rfl,hk,hno,hb⟩:=hrel
  by_cases hlt:k < n
  ·have hk':k < out.length:=by rw[HL.out];exact hlt
   have hrr:=HR.out.at_size lR hb
   replace hz0:=Zc hz0 hb
   replace hz1:=Zc hz1 hb
   obtain⟨b,o,rfl,hbb,c0,c1⟩:=Zee hrr hk'
   by_cases he:(v,z)=out[k]
   ·have HT:Hid (r=true):=Hd (by rw[← HRR.out];exact decide_eq_true (by rw[he];exact List.getElem_mem hk'))
    rw[← he] at c0 c1
    have HB:=Hd hb
    clear hrr hbb hno hk' he hb HRR
    go_wp2
    go_quiet (fail)
    go_wp2
    go_ret
    refine⟨by rw[HT.out];rfl,?_⟩
    exact HAL.out.trans (((Below.trans HB.out ((below_drewN _ _).mono HB.out.size))).mono HAL.out.size)
   ·have HN:=Hd (ZhP hk' hno he)
    replace hz0:_=some (Value.bool v):=hz0
    replace hz1:_=some (Value.int .u64 (z:Int)):=hz1
    obtain⟨x,hx⟩: ∃x,x=out[k]:=⟨_,rfl⟩
    rw[← hx] at he c0 c1
    obtain⟨xv,xz⟩:=x
    simp only at c0 c1
    have hne:(xv=v∧((xz:Int)==(z:Int))=false)∨(xv=true∧v=false)∨(xv=false∧v=true):=by
     cases xv <;> cases v <;> simp <;> intro e2 <;> exact he (by rw[show xz=z by omega])
    have HLT:=Hd hlt
    have HB:=Hd hb
    clear hrr hbb hno hk' he hx hb HRR
    rcases hne with⟨rfl,hq⟩|⟨rfl,rfl⟩|⟨rfl,rfl⟩
    all_goals(
     go_wp2
     go_quiet (fail)
     go_wp2
     go_roundw
     case rel=>exact⟨k+1,by go_num,by have:=HLT.out;have:=HL.out;omega,HN.out,HB.out.trans ((below_drewN _ _).mono HB.out.size)⟩
     case measure=>
      have:=HLT.out
      simp[intOf]
      omega)
  ·obtain rfl:k=n:=by have:=HL.out;omega
   have HT:Hid (r=false):=Hd (by
    rw[← HRR.out]
    refine decide_eq_false ?_
    rwa [List.take_of_length_le (by rw[HL.out];exact Nat.le_refl _)] at hno)
   clear hno
   go_wp2
   go_ret
   exact⟨by rw[HT.out];rfl,HAL.out.trans (hb.mono HAL.out.size)⟩
end Go.Proofs.YtfmpecnkkbpdlaaGreatDoor.Bo
