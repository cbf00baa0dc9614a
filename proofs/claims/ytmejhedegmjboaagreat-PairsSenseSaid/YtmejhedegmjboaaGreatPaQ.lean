/- The scheme of the terms and bounds that are told of a scheme's sense: it says the same, by no more variables. No condition. -/
import Derived.Test.YtmejhedegmjboaaGreatKp
import Derived.Test.YtmejhedegmjboaaGreatPaV
import Derived.Test.YtmejhedegmjboaaGreatPcM
namespace Go.Proofs.YtmejhedegmjboaaGreat
open Go.RowKit
open I (sd bb lw hg fixB valF trm trmL trmN cfg bds undB covB lowBd highBd covBd)
abbrev zS (S:Bo.Sr)(q:Nat)(b:List Bo.Bd)(lo hi:List Nat)(l:List Sp):I.Sen:=toI (senS S lo hi (rcB q b) l)
abbrev leS (S:Bo.Sr)(x y:Nat):Prop:=S.below x y=true
section
variable {S:Bo.Sr} {q:Nat} {b:List Bo.Bd} {lo hi:List Nat} {l:List Sp}
theorem zS_len:(zS S q b lo hi l).p.length=l.length:=by simp[zS,toI,senS]
theorem zS_whole (hs: ∀p∈l,p.s≤2):I.wholeS (zS S q b lo hi l)=true:=wh_toI (sen_whole hs)
theorem lt_len {i:Nat}(h:i < (cfg S (zS S q b lo hi l)).n):i < l.length:=by
 have e:(cfg S (zS S q b lo hi l)).n=l.length:=zS_len
 omega
theorem len_lt {i:Nat}(h:i < l.length):i < (cfg S (zS S q b lo hi l)).n:=by
 have e:(cfg S (zS S q b lo hi l)).n=l.length:=zS_len
 omega
theorem bb_at (hs: ∀p∈l,p.s≤2){i j:Nat}(e:bb (zS S q b lo hi l) i j=true): ∃(g:i < l.length) (g':j < l.length),l[i].s≠0∧l[j].s≠1∧alw S lo hi (rcB q b) l[i] l[j]=true:=by
 have hi':i < l.length:=by
  rcases Nat.lt_or_ge i l.length with g|g
  ·exact g
  ·rw[I.bb_out (zS_whole hs) (.inl (by rw[zS_len];exact g))] at e
   cases e
 have hj:j < l.length:=by
  rcases Nat.lt_or_ge j l.length with g|g
  ·exact g
  ·rw[I.bb_out (zS_whole hs) (.inr (by rw[zS_len];exact g))] at e
   cases e
 rw[sen_bb hi' hj] at e
 exact⟨hi',hj,bel_is.1 e⟩
theorem bb_of {i j:Nat}(g:i < l.length)(g':j < l.length)(h1:l[i].s≠0)(h2:l[j].s≠1)(h3:alw S lo hi (rcB q b) l[i] l[j]=true):bb (zS S q b lo hi l) i j=true:=by
 rw[sen_bb g g']
 exact bel_is.2 ⟨h1,h2,h3⟩
theorem low_alw (h:Got S q b lo hi){p r:Sp}(hp:may1 S q p=true)(hr:may1 S q r=true)(e:r.s≠1)(a:alw S lo hi (rcB q b) p r=true):S.below (lowS S lo p) (lowS S lo r)=true:=by
 rw[low_up e]
 unfold lowS
 split
 ·exact h.ok.botl _ (h.has_lo hr)
 ·exact h.alw h.low.has h.hold hp hr a
theorem high_alw (h:Got S q b lo hi){p r:Sp}(hp:may1 S q p=true)(hr:may1 S q r=true)(e:p.s≠0)(a:alw S lo hi (rcB q b) p r=true):S.below (highS S hi p) (highS S hi r)=true:=by
 rw[high_dn e]
 unfold highS
 split
 ·exact h.ok.topl _ (h.has_hi hp)
 ·exact h.alw h.high.has h.holdH hp hr a
theorem sen_laws (h:Got S q b lo hi)(hs: ∀p∈l,p.s≤2)(hm: ∀p∈l,may1 S q p=true):PaM.Laws (sd (zS S q b lo hi l)) (lw (zS S q b lo hi l)) (hg (zS S q b lo hi l)) (bb (zS S q b lo hi l)) (leS S) where
 out i j e:=by
  obtain⟨g,g',a,b',-⟩:=bb_at hs e
  rw[sen_sd g,sen_sd g']
  exact⟨a,b'⟩
 self i j e:=by
  obtain⟨g,g',a,b',-⟩:=bb_at hs e
  rw[sen_sd g,sen_sd g']
  exact⟨fun k=>bb_of g g (by omega) (by omega) (h.self (hm _ (List.getElem_mem g))),fun k=>bb_of g' g' (by omega) (by omega) (h.self (hm _ (List.getElem_mem g')))⟩
 trans i j k e f:=by
  obtain⟨g,g',a,b',c⟩:=bb_at hs e
  obtain⟨_,k',_,b'',c'⟩:=bb_at hs f
  exact bb_of g k' a b'' (h.on (hm _ (List.getElem_mem g)) (hm _ (List.getElem_mem g')) (hm _ (List.getElem_mem k')) c c')
 low i j e:=by
  obtain⟨g,g',a,b',c⟩:=bb_at hs e
  show S.below _ _=true
  rw[sen_lw g,sen_lw g']
  exact low_alw h (hm _ (List.getElem_mem g)) (hm _ (List.getElem_mem g')) b' c
 high i j e:=by
  obtain⟨g,g',a,b',c⟩:=bb_at hs e
  show S.below _ _=true
  rw[sen_hg g,sen_hg g']
  exact high_alw h (hm _ (List.getElem_mem g)) (hm _ (List.getElem_mem g')) a c
 letr:=h.ok.trans
 anti:=h.ok.anti
theorem sen_goes (h:Got S q b lo hi)(hm: ∀p∈l,may1 S q p=true):PaC.Goes (cfg S (zS S q b lo hi l)) (lw (zS S q b lo hi l)) (hg (zS S q b lo hi l)) (bb (zS S q b lo hi l)) (leS S) where
 bU i j hi' hj si sj so si' bi:=by
  have b1:bb (zS S q b lo hi l) i j=true:=(si'.1 i).symm.trans bi
  have b2:bb (zS S q b lo hi l) j j=true:=(so.1 j).symm.trans b1
  have si:sd (zS S q b lo hi l) i=2:=si
  have sj:sd (zS S q b lo hi l) j=2:=sj
  exact I.first_eq (by unfold I.okA;rw[bi,Bool.or_true]) (by unfold I.okA;rw[b2,Bool.or_true]) ⟨si.trans sj.symm,fun _=>⟨si'.2,fun k _=>si'.1 k⟩,fun _=>⟨so.2,fun k _=>so.1 k⟩⟩
 self i hi' si:=by
  have g:=lt_len hi'
  have si:sd (zS S q b lo hi l) i=2:=si
  rw[sen_sd g] at si
  exact bb_of g g (by omega) (by omega) (h.self (hm _ (List.getElem_mem g)))
 lohi i hi' si:=by
  have g:=lt_len hi'
  have si:sd (zS S q b lo hi l) i=2:=si
  rw[sen_sd g] at si
  show S.below _ _=true
  rw[sen_lw g,sen_hg g,low_up (by omega),high_dn (by omega)]
  exact h.lohi (hm _ (List.getElem_mem g))
theorem sen_fit (hs: ∀p∈l,p.s≤2):PaM.Fit (cfg S (zS S q b lo hi l)).n (cfg S (zS S q b lo hi l)).sd (lw (zS S q b lo hi l)) (hg (zS S q b lo hi l)) (bb (zS S q b lo hi l)) (leS S) (cfg S (zS S q b lo hi l)).vars (cfg S (zS S q b lo hi l)).inn (cfg S (zS S q b lo hi l)).out (cfg S (zS S q b lo hi l)).fx (cfg S (zS S q b lo hi l)).num:=by
 refine PaC.fit_ok (I.cfg_ok (zS_whole hs)) (I.cfg_mean (zS_whole hs)) (fun i j hi' hj si sj hle=> ?_) (fun i hi' hf=> ?_)
 ·have g:=lt_len hi'
  have g':=lt_len hj
  have si:sd (zS S q b lo hi l) i≠0:=si
  have sj:sd (zS S q b lo hi l) j≠1:=sj
  rw[sen_sd g] at si
  rw[sen_sd g'] at sj
  have hle:S.below (hg (zS S q b lo hi l) i) (lw (zS S q b lo hi l) j)=true:=hle
  rw[sen_hg g,sen_lw g',high_dn si,low_up sj] at hle
  refine bb_of g g' si sj ?_
  unfold alw
  rw[hle,Bool.or_true]
 ·have g:=lt_len hi'
  show(sd (zS S q b lo hi l) i=0∧_)∨(sd (zS S q b lo hi l) i=1∧_)∨(sd (zS S q b lo hi l) i=2∧_)
  rw[sen_sd g]
  rcases(fix_iff g (hs _ (List.getElem_mem g))).1 hf with⟨a,a2⟩|⟨a,a2⟩|⟨a,a2⟩
  ·refine .inl ⟨a,fun k hk e=> ?_⟩
   have g':=lt_len hk
   show S.below _ _=true
   rw[sen_hg g',sen_lw g]
   rw[sen_bb g' g] at e
   exact a2 k g' e
  ·refine .inr (.inl ⟨a,fun k hk e=> ?_⟩)
   have g':=lt_len hk
   show S.below _ _=true
   rw[sen_hg g,sen_lw g']
   rw[sen_bb g g'] at e
   exact a2 k g' e
  ·refine .inr (.inr ⟨a,?_⟩)
   rw[sen_hg g,sen_lw g]
   exact a2
theorem sen_vars (h:Got S q b lo hi)(hs: ∀p∈l,p.s≤2)(hm: ∀p∈l,may1 S q p=true):PaM.Vars (cfg S (zS S q b lo hi l)).vars (cfg S (zS S q b lo hi l)).inn (cfg S (zS S q b lo hi l)).out (lw (zS S q b lo hi l)) (hg (zS S q b lo hi l)) (bb (zS S q b lo hi l)) (leS S):=
 PaC.vars_ok (I.cfg_ok (zS_whole hs)) (I.cfg_mean (zS_whole hs)) (sen_goes h hm) (sen_laws h hs hm)
def vz (l:List Sp)(i:Nat):Nat:=(l.getD i nSp).z.toNat
theorem vz_at {i:Nat}(g:i < l.length):vz l i=l[i].z.toNat:=by
 unfold vz
 rw[List.getD_eq_getElem?_getD,List.getElem?_eq_getElem g]
 rfl
theorem var_at (hs: ∀p∈l,p.s≤2){i:Nat}(g:i < l.length)(hf:fixB S (zS S q b lo hi l) i=false):l[i].v=true:=by
 cases e:l[i].v with
 |true=>rfl
 |false=>
  have:=(con_fix (S:=S) (q:=q) (b:=b) (lo:=lo) (hi:=hi) hs g e).1
  rw[hf] at this
  cases this
theorem tm_cong {u:List Nat}{p p':Sp}(h1:p.v=p'.v)(h2:p.z.toNat=p'.z.toNat):tmL u p=tmL u p':=by
 unfold tmL
 rw[h1,h2]
theorem alw_cong {rc:Nat→Nat→Bool}{p p' r r':Sp}(h1:p.v=p'.v)(h2:p.z.toNat=p'.z.toNat)(h3:r.v=r'.v)(h4:r.z.toNat=r'.z.toNat):alw S lo hi rc p r=alw S lo hi rc p' r':=by
 unfold alw
 rw[tm_cong (u:=hi) h1 h2,tm_cong (u:=lo) h3 h4,h1,h2,h3,h4]
theorem sen_few (h:Got S q b lo hi)(hs: ∀p∈l,p.s≤2)(hm: ∀p∈l,may1 S q p=true):trmN S (zS S q b lo hi l)≤q:=by
 unfold trmN
 rw[if_pos (zS_whole hs)]
 refine PaM.no_more (sen_laws h hs hm) (sen_vars h hs hm) (PaC.full_ok (I.cfg_ok (zS_whole hs)) (I.cfg_mean (zS_whole hs)) (sen_goes h hm) (sen_laws h hs hm) (v:=vz l) (fun i hi' hf=> ?_) (fun i j hi' hj fi fj si sj e=> ?_) (fun i j hi' hj fi fj si sj e=> ?_) (fun i j hi' hj fi fj si sj e=> ?_))
 ·have g:=lt_len hi'
  rw[vz_at g]
  have hv:=var_at hs g hf
  have hp:=hm _ (List.getElem_mem g)
  unfold may1 Bo.mayT at hp
  rw[Int.toNat_natCast,hv] at hp
  exact of_decide_eq_true hp
 all_goals
  have g:=lt_len hi'
  have g':=lt_len hj
  rw[vz_at g,vz_at g'] at e
  have vi:=var_at hs g fi
  have vj:=var_at hs g' fj
  have ev:l[i].v=l[j].v:=vi.trans vj.symm
 ·have si:sd (zS S q b lo hi l) i≠1:=si
  have sj:sd (zS S q b lo hi l) j≠1:=sj
  rw[sen_sd g] at si
  rw[sen_sd g'] at sj
  refine⟨fun k=> ?_,?_⟩
  ·by_cases hk:k < l.length
   ·rw[sen_bb hk g,sen_bb hk g']
    unfold belS
    rw[decide_eq_false si,decide_eq_false sj,alw_cong rfl rfl ev e]
   ·rw[I.bb_out (zS_whole hs) (.inl (by rw[zS_len];omega)),I.bb_out (zS_whole hs) (.inl (by rw[zS_len];omega))]
  ·rw[sen_lw g,sen_lw g',low_up si,low_up sj,tm_cong ev e]
 ·have si:sd (zS S q b lo hi l) i≠0:=si
  have sj:sd (zS S q b lo hi l) j≠0:=sj
  rw[sen_sd g] at si
  rw[sen_sd g'] at sj
  refine⟨fun k=> ?_,?_⟩
  ·by_cases hk:k < l.length
   ·rw[sen_bb g hk,sen_bb g' hk]
    unfold belS
    rw[decide_eq_false si,decide_eq_false sj,alw_cong ev e rfl rfl]
   ·rw[I.bb_out (zS_whole hs) (.inr (by rw[zS_len];omega)),I.bb_out (zS_whole hs) (.inr (by rw[zS_len];omega))]
  ·rw[sen_hg g,sen_hg g',high_dn si,high_dn sj,tm_cong ev e]
 ·have si:sd (zS S q b lo hi l) i≠1:=si
  have sj:sd (zS S q b lo hi l) j≠0:=sj
  rw[sen_sd g] at si
  rw[sen_sd g'] at sj
  have mi:=hm _ (List.getElem_mem g)
  have mj:=hm _ (List.getElem_mem g')
  refine⟨bb_of g' g sj si ?_,?_,fun k m e1 e2=> ?_,fun m e2=> ?_,fun k e1=> ?_⟩
  ·rw[alw_cong ev.symm e.symm rfl rfl]
   exact h.self mi
  ·show S.below _ _=true
   rw[sen_lw g,sen_hg g',low_up si,high_dn sj,tm_cong ev.symm e.symm]
   exact h.lohi mi
  ·obtain⟨gk,_,a1,_,c1⟩:=bb_at hs e1
   obtain⟨_,gm,_,a2,c2⟩:=bb_at hs e2
   refine bb_of gk gm a1 a2 (h.on (hm _ (List.getElem_mem gk)) mi (hm _ (List.getElem_mem gm)) c1 ?_)
   rw[alw_cong ev e rfl rfl]
   exact c2
  ·obtain⟨_,gm,_,a2,c2⟩:=bb_at hs e2
   show S.below _ _=true
   rw[sen_lw g,sen_lw gm]
   exact low_alw h mi (hm _ (List.getElem_mem gm)) a2 (by rw[alw_cong ev e rfl rfl];exact c2)
  ·obtain⟨gk,_,a1,_,c1⟩:=bb_at hs e1
   show S.below _ _=true
   rw[sen_hg gk,sen_hg g']
   exact high_alw h (hm _ (List.getElem_mem gk)) mj a1 (by rw[alw_cong rfl rfl ev.symm e.symm];exact c1)
end
section
variable {S:Bo.Sr} {z:I.Sen}
theorem mem_low {v:Nat}{x:Bo.Bd}:x∈lowBd S z v↔ ∃u,(cfg S z).inn v=some u∧lw z u≠S.bot∧x=⟨false,lw z u,true,v⟩:=by
 unfold lowBd
 cases e:(cfg S z).inn v with
 |none=>simp
 |some u=>
  show x∈(if lw z u=S.bot then [] else [_])↔_
  by_cases h:lw z u=S.bot
  ·rw[if_pos h]
   simp[h]
  ·rw[if_neg h]
   simp[h]
theorem mem_high {v:Nat}{x:Bo.Bd}:x∈highBd S z v↔ ∃d,(cfg S z).out v=some d∧hg z d≠S.top∧x=⟨true,v,false,hg z d⟩:=by
 unfold highBd
 cases e:(cfg S z).out v with
 |none=>simp
 |some u=>
  show x∈(if hg z u=S.top then [] else [_])↔_
  by_cases h:hg z u=S.top
  ·rw[if_pos h]
   simp[h]
  ·rw[if_neg h]
   simp[h]
theorem mem_bds {x:Bo.Bd}:x∈bds S z↔ ∃v,v < trmN S z∧((∃u,(cfg S z).inn v=some u∧lw z u≠S.bot∧x=⟨false,lw z u,true,v⟩)∨(∃d,(cfg S z).out v=some d∧hg z d≠S.top∧x=⟨true,v,false,hg z d⟩)∨ ∃w,w < trmN S z∧covB S z (trmN S z) v w=true∧x=⟨true,v,true,w⟩):=by
 unfold bds I.bdsF
 rw[List.mem_flatMap]
 refine exists_congr fun v=>and_congr List.mem_range ?_
 unfold I.bdsV
 rw[List.mem_append,List.mem_append,mem_low,mem_high]
 refine or_congr Iff.rfl (or_congr Iff.rfl ?_)
 unfold covBd
 rw[List.mem_map]
 constructor
 ·rintro⟨w,hw,rfl⟩
  obtain⟨h1,h2⟩:=List.mem_filter.1 hw
  exact⟨w,List.mem_range.1 h1,h2,rfl⟩
 ·rintro⟨w,h1,h2,rfl⟩
  exact⟨w,List.mem_filter.2 ⟨List.mem_range.2 h1,h2⟩,rfl⟩
theorem und_iff {m v w:Nat}(hv:v < m)(hw:w < m):undB S z v w=true↔PaM.Und m (cfg S z).inn (cfg S z).out (hg z) (lw z) (bb z) (leS S) v w:=by
 unfold undB PaM.Und
 cases e1:(cfg S z).out v with
 |none=>simp
 |some d=>
  cases e2:(cfg S z).inn w with
  |none=>simp
  |some u=>
   simp only[Bool.and_eq_true,Bool.not_eq_true',decide_eq_false_iff_not]
   constructor
   ·rintro⟨h1,h2,h3⟩
    exact⟨hv,hw,h1,d,u,rfl,rfl,h2,fun e=>by rw[show S.below (hg z d) (lw z u)=true from e] at h3;cases h3⟩
   ·rintro⟨-,-,h1,d',u',h2,h3,h4,h5⟩
    obtain rfl:=Option.some.inj h2
    obtain rfl:=Option.some.inj h3
    exact⟨h1,h4,Bool.not_eq_true _▸h5⟩
theorem cov_iff {m v w:Nat}(hv:v < m)(hw:w < m):covB S z m v w=true↔PaM.Cov m (cfg S z).inn (cfg S z).out (hg z) (lw z) (bb z) (leS S) v w:=by
 unfold covB PaM.Cov
 rw[Bool.and_eq_true,und_iff hv hw]
 refine and_congr Iff.rfl ?_
 rw[Bool.not_eq_true', ← Bool.not_eq_true,List.any_eq_true]
 refine not_congr ⟨?_,?_⟩
 ·rintro⟨t,ht,h⟩
  have ht:=List.mem_range.1 ht
  rw[Bool.and_eq_true,und_iff hv ht,und_iff ht hw] at h
  exact⟨t,h⟩
 ·rintro⟨t,h1,h2⟩
  refine⟨t,List.mem_range.2 h1.2.1,?_⟩
  rw[Bool.and_eq_true,und_iff hv h1.2.1,und_iff h1.2.1 hw]
  exact⟨h1,h2⟩
end
theorem low_of {S:Bo.Sr}(hS:S.Ok){m:Nat}{bs:List Bo.Bd}{f:Nat→Nat}(has: ∀x,x < m→S.has (f x)=true)
  (c1: ∀b∈bs,b.bv=true→b.bn < m∧((b.av=false∧b.an=f b.bn)∨(b.av=true∧b.an < m∧S.below (f b.an) (f b.bn)=true)))
  (c2: ∀x,x < m→f x=S.bot∨(⟨false,f x,true,x⟩:Bo.Bd)∈bs):Bo.IsLow S m bs ((List.range m).map f):=by
 have hat: ∀x,x < m→((List.range m).map f).getD x 0=f x:=fun x hx=>by
  rw[List.getD_eq_getElem?_getD,List.getElem?_map,List.getElem?_range hx]
  rfl
 refine⟨⟨⟨by simp,fun i hi=>by rw[hat i hi];exact has i hi⟩,fun u hu hl i hi=> ?_⟩,fun b hb hv=> ?_⟩
 ·rw[hat i hi]
  rcases c2 i hi with e|e
  ·rw[e]
   exact hS.botl _ (hu.2 i hi)
  ·exact hl _ e rfl
 ·obtain⟨h1,h2⟩:=c1 b hb hv
  rw[hat _ h1]
  unfold Bo.vl
  rcases h2 with⟨e,e2⟩|⟨e,e2,e3⟩
  ·rw[e,cond_false,e2]
   exact hS.refl _ (has _ h1)
  ·rw[e,cond_true,hat _ e2]
   exact e3
section
variable {S:Bo.Sr} {q:Nat} {b:List Bo.Bd} {lo hi:List Nat} {l:List Sp}
noncomputable def nL (S:Bo.Sr) (z:I.Sen):List Nat:=(List.range (trmN S z)).map (PaM.nlow (cfg S z).inn (lw z) S.bot)
noncomputable def nH (S:Bo.Sr) (z:I.Sen):List Nat:=(List.range (trmN S z)).map (PaM.nlow (cfg S z).out (hg z) S.top)
theorem nlow_some {o:Nat→Option Nat}{f:Nat→Nat}{k x u:Nat}(h:o x=some u):PaM.nlow o f k x=f u:=by
 unfold PaM.nlow
 rw[h]
theorem nlow_none {o:Nat→Option Nat}{f:Nat→Nat}{k x:Nat}(h:o x=none):PaM.nlow o f k x=k:=by
 unfold PaM.nlow
 rw[h]
theorem trmN_vars (hs: ∀p∈l,p.s≤2):trmN S (zS S q b lo hi l)=(cfg S (zS S q b lo hi l)).vars:=by
 unfold trmN
 rw[if_pos (zS_whole hs)]
theorem low_has (h:Got S q b lo hi)(hs: ∀p∈l,p.s≤2)(hm: ∀p∈l,may1 S q p=true){x:Nat}(hx:x < trmN S (zS S q b lo hi l)):S.has (PaM.nlow (cfg S (zS S q b lo hi l)).inn (lw (zS S q b lo hi l)) S.bot x)=true:=by
 cases e:(cfg S (zS S q b lo hi l)).inn x with
 |some u=>
  rw[nlow_some e]
  have g:=lt_len (PaC.inn_is e).1
  rw[sen_lw g]
  exact h.lowH (hm _ (List.getElem_mem g))
 |none=>
  rw[nlow_none e]
  rw[trmN_vars hs] at hx
  obtain⟨i,h1,-⟩:=PaC.num_all hx
  exact(h.ends (hm _ (List.getElem_mem (lt_len h1)))).1
theorem high_has (h:Got S q b lo hi)(hs: ∀p∈l,p.s≤2)(hm: ∀p∈l,may1 S q p=true){x:Nat}(hx:x < trmN S (zS S q b lo hi l)):S.has (PaM.nlow (cfg S (zS S q b lo hi l)).out (hg (zS S q b lo hi l)) S.top x)=true:=by
 cases e:(cfg S (zS S q b lo hi l)).out x with
 |some u=>
  rw[nlow_some e]
  have g:=lt_len (PaC.out_is e).1
  rw[sen_hg g]
  exact h.highH (hm _ (List.getElem_mem g))
 |none=>
  rw[nlow_none e]
  rw[trmN_vars hs] at hx
  obtain⟨i,h1,-⟩:=PaC.num_all hx
  exact(h.ends (hm _ (List.getElem_mem (lt_len h1)))).2
theorem cov_mono (h:Got S q b lo hi)(hs: ∀p∈l,p.s≤2)(hm: ∀p∈l,may1 S q p=true){x y:Nat}(hx:x < trmN S (zS S q b lo hi l))(hy:y < trmN S (zS S q b lo hi l))(hc:covB S (zS S q b lo hi l) (trmN S (zS S q b lo hi l)) x y=true):
  S.below (PaM.nlow (cfg S (zS S q b lo hi l)).inn (lw (zS S q b lo hi l)) S.bot x) (PaM.nlow (cfg S (zS S q b lo hi l)).inn (lw (zS S q b lo hi l)) S.bot y)=true∧S.below (PaM.nlow (cfg S (zS S q b lo hi l)).out (hg (zS S q b lo hi l)) S.top x) (PaM.nlow (cfg S (zS S q b lo hi l)).out (hg (zS S q b lo hi l)) S.top y)=true:=by
 have hu:=((cov_iff hx hy).1 hc).1
 rw[trmN_vars hs] at hu
 have hmo:=PaM.und_mono (sen_vars h hs hm) hu
 obtain⟨-,-,-,d,u,h4,h5,-,-⟩:=hu
 constructor
 ·rw[nlow_some h5]
  cases e:(cfg S (zS S q b lo hi l)).inn x with
  |some v=>
   rw[nlow_some e]
   exact hmo.1 v u e h5
  |none=>
   rw[nlow_none e]
   have:=low_has h hs hm hy
   rw[nlow_some h5] at this
   exact h.ok.botl _ this
 ·rw[nlow_some h4]
  cases e:(cfg S (zS S q b lo hi l)).out y with
  |some v=>
   rw[nlow_some e]
   exact hmo.2 d v h4 e
  |none=>
   rw[nlow_none e]
   have:=high_has h hs hm hx
   rw[nlow_some h4] at this
   exact h.ok.topl _ this
theorem bds_may (h:Got S q b lo hi)(hs: ∀p∈l,p.s≤2)(hm: ∀p∈l,may1 S q p=true): ∀x∈bds S (zS S q b lo hi l),Bo.mayB S (trmN S (zS S q b lo hi l)) x=true:=by
 intro x hx
 obtain⟨v,hv,⟨u,h1,-,rfl⟩|⟨d,h1,-,rfl⟩|⟨w,h1,-,rfl⟩⟩:=mem_bds.1 hx
 ·have:=low_has h hs hm hv
  rw[nlow_some h1] at this
  unfold Bo.mayB Bo.mayT
  simp[this,hv]
 ·have:=high_has h hs hm hv
  rw[nlow_some h1] at this
  unfold Bo.mayB Bo.mayT
  simp[this,hv]
 ·unfold Bo.mayB Bo.mayT
  simp[h1,hv]
theorem new_low (h:Got S q b lo hi)(hs: ∀p∈l,p.s≤2)(hm: ∀p∈l,may1 S q p=true):Bo.IsLow S (trmN S (zS S q b lo hi l)) (bds S (zS S q b lo hi l)) (nL S (zS S q b lo hi l)):=by
 refine low_of h.ok (fun x hx=>low_has h hs hm hx) (fun y hy hv=> ?_) (fun x hx=> ?_)
 ·obtain⟨v,hv',⟨u,h1,-,rfl⟩|⟨d,h1,-,rfl⟩|⟨w,h1,hc,rfl⟩⟩:=mem_bds.1 hy
  ·exact⟨hv',.inl ⟨rfl,show lw (zS S q b lo hi l) u=PaM.nlow _ _ _ v from(nlow_some h1).symm⟩⟩
  ·cases hv
  ·exact⟨h1,.inr ⟨rfl,hv',(cov_mono h hs hm hv' h1 hc).1⟩⟩
 ·cases e:(cfg S (zS S q b lo hi l)).inn x with
  |none=>exact .inl (nlow_none e)
  |some u=>
   rw[nlow_some e]
   by_cases hb:lw (zS S q b lo hi l) u=S.bot
   ·exact .inl hb
   ·exact .inr (mem_bds.2 ⟨x,hx,.inl ⟨u,e,hb,rfl⟩⟩)
theorem new_high (h:Got S q b lo hi)(hs: ∀p∈l,p.s≤2)(hm: ∀p∈l,may1 S q p=true):Bo.IsLow S.turn (trmN S (zS S q b lo hi l)) ((bds S (zS S q b lo hi l)).map Bo.Bd.turn) (nH S (zS S q b lo hi l)):=by
 refine low_of h.ok.turn (fun x hx=>high_has h hs hm hx) (fun y hy hv=> ?_) (fun x hx=> ?_)
 ·obtain⟨y',hy',rfl⟩:=List.mem_map.1 hy
  obtain⟨v,hv',⟨u,h1,-,rfl⟩|⟨d,h1,-,rfl⟩|⟨w,h1,hc,rfl⟩⟩:=mem_bds.1 hy'
  ·cases hv
  ·exact⟨hv',.inl ⟨rfl,show hg (zS S q b lo hi l) d=PaM.nlow _ _ _ v from(nlow_some h1).symm⟩⟩
  ·exact⟨hv',.inr ⟨rfl,h1,(cov_mono h hs hm hv' h1 hc).2⟩⟩
 ·cases e:(cfg S (zS S q b lo hi l)).out x with
  |none=>exact .inl (nlow_none e)
  |some u=>
   rw[nlow_some e]
   by_cases hb:hg (zS S q b lo hi l) u=S.top
   ·exact .inl hb
   ·exact .inr (List.mem_map.2 ⟨_,mem_bds.2 ⟨x,hx,.inr (.inl ⟨u,e,hb,rfl⟩)⟩,rfl⟩)
theorem new_at {m x:Nat}{f:Nat→Nat}(hx:x < m):((List.range m).map f).getD x 0=f x:=by
 rw[List.getD_eq_getElem?_getD,List.getElem?_map,List.getElem?_range hx]
 rfl
theorem new_hold (h:Got S q b lo hi)(hs: ∀p∈l,p.s≤2)(hm: ∀p∈l,may1 S q p=true):Bo.holdS S (nL S (zS S q b lo hi l)) (bds S (zS S q b lo hi l))=true:=by
 unfold Bo.holdS
 rw[List.all_eq_true]
 intro x hx
 have hlen:(nL S (zS S q b lo hi l)).length=trmN S (zS S q b lo hi l):=by simp[nL]
 unfold Bo.okB Bo.okT Bo.vl
 obtain⟨v,hv,⟨u,h1,-,rfl⟩|⟨d,h1,-,rfl⟩|⟨w,h1,hc,rfl⟩⟩:=mem_bds.1 hx
 ·simp only[hlen,hv,Bool.not_false,Bool.true_or,Bool.not_true,Bool.false_or,decide_true,Bool.true_and,cond_false,cond_true]
  unfold nL
  rw[new_at hv,nlow_some h1]
  have:=low_has h hs hm hv
  rw[nlow_some h1] at this
  exact h.ok.refl _ this
 ·simp only[hlen,hv,Bool.not_false,Bool.true_or,Bool.not_true,Bool.false_or,decide_true,Bool.true_and,Bool.and_true,cond_false,cond_true]
  unfold nL
  rw[new_at hv]
  have:=high_has h hs hm hv
  rw[nlow_some h1] at this
  cases e:(cfg S (zS S q b lo hi l)).inn v with
  |none=>
   rw[nlow_none e]
   exact h.ok.botl _ this
  |some u=>
   rw[nlow_some e]
   rw[trmN_vars hs] at hv
   exact((sen_vars h hs hm).one v u d hv e h1).lohi
 ·simp only[hlen,hv,h1,Bool.not_true,Bool.false_or,decide_true,Bool.true_and,cond_true]
  unfold nL
  rw[new_at hv,new_at h1]
  exact(cov_mono h hs hm hv h1 hc).1
theorem new_got (h:Got S q b lo hi)(hs: ∀p∈l,p.s≤2)(hm: ∀p∈l,may1 S q p=true):Got S (trmN S (zS S q b lo hi l)) (bds S (zS S q b lo hi l)) (nL S (zS S q b lo hi l)) (nH S (zS S q b lo hi l)):=
 ⟨h.ok,Nat.le_trans (sen_few h hs hm) h.q64,bds_may h hs hm,new_low h hs hm,new_high h hs hm,new_hold h hs hm⟩
theorem new_reach (h:Got S q b lo hi)(hs: ∀p∈l,p.s≤2)(hm: ∀p∈l,may1 S q p=true){x y:Nat}(hx:x < trmN S (zS S q b lo hi l)):rcB (trmN S (zS S q b lo hi l)) (bds S (zS S q b lo hi l)) x y=true↔PaM.Reach (PaM.Cov (trmN S (zS S q b lo hi l)) (cfg S (zS S q b lo hi l)).inn (cfg S (zS S q b lo hi l)).out (hg (zS S q b lo hi l)) (lw (zS S q b lo hi l)) (bb (zS S q b lo hi l)) (leS S)) x y:=by
 have hg':=new_got h hs hm
 constructor
 ·intro hr
  refine Re.rch_least hg'.q64 hg'.mayR (T:=PaM.Reach (PaM.Cov (trmN S (zS S q b lo hi l)) (cfg S (zS S q b lo hi l)).inn (cfg S (zS S q b lo hi l)).out (hg (zS S q b lo hi l)) (lw (zS S q b lo hi l)) (bb (zS S q b lo hi l)) (leS S))) (fun i _=> .self i) (fun i j e=> ?_) (fun _ _ _=>PaM.Reach.trans) hr
  obtain⟨e,he,h1,h2,rfl,rfl⟩:=e
  obtain⟨v,hv,⟨u,-,-,rfl⟩|⟨d,-,-,rfl⟩|⟨w,hw,hc,rfl⟩⟩:=mem_bds.1 he
  ·cases h1
  ·cases h2
  ·exact .step ((cov_iff hv hw).1 hc) (.self _)
 ·intro hr
  induction hr with
  |self x=>exact Re.rch_self hg'.q64 hg'.mayR hx
  | @step x y z' hc _ ih=>
   have hy:=hc.1.2.1
   exact Re.rch_on hg'.q64 hg'.mayR (Re.rch_edge hg'.q64 hg'.mayR ⟨_,mem_bds.2 ⟨x,hx,.inr (.inr ⟨y,hy,(cov_iff hx hy).2 hc,rfl⟩)⟩,rfl,rfl,rfl,rfl⟩) (ih hy)
theorem num_at (hs: ∀p∈l,p.s≤2){i:Nat}(g:i < l.length)(hf:fixB S (zS S q b lo hi l) i=false):(cfg S (zS S q b lo hi l)).num i < trmN S (zS S q b lo hi l):=by
 rw[trmN_vars hs]
 exact(sen_fit hs).numM i (len_lt g) hf
theorem pr_tmL (hs: ∀p∈l,p.s≤2){i:Nat}(g:i < l.length)(e1:l[i].s≠1):tmL (nL S (zS S q b lo hi l)) (l[i].re (trm S (zS S q b lo hi l) i))=lowS S lo l[i]:=by
 have hl:=PaM.least_low (sen_fit (S:=S) (q:=q) (b:=b) (lo:=lo) (hi:=hi) hs) (bot:=S.bot) (len_lt g) (by show sd _ i≠1;rw[sen_sd g];exact e1)
 rw[sen_lw g] at hl
 rw[← hl]
 unfold PaM.least trm
 cases hf:fixB S (zS S q b lo hi l) i with
 |true=>
  rw[if_pos rfl,if_pos (show(cfg S (zS S q b lo hi l)).fx i=true from hf)]
  show Bo.vl _ false (Int.toNat (valF _ i:Int))=_
  rw[Int.toNat_natCast]
  rfl
 |false=>
  rw[if_neg (by simp),if_neg (by rw[show(cfg S (zS S q b lo hi l)).fx i=false from hf];simp)]
  show Bo.vl _ true (Int.toNat ((cfg S (zS S q b lo hi l)).num i:Int))=_
  rw[Int.toNat_natCast]
  exact new_at (num_at hs g hf)
theorem pr_tmH (hs: ∀p∈l,p.s≤2){i:Nat}(g:i < l.length)(e1:l[i].s≠0):tmL (nH S (zS S q b lo hi l)) (l[i].re (trm S (zS S q b lo hi l) i))=highS S hi l[i]:=by
 have hl:=PaM.greatest_high (sen_fit (S:=S) (q:=q) (b:=b) (lo:=lo) (hi:=hi) hs) (top:=S.top) (len_lt g) (by show sd _ i≠0;rw[sen_sd g];exact e1)
 rw[sen_hg g] at hl
 rw[← hl]
 unfold PaM.greatest trm
 cases hf:fixB S (zS S q b lo hi l) i with
 |true=>
  rw[if_pos rfl,if_pos (show(cfg S (zS S q b lo hi l)).fx i=true from hf)]
  show Bo.vl _ false (Int.toNat (valF _ i:Int))=_
  rw[Int.toNat_natCast]
  rfl
 |false=>
  rw[if_neg (by simp),if_neg (by rw[show(cfg S (zS S q b lo hi l)).fx i=false from hf];simp)]
  show Bo.vl _ true (Int.toNat ((cfg S (zS S q b lo hi l)).num i:Int))=_
  rw[Int.toNat_natCast]
  exact new_at (num_at hs g hf)
theorem pr_low (hs: ∀p∈l,p.s≤2){i:Nat}(g:i < l.length):lowS S (nL S (zS S q b lo hi l)) (l[i].re (trm S (zS S q b lo hi l) i))=lowS S lo l[i]:=by
 by_cases e1:l[i].s=1
 ·unfold lowS
  rw[if_pos e1,if_pos (show(l[i].re _).s=1 from e1)]
 ·rw[low_up (p:=Sp.re _ _) e1]
  exact pr_tmL hs g e1
theorem pr_high (hs: ∀p∈l,p.s≤2){i:Nat}(g:i < l.length):highS S (nH S (zS S q b lo hi l)) (l[i].re (trm S (zS S q b lo hi l) i))=highS S hi l[i]:=by
 by_cases e1:l[i].s=0
 ·unfold highS
  rw[if_pos e1,if_pos (show(l[i].re _).s=0 from e1)]
 ·rw[high_dn (p:=Sp.re _ _) e1]
  exact pr_tmH hs g e1
theorem pr_bel (h:Got S q b lo hi)(hs: ∀p∈l,p.s≤2)(hm: ∀p∈l,may1 S q p=true){i j:Nat}(g:i < l.length)(g':j < l.length):
  belS S (nL S (zS S q b lo hi l)) (nH S (zS S q b lo hi l)) (rcB (trmN S (zS S q b lo hi l)) (bds S (zS S q b lo hi l))) (l[i].re (trm S (zS S q b lo hi l) i)) (l[j].re (trm S (zS S q b lo hi l) j))=belS S lo hi (rcB q b) l[i] l[j]:=by
 by_cases e0:l[i].s=0
 ·unfold belS
  rw[decide_eq_true e0,decide_eq_true (show(l[i].re _).s=0 from e0)]
  rfl
 by_cases e1:l[j].s=1
 ·unfold belS
  rw[decide_eq_true e1,decide_eq_true (show(l[j].re _).s=1 from e1)]
  simp
 have hsp:=PaM.spot_iff (sen_laws h hs hm) (sen_vars h hs hm) (sen_fit hs) (len_lt (S:=S) (q:=q) (b:=b) (lo:=lo) (hi:=hi) g) (len_lt g') (by show sd _ i≠0;rw[sen_sd g];exact e0) (by show sd _ j≠1;rw[sen_sd g'];exact e1)
 rw[sen_bb g g', ← trmN_vars hs] at hsp
 rw[Bool.eq_iff_iff,hsp,bel_is]
 rw[show leS S (hg (zS S q b lo hi l) i) (lw (zS S q b lo hi l) j)=(S.below (highS S hi l[i]) (lowS S lo l[j])=true) by rw[sen_hg g,sen_lw g']]
 unfold alw
 rw[pr_tmH hs g e0,pr_tmL hs g' e1,Bool.or_eq_true]
 have key:((l[i].re (trm S (zS S q b lo hi l) i)).v && ((l[j].re (trm S (zS S q b lo hi l) j)).v && rcB (trmN S (zS S q b lo hi l)) (bds S (zS S q b lo hi l)) (l[i].re (trm S (zS S q b lo hi l) i)).z.toNat (l[j].re (trm S (zS S q b lo hi l) j)).z.toNat))=true↔((cfg S (zS S q b lo hi l)).fx i=false∧(cfg S (zS S q b lo hi l)).fx j=false∧PaM.Reach (PaM.Cov (trmN S (zS S q b lo hi l)) (cfg S (zS S q b lo hi l)).inn (cfg S (zS S q b lo hi l)).out (hg (zS S q b lo hi l)) (lw (zS S q b lo hi l)) (bb (zS S q b lo hi l)) (leS S)) ((cfg S (zS S q b lo hi l)).num i) ((cfg S (zS S q b lo hi l)).num j)):=by
  unfold trm
  show _↔(fixB S (zS S q b lo hi l) i=false∧fixB S (zS S q b lo hi l) j=false∧_)
  cases fi:fixB S (zS S q b lo hi l) i with
  |true=>simp[Sp.re]
  |false=>
   cases fj:fixB S (zS S q b lo hi l) j with
   |true=>simp[Sp.re]
   |false=>
    rw[if_neg (by simp),if_neg (by simp)]
    show(true && (true && rcB _ _ (Int.toNat ((cfg S (zS S q b lo hi l)).num i:Int)) (Int.toNat ((cfg S (zS S q b lo hi l)).num j:Int))))=true↔_
    rw[Int.toNat_natCast,Int.toNat_natCast,Bool.true_and,Bool.true_and,new_reach h hs hm (num_at hs g fi)]
    simp
 rw[key]
 exact⟨fun ⟨_,_,a⟩=>a,fun a=>⟨e0,e1,a⟩⟩
theorem trmL_len (hs: ∀p∈l,p.s≤2):(trmL S (zS S q b lo hi l)).length=l.length:=by
 unfold trmL
 rw[if_pos (zS_whole hs),List.length_map,List.length_range,zS_len]
theorem trmL_get (hs: ∀p∈l,p.s≤2){i:Nat}(g:i < (trmL S (zS S q b lo hi l)).length):(trmL S (zS S q b lo hi l))[i]=trm S (zS S q b lo hi l) i:=by
 have e:trmL S (zS S q b lo hi l)=(List.range (zS S q b lo hi l).p.length).map (trm S (zS S q b lo hi l)):=if_pos (zS_whole hs)
 have:=List.getElem_of_eq e g
 rw[this]
 simp
theorem pr_same (h:Got S q b lo hi)(hs: ∀p∈l,p.s≤2)(hm: ∀p∈l,may1 S q p=true):(senS S (nL S (zS S q b lo hi l)) (nH S (zS S q b lo hi l)) (rcB (trmN S (zS S q b lo hi l)) (bds S (zS S q b lo hi l))) (List.zipWith Sp.re l (trmL S (zS S q b lo hi l)))).lo=(senS S lo hi (rcB q b) l).lo∧
  (senS S (nL S (zS S q b lo hi l)) (nH S (zS S q b lo hi l)) (rcB (trmN S (zS S q b lo hi l)) (bds S (zS S q b lo hi l))) (List.zipWith Sp.re l (trmL S (zS S q b lo hi l)))).hi=(senS S lo hi (rcB q b) l).hi∧
  (senS S (nL S (zS S q b lo hi l)) (nH S (zS S q b lo hi l)) (rcB (trmN S (zS S q b lo hi l)) (bds S (zS S q b lo hi l))) (List.zipWith Sp.re l (trmL S (zS S q b lo hi l)))).be=(senS S lo hi (rcB q b) l).be:=by
 have hlen:(List.zipWith Sp.re l (trmL S (zS S q b lo hi l))).length=l.length:=by rw[List.length_zipWith,trmL_len hs,Nat.min_self]
 have hat: ∀i (g:i < l.length) (g':i < (List.zipWith Sp.re l (trmL S (zS S q b lo hi l))).length),(List.zipWith Sp.re l (trmL S (zS S q b lo hi l)))[i]=l[i].re (trm S (zS S q b lo hi l) i):=fun i g g'=>by
  rw[List.getElem_zipWith,trmL_get hs]
 have f1:= @pr_low S q b lo hi l hs
 have f2:= @pr_high S q b lo hi l hs
 have f3:= @pr_bel S q b lo hi l h hs hm
 generalize List.zipWith Sp.re l (trmL S (zS S q b lo hi l))=L at*
 generalize trm S (zS S q b lo hi l)=T at*
 generalize nL S (zS S q b lo hi l)=lo' at*
 generalize nH S (zS S q b lo hi l)=hi' at*
 generalize rcB (trmN S (zS S q b lo hi l)) (bds S (zS S q b lo hi l))=rc' at*
 unfold senS
 refine⟨?_,?_,?_⟩
 ·apply List.ext_getElem (by simp[hlen])
  intro i g g'
  have hi':i < l.length:=by simpa using g'
  simp only[List.getElem_map]
  rw[hat i hi' (by omega)]
  exact f1 hi'
 ·apply List.ext_getElem (by simp[hlen])
  intro i g g'
  have hi':i < l.length:=by simpa using g'
  simp only[List.getElem_map]
  rw[hat i hi' (by omega)]
  exact f2 hi'
 ·apply List.ext_getElem (by simp[hlen])
  intro i g g'
  have hi':i < l.length:=by simpa using g'
  simp only[List.getElem_map]
  rw[hat i hi' (by omega)]
  apply List.ext_getElem (by simp[hlen])
  intro j k k'
  have hj:j < l.length:=by simpa using k'
  simp only[List.getElem_map]
  rw[hat j hj (by omega)]
  exact f3 hi' hj
theorem pr_may (h:Got S q b lo hi)(hs: ∀p∈l,p.s≤2)(hm: ∀p∈l,may1 S q p=true): ∀p∈List.zipWith Sp.re l (trmL S (zS S q b lo hi l)),may1 S (trmN S (zS S q b lo hi l):Nat) p=true:=by
 intro p hp
 obtain⟨i,hi',rfl⟩:=List.mem_iff_getElem.1 hp
 have hlen:(List.zipWith Sp.re l (trmL S (zS S q b lo hi l))).length=l.length:=by rw[List.length_zipWith,trmL_len hs,Nat.min_self]
 have g:i < l.length:=by omega
 rw[List.getElem_zipWith,trmL_get hs]
 unfold may1 Bo.mayT trm
 cases hf:fixB S (zS S q b lo hi l) i with
 |true=>
  rw[if_pos rfl]
  show S.has (Int.toNat (valF _ i:Int))=true
  rw[Int.toNat_natCast]
  exact fix_has h hm g
 |false=>
  rw[if_neg (by simp)]
  show decide (Int.toNat ((cfg S (zS S q b lo hi l)).num i:Int) < Int.toNat (trmN S (zS S q b lo hi l):Nat))=true
  rw[Int.toNat_natCast,Int.toNat_natCast]
  exact decide_eq_true (num_at hs g hf)
end
noncomputable def prS (S X:Bo.Sr) (s:Sch) (p q:I.Sen):Sch:=⟨trmN S p,trmN X q,putB s.b (trmL S p) (trmL X q),bds S p,bds X q⟩
theorem pr_of {S X:Bo.Sr}{s:Sch}{ql qe:Nat}{lo hi lo' hi':List Nat}(hok:OfOk S X s ql qe lo hi lo' hi'){w:World}{x:Int}{p q:Q4}
  (b1:(bds S (zS S ql s.l lo hi (labB s.b))).length≤256) (b2:(bds X (zS X qe s.e lo' hi' (effB s.b))).length≤256)
  (hof:OfIs S X (prS S X s (zS S ql s.l lo hi (labB s.b)) (zS X qe s.e lo' hi' (effB s.b))) w x p q):
  x=0∧ ∃z z':Sen,SenIn w z p∧SenIn w z' q∧(z.lo=(senS S lo hi (rcB ql s.l) (labB s.b)).lo∧z.hi=(senS S lo hi (rcB ql s.l) (labB s.b)).hi∧z.be=(senS S lo hi (rcB ql s.l) (labB s.b)).be)∧
   (z'.lo=(senS X lo' hi' (rcB qe s.e) (effB s.b)).lo∧z'.hi=(senS X lo' hi' (rcB qe s.e) (effB s.b)).hi∧z'.be=(senS X lo' hi' (rcB qe s.e) (effB s.b)).be):=by
 obtain⟨c1,c2,c3,c4,c5⟩:=Sch.check_is.1 hok.chk
 rw[hok.lv] at c4
 rw[hok.ev] at c5
 have e1:=putB_lab c1 (ts:=trmL S (zS S ql s.l lo hi (labB s.b))) (us:=trmL X (zS X qe s.e lo' hi' (effB s.b))) (trmL_len (labB_le s.b))
 have e2:=putB_eff c1 (ts:=trmL S (zS S ql s.l lo hi (labB s.b))) (us:=trmL X (zS X qe s.e lo' hi' (effB s.b))) (trmL_len (effB_le s.b))
 have n1:=new_got hok.gl (labB_le s.b) c4
 have n2:=new_got hok.ge (effB_le s.b) c5
 have s1:=pr_same hok.gl (labB_le s.b) c4
 have s2:=pr_same hok.ge (effB_le s.b) c5
 have hchk:(prS S X s (zS S ql s.l lo hi (labB s.b)) (zS X qe s.e lo' hi' (effB s.b))).check S X=0:=Sch.check_is.2 ⟨(putB_check _ _).trans c1,Bo.chk_is n1.q64 b1 n1.may,Bo.chk_is n2.q64 b2 n2.may,
  fun p hp=>pr_may hok.gl (labB_le s.b) c4 p (e1▸hp),fun p hp=>pr_may hok.ge (effB_le s.b) c5 p (e2▸hp)⟩
 rcases hof with⟨hx,-,-,h|⟨-,-,h⟩⟩|⟨hx,q2,r2,l2,h2,l3,h3,ho,hp,hq⟩
 ·exact absurd (h.symm.trans hchk) hx
 ·exfalso
  rcases h with⟨k,e,hn⟩|⟨k,e,hn⟩
  ·replace e:((trmN S (zS S ql s.l lo hi (labB s.b)):Nat):Int)=(k:Int):=e
   obtain rfl:trmN S (zS S ql s.l lo hi (labB s.b))=k:=by omega
   have:=hn _ n1.low.has
   replace this:Bo.holdS S _ (bds S (zS S ql s.l lo hi (labB s.b)))=false:=this
   rw[n1.hold] at this
   cases this
  ·replace e:((trmN X (zS X qe s.e lo' hi' (effB s.b)):Nat):Int)=(k:Int):=e
   obtain rfl:trmN X (zS X qe s.e lo' hi' (effB s.b))=k:=by omega
   have:=hn _ n2.low.has
   replace this:Bo.holdS X _ (bds X (zS X qe s.e lo' hi' (effB s.b)))=false:=this
   rw[n2.hold] at this
   cases this
 ·have f1:((trmN S (zS S ql s.l lo hi (labB s.b)):Nat):Int)=(q2:Int):=ho.lv
  have f2:((trmN X (zS X qe s.e lo' hi' (effB s.b)):Nat):Int)=(r2:Int):=ho.ev
  obtain rfl:trmN S (zS S ql s.l lo hi (labB s.b))=q2:=by omega
  obtain rfl:trmN X (zS X qe s.e lo' hi' (effB s.b))=r2:=by omega
  have g1:=Bo.low_uniq n1.ok n1.low ho.gl.low
  have g2:=Bo.low_uniq n1.ok.turn n1.high ho.gl.high
  have g3:=Bo.low_uniq n2.ok n2.low ho.ge.low
  have g4:=Bo.low_uniq n2.ok.turn n2.high ho.ge.high
  subst g1 g2 g3 g4
  refine⟨hx,_,_,hp,hq,?_,?_⟩
  ·show(senS S _ _ _ (labB (putB s.b _ _))).lo=_∧(senS S _ _ _ (labB (putB s.b _ _))).hi=_∧(senS S _ _ _ (labB (putB s.b _ _))).be=_
   rw[e1]
   exact s1
  ·show(senS X _ _ _ (effB (putB s.b _ _))).lo=_∧(senS X _ _ _ (effB (putB s.b _ _))).hi=_∧(senS X _ _ _ (effB (putB s.b _ _))).be=_
   rw[e2]
   exact s2
theorem u64_tr {S:Bo.Sr}{q:Nat}{b:List Bo.Bd}{lo hi:List Nat}{l:List Sp}(h:Got S q b lo hi)(hs: ∀p∈l,p.s≤2)(hm: ∀p∈l,may1 S q p=true): ∀t∈trmL S (zS S q b lo hi l),U64 t.2:=by
 intro t ht
 obtain⟨i,g,rfl⟩:=List.mem_iff_getElem.1 ht
 rw[trmL_get hs]
 have gl:i < l.length:=by rw[trmL_len hs] at g;exact g
 unfold trm
 cases hf:fixB S (zS S q b lo hi l) i with
 |true=>
  rw[if_pos rfl]
  have:valF (zS S q b lo hi l) i < 18446744073709551616:=h.ok.fit _ (fix_has h hm gl)
  exact⟨by simp,by show((valF (zS S q b lo hi l) i:Nat):Int) < _;omega⟩
 |false=>
  rw[if_neg (by simp)]
  have h1:=num_at (S:=S) (q:=q) (b:=b) (lo:=lo) (hi:=hi) hs gl hf
  have h2:=sen_few h hs hm
  have h3:=h.q64
  exact⟨by simp,by show(((cfg S (zS S q b lo hi l)).num i:Nat):Int) < _;omega⟩
theorem bds_fit {S:Bo.Sr}{q:Nat}{b:List Bo.Bd}{lo hi:List Nat}{l:List Sp}(h:Got S q b lo hi)(hs: ∀p∈l,p.s≤2)(hm: ∀p∈l,may1 S q p=true): ∀x∈bds S (zS S q b lo hi l),x.Fit:=by
 intro x hx
 have h1:=bds_may h hs hm x hx
 have h2:=sen_few h hs hm
 have h3:=h.q64
 have key: ∀(v:Bool) (n:Nat),Bo.mayT S (trmN S (zS S q b lo hi l)) v n=true→n < 18446744073709551616:=fun v n e=>by
  unfold Bo.mayT at e
  cases v with
  |true=>
   have:n < trmN S (zS S q b lo hi l):=of_decide_eq_true e
   omega
  |false=>exact h.ok.fit _ e
 unfold Bo.mayB at h1
 rw[Bool.and_eq_true] at h1
 exact⟨key _ _ h1.1,key _ _ h1.2⟩
end Go.Proofs.YtmejhedegmjboaaGreat
