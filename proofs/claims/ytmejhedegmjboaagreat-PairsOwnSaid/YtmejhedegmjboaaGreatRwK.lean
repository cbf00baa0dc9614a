/- SpBelow; Fct; RwK: merged. -/
import Derived.Test.YtmejhedegmjboaaGreatLaw2
import Derived.Test.YtmejhedegmjboaaGreatOfs
import Derived.Test.YtmejhedegmjboaaGreatRwB
namespace Go.Proofs.YtmejhedegmjboaaGreat
theorem lab_le: ∀(l:List Nd) (k:Nat) (ss:List Nat),(∀y∈ss,y≤2)→ ∀p∈lab k l ss,p.s≤2
 | [],_,_,_,p,h=>by simp[lab] at h
 |_::_,_,[],_,p,h=>by simp[lab] at h
 |x::l,k,s::ss,hs,p,h=>by
  have h0:=hs s List.mem_cons_self
  simp only[lab,List.mem_append] at h
  rcases h with h|h
  ·unfold labS at h
   split at h
   ·simp only[List.mem_cons,List.not_mem_nil,or_false] at h
    rcases h with rfl|rfl
    ·exact h0
    ·exact turn_le s
   ·simp only[List.mem_cons,List.not_mem_nil,or_false] at h
    subst h
    exact h0
  ·exact lab_le l (k+1) ss (fun y hy=>hs y (List.mem_cons_of_mem _ hy)) p h
theorem labB_le (l:List Nd): ∀p∈labB l,p.s≤2:=by
 unfold labB
 split
 ·exact lab_le l 0 _ (sds_le l [0] (by simp))
 ·simp
end Go.Proofs.YtmejhedegmjboaaGreat
namespace Go.Proofs.YtmejhedegmjboaaGreat
theorem eff_le: ∀(l:List Nd) (k:Nat) (ss:List Nat),(∀y∈ss,y≤2)→ ∀p∈eff k l ss,p.s≤2
 | [],_,_,_,p,h=>by simp[eff] at h
 |_::_,_,[],_,p,h=>by simp[eff] at h
 |x::l,k,s::ss,hs,p,h=>by
  have h0:=hs s List.mem_cons_self
  simp only[eff,List.mem_append] at h
  rcases h with h|h
  ·unfold effS at h
   split at h
   ·simp only[List.mem_cons,List.not_mem_nil,or_false] at h
    subst h
    exact h0
   ·cases h
  ·exact eff_le l (k+1) ss (fun y hy=>hs y (List.mem_cons_of_mem _ hy)) p h
theorem effB_le (l:List Nd): ∀p∈effB l,p.s≤2:=by
 unfold effB
 split
 ·exact eff_le l 0 _ (sds_le l [0] (by simp))
 ·simp
end Go.Proofs.YtmejhedegmjboaaGreat
namespace Go.Proofs.YtmejhedegmjboaaGreat
open Go.RowKit
open I (sd bb lw hg fixB valF)
def toI (z:Sen):I.Sen:=⟨z.p.map fun p=>⟨(p.n:Int),p.p,p.s,p.v,p.z⟩,z.lo,z.hi,z.be⟩
theorem Rs.mapped {α β:Type}{enc:α→List Value}{enc':β→List Value}{f:α→β}(he: ∀x,enc' (f x)=enc x){sz:Nat}{w:World}{B:Nat}{A:Option Addr}{n c:Nat}{l:List α}(h:Rs enc sz w B A n c l):Rs enc' sz w B A n c (l.map f):=
 ⟨by rw[List.length_map];exact h.len,h.cap,h.top,h.none0,fun hn=>by
  obtain⟨b,o,e,hb,hc⟩:=h.spot hn
  exact⟨b,o,e,hb,fun j hj i u hu=>hc j (by simpa using hj) i u (by rw[List.getElem_map,he] at hu;exact hu)⟩⟩
theorem SenAt.toI {w:World}{z:Sen}{A1:Option Addr}{n1 c1:Nat}{A2:Option Addr}{n2 c2:Nat}{A3:Option Addr}{n3 c3:Nat}{A4:Option Addr}{n4 c4:Nat}(h:SenAt w z A1 n1 c1 A2 n2 c2 A3 n3 c3 A4 n4 c4):I.SenAt w (toI z) A1 n1 c1 A2 n2 c2 A3 n3 c3 A4 n4 c4:=
 ⟨h.rp.mapped (f:=fun p:Sp=>(⟨(p.n:Int),p.p,p.s,p.v,p.z⟩:I.Sp)) fun _=>rfl,h.rl,h.rh,h.rb,h.fl,h.fh⟩
section
variable {S:Bo.Sr} {lo hi:List Nat} {rc:Nat→Nat→Bool} {l:List Sp}
theorem sen_sd {i:Nat}(h:i < l.length):sd (toI (senS S lo hi rc l)) i=l[i].s:=by
 unfold sd toI senS
 simp[List.getD_eq_getElem?_getD,List.getElem?_eq_getElem h]
theorem sen_lw {i:Nat}(h:i < l.length):lw (toI (senS S lo hi rc l)) i=lowS S lo l[i]:=by
 unfold lw toI senS
 simp[List.getD_eq_getElem?_getD,List.getElem?_eq_getElem h]
theorem sen_hg {i:Nat}(h:i < l.length):hg (toI (senS S lo hi rc l)) i=highS S hi l[i]:=by
 unfold hg toI senS
 simp[List.getD_eq_getElem?_getD,List.getElem?_eq_getElem h]
theorem sen_bb {i j:Nat}(h:i < l.length)(g:j < l.length):bb (toI (senS S lo hi rc l)) i j=belS S lo hi rc l[i] l[j]:=by
 unfold bb toI senS
 simp[List.getD_eq_getElem?_getD,List.getElem?_eq_getElem h,List.getElem?_eq_getElem g]
theorem low_up {p:Sp}(h:p.s≠1):lowS S lo p=tmL lo p:=if_neg h
theorem high_dn {p:Sp}(h:p.s≠0):highS S hi p=tmL hi p:=if_neg h
theorem bel_is {p q:Sp}:belS S lo hi rc p q=true↔p.s≠0∧q.s≠1∧alw S lo hi rc p q=true:=by
 unfold belS
 simp
theorem tm_con {u:List Nat}{p:Sp}(h:p.v=false):tmL u p=p.z.toNat:=by unfold tmL Bo.vl;rw[h];rfl
theorem fix_iff {i:Nat}(h:i < l.length)(hs:l[i].s≤2):fixB S (toI (senS S lo hi rc l)) i=true↔
  (l[i].s=0∧ ∀k (g:k < l.length),belS S lo hi rc l[k] l[i]=true→S.below (highS S hi l[k]) (lowS S lo l[i])=true)∨
  (l[i].s=1∧ ∀k (g:k < l.length),belS S lo hi rc l[i] l[k]=true→S.below (highS S hi l[i]) (lowS S lo l[k])=true)∨
  (l[i].s=2∧highS S hi l[i]=lowS S lo l[i]):=by
 unfold fixB
 rw[sen_sd h,sen_lw h,sen_hg h]
 have hn:(toI (senS S lo hi rc l)).p.length=l.length:=by simp[toI,senS]
 rw[hn]
 by_cases e0:l[i].s=0
 ·rw[if_pos e0,List.all_eq_true]
  constructor
  ·intro a
   refine .inl ⟨e0,fun k g e=> ?_⟩
   have:=a k (List.mem_range.2 g)
   rw[sen_bb g h,e,sen_hg g] at this
   simpa using this
  ·rintro(⟨-,a⟩|⟨e,-⟩|⟨e,-⟩)
   ·intro k hk
    have g:=List.mem_range.1 hk
    rw[sen_bb g h,sen_hg g]
    cases e:belS S lo hi rc l[k] l[i] with
    |false=>rfl
    |true=>simpa using a k g e
   ·omega
   ·omega
 ·rw[if_neg e0]
  by_cases e1:l[i].s=1
  ·rw[if_pos e1,List.all_eq_true]
   constructor
   ·intro a
    refine .inr (.inl ⟨e1,fun k g e=> ?_⟩)
    have:=a k (List.mem_range.2 g)
    rw[sen_bb h g,e,sen_lw g] at this
    simpa using this
   ·rintro(⟨e,-⟩|⟨-,a⟩|⟨e,-⟩)
    ·omega
    ·intro k hk
     have g:=List.mem_range.1 hk
     rw[sen_bb h g,sen_lw g]
     cases e:belS S lo hi rc l[i] l[k] with
     |false=>rfl
     |true=>simpa using a k g e
    ·omega
  ·rw[if_neg e1,decide_eq_true_eq]
   constructor
   ·intro a;exact .inr (.inr ⟨by omega,a⟩)
   ·rintro(⟨e,-⟩|⟨e,-⟩|⟨-,a⟩)
    ·omega
    ·omega
    ·exact a
theorem val_is {i:Nat}(h:i < l.length):valF (toI (senS S lo hi rc l)) i=if l[i].s=1 then highS S hi l[i] else lowS S lo l[i]:=by
 unfold valF
 rw[sen_sd h,sen_lw h,sen_hg h]
end
section
variable {S:Bo.Sr} {q:Nat} {b:List Bo.Bd} {lo hi:List Nat} {l:List Sp}
theorem con_fix (hs: ∀p∈l,p.s≤2){i:Nat}(hi':i < l.length)(hv:l[i].v=false):fixB S (toI (senS S lo hi (rcB q b) l)) i=true∧valF (toI (senS S lo hi (rcB q b) l)) i=l[i].z.toNat:=by
 have hsi:=hs _ (List.getElem_mem hi')
 have key: ∀k (g:k < l.length),belS S lo hi (rcB q b) l[k] l[i]=true→S.below (highS S hi l[k]) (lowS S lo l[i])=true:=fun k g e=>by
  obtain⟨e1,e2,e3⟩:=bel_is.1 e
  rw[high_dn e1,low_up e2]
  unfold alw at e3
  rw[hv] at e3
  simpa using e3
 have key2: ∀k (g:k < l.length),belS S lo hi (rcB q b) l[i] l[k]=true→S.below (highS S hi l[i]) (lowS S lo l[k])=true:=fun k g e=>by
  obtain⟨e1,e2,e3⟩:=bel_is.1 e
  rw[high_dn e1,low_up e2]
  unfold alw at e3
  rw[hv] at e3
  simpa using e3
 rw[fix_iff hi' hsi,val_is hi']
 by_cases e0:l[i].s=0
 ·refine⟨.inl ⟨e0,key⟩,?_⟩
  rw[if_neg (by omega),low_up (by omega),tm_con hv]
 ·by_cases e1:l[i].s=1
  ·refine⟨.inr (.inl ⟨e1,key2⟩),?_⟩
   rw[if_pos e1,high_dn (by omega),tm_con hv]
  ·refine⟨.inr (.inr ⟨by omega,?_⟩),?_⟩
   ·rw[high_dn e0,low_up e1,tm_con hv,tm_con hv]
   ·rw[if_neg e1,low_up e1,tm_con hv]
theorem fix_has (h:Got S q b lo hi)(hm: ∀p∈l,may1 S q p=true){i:Nat}(hi':i < l.length):S.has (valF (toI (senS S lo hi (rcB q b) l)) i)=true:=by
 rw[val_is hi']
 have hp:=hm _ (List.getElem_mem hi')
 split
 ·exact h.highH hp
 ·exact h.lowH hp
end
end Go.Proofs.YtmejhedegmjboaaGreat
