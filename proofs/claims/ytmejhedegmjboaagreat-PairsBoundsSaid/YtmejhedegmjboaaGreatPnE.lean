import Derived.Test.YtmejhedegmjboaaGreatPnD
namespace Go.Proofs.YtmejhedegmjboaaGreat
open Go.RowKit
section
variable {α:Type} {enc:α→List Value} {sz:Nat}
theorem Zd0 (he: ∀x,(enc x).length=sz){l:List α}{k:Nat}(h:k < l.length){u:Value}{i:Nat}(hi:i < sz){y:α}(hy:enc y=(enc l[k]).set i u):
  (l.flatMap enc).set (k*sz+i) u=(l.set k y).flatMap enc:=by
 induction l generalizing k with
 |nil=>simp at h
 |cons x l ih=>(
 cases k with
 |zero=>
  simp only[List.getElem_cons_zero] at hy
  rw[sB,List.flatMap_cons,List.flatMap_cons,hy,Nat.zero_mul,Nat.zero_add,List.set_append_left _ _ (by rw[he];exact hi)]
 |succ k=>
  simp only[List.getElem_cons_succ] at hy
  rw[sC,List.flatMap_cons,List.flatMap_cons,List.set_append_right _ _ (by rw[he,Nat.add_mul];omega),he,show(k+1)*sz+i - sz=k*sz+i by rw[Nat.add_mul];omega,ih (by simpa using h) hy])
theorem ZcV (he: ∀x,(enc x).length=sz){E:TypeId}{w:World}{base g n c:Nat}{l:List α}(h:w.ownsRow base E sz (.slice (some ⟨g,0,none⟩) n c) n (l.flatMap enc)){k:Nat}(hk:k < l.length){u:Value}{i:Nat}(hi:i < sz){y:α}(hy:enc y=(enc l[k]).set i u):
  (w.setCell ⟨g,k*sz+i,none⟩ u).ownsRow base E sz (.slice (some ⟨g,0,none⟩) n c) n ((l.set k y).flatMap enc):=by
 have hn:l.length=n:=Zl he (by omega) h
 rcases h.2 with⟨hv,_⟩|⟨g',cap,cur,hv,hb,hg,hnc,hcm,hcs,htake⟩
 ·cases hv
 ·(
 injection hv with h1 h2 h3
 injection h1 with h1
 injection h1 with h1
 subst h1
 subst h3
 refine⟨by rw[Vr he,List.length_set,hn],.inr ⟨g,c,cur.setIfInBounds (k*sz+i) u,rfl,hb,Zm hg u,hnc,hcm,by simpa using hcs,?_⟩⟩
 rw[Array.toList_setIfInBounds,List.take_set,htake]
 exact Zd0 he hk hi hy)
theorem Rt (he: ∀x,(enc x).length=sz)(hsz:0 < sz){E:TypeId}{w:World}{base n c:Nat}{A:Option Addr}{l:List α}(h:w.ownsRow base E sz (.slice A n c) n (l.flatMap enc)){k:Nat}(hk:k < l.length):
  ∃g,A=some ⟨g,0,none⟩∧base≤g∧g < w.heap.size∧(∀i u,(enc l[k])[i]?=some u→w.cell? ⟨g,k*sz+i,none⟩=some u)∧ ∀i,w.frozen? ⟨g,i,none⟩=false:=by
 rcases h.2 with⟨hv,hn⟩|⟨g,cap,cur,hv,hb,hg,hnc,hcm,hcs,htake⟩
 ·have:=Zl he hsz h
  omega
 ·(
 injection hv with h1 h2 h3
 subst h1
 refine⟨g,rfl,hb,Zh hg,fun i u hu=> ?_,fun i=>Zc hg⟩
 have hi:i < sz:=by
  have:=(List.getElem?_eq_some_iff.1 hu).1
  rwa [he] at this
 have:=h.cells (g:=g) rfl (k*sz+i) u (by rw[flat_get he l k hk i hi];exact hu)
 rwa [Addr.add_lit,Nat.zero_add] at this)
end
theorem VX {w:World}{b b' E E' sz sz' n m:Nat}{v v':Value}{xs ys:List Value}(h:w.ownsRow b E sz v n xs)(h':w.ownsRow b' E' sz' v' m ys)(hE:E≠E'): ∀q,v.ownBlock=some q→v'.ownBlock≠some q:=by
 intro q hq hq'
 rcases h.2 with⟨rfl,-⟩|⟨g,cap,cur,rfl,-,hg,-⟩
 ·cases hq
 ·(
 rcases h'.2 with⟨rfl,-⟩|⟨g',cap',cur',rfl,-,hg',-⟩
 ·cases hq'
 ·(
 injection hq with hq
 injection hq' with hq'
 have e1:g=q:=hq
 have e2:g'=q:=hq'
 rw[e1] at hg
 rw[e2,hg] at hg'
 injection hg' with hg'
 injection hg' with _ hg' _
 exact hE hg'))
theorem Yi {w w':World}{b E sz n:Nat}{v:Value}{xs:List Value}{r:Option Nat}(h:w.ownsRow b E sz v n xs)(hg:w.grownBy w' r)(hne: ∀q,v.ownBlock=some q→r≠some q):w'.ownsRow b E sz v n xs:=
 Zv h fun q hq=>hg.block q (h.lt q hq).2 fun e=>hne q hq e.symm
theorem Zfp {w:World}{b E sz n g i:Nat}{v u:Value}{xs:List Value}(h:w.ownsRow b E sz v n xs)(hne:v.ownBlock≠some g):(w.setCell ⟨g,i,none⟩ u).ownsRow b E sz v n xs:=
 Zv h fun q hq=>Below.heap_setCell w ⟨g,i,none⟩ u q (fun e=>hne (by rw[hq];exact congrArg some e))
end Go.Proofs.YtmejhedegmjboaaGreat
namespace Go.Proofs.YtmejhedegmjboaaGreat.I
open Go.RowKit PaC
theorem Qh (l:List Vn): ∀u∈l.flatMap ndC,u.oneCell'=true:=by
 intro u hu
 obtain⟨x,_,hx⟩:=List.mem_flatMap.1 hu
 simp only[ndC,List.mem_cons,List.not_mem_nil,or_false] at hx
 rcases hx with rfl|rfl|rfl <;> rfl
theorem Zbc:(Tryz.prog.info? 95).map (fun i=>(i.zero,i.size,i.bytes))=some (some (.agg #[.int .i64 0,.int .i64 0,.int .i64 0]),3,24):=by kernel_rfl
def clF (c:Cfg)(s i:Nat):List Nat:=(List.range i).filter (c.is s)
theorem Uf {c:Cfg}{s i:Nat}(h:c.is s i=true):clF c s (i+1)=clF c s i++ [i]:=by
 unfold clF
 rw[List.range_succ,List.filter_append]
 simp[h]
theorem UH {c:Cfg}{s i:Nat}(h:c.is s i=false):clF c s (i+1)=clF c s i:=by
 unfold clF
 rw[List.range_succ,List.filter_append]
 simp[h]
theorem Zbd (c:Cfg)(s i:Nat):(clF c s i).length≤i:=by
 have:=List.length_filter_le (c.is s) (List.range i)
 rw[List.length_range] at this
 exact this
theorem is_f {c:Cfg}{s i:Nat}(h:c.first i≠i):c.is s i=false:=by
 unfold Cfg.is
 rw[decide_eq_false h]
 rfl
theorem is_x {c:Cfg}{s i:Nat}(h:c.fx i=true):c.is s i=false:=by
 unfold Cfg.is
 rw[h]
 simp
theorem is_s {c:Cfg}{s i:Nat}(h:c.sd i≠s):c.is s i=false:=by
 unfold Cfg.is
 rw[decide_eq_false h]
 simp
def bN (b:Nat):Vn:=⟨-1,-1,(b:Int)⟩
theorem Zke (c:Cfg):(c.cls 2).map bN=c.vnB [] []:=rfl
def upF (c:Cfg)(i:Nat):List Nat:=(clF c 0 i).filter fun x=>(c.mg c.si x).isNone
theorem ZlF (c:Cfg)(i:Nat):(upF c i).length≤i:=Nat.le_trans (List.length_filter_le _ _) (Zbd c 0 i)
theorem Zfq {c:Cfg}{i:Nat}(h:c.is 0 i=false):upF c (i+1)=upF c i:=by unfold upF;rw[UH h]
theorem ZhC {c:Cfg}{i b:Nat}(h:c.is 0 i=true)(hm:c.mg c.si i=some b):upF c (i+1)=upF c i:=by
 unfold upF
 rw[Uf h,List.filter_append]
 simp[hm]
theorem Zkf {c:Cfg}{i:Nat}(h:c.is 0 i=true)(hm:c.mg c.si i=none):upF c (i+1)=upF c i++ [i]:=by
 unfold upF
 rw[Uf h,List.filter_append]
 simp[hm]
theorem Zkg (c:Cfg):upF c c.n=c.left []:=(List.filter_eq_self.2 fun _ _=>rfl).symm
def psF (c:Cfg)(i:Nat):Cfg.Ps:=((clF c 1 i).filter fun x=>(c.mg c.so x).isNone).foldl c.QY []
theorem Ru {c:Cfg}{i:Nat}(h:c.is 1 i=false):psF c (i+1)=psF c i:=by unfold psF;rw[UH h]
theorem ZcW {c:Cfg}{i b:Nat}(h:c.is 1 i=true)(hm:c.mg c.so i=some b):psF c (i+1)=psF c i:=by
 unfold psF
 rw[Uf h,List.filter_append]
 simp[hm]
theorem Zkh {c:Cfg}{i:Nat}(h:c.is 1 i=true)(hm:c.mg c.so i=none):psF c (i+1)=psF c i++ [(i,c.seek (psF c i) i)]:=by
 have e:(clF c 1 (i+1)).filter (fun x=>(c.mg c.so x).isNone)=(clF c 1 i).filter (fun x=>(c.mg c.so x).isNone)++ [i]:=by
  rw[Uf h,List.filter_append]
  simp[hm]
 unfold psF
 rw[e,List.foldl_append]
 rfl
theorem ZcX (c:Cfg): ∀(l:List Nat) (s:Cfg.Ps),(l.foldl c.QY s).length=s.length+l.length
 | [],s=>rfl
 |a::l,s=>by(
 rw[List.foldl_cons,ZcX c l]
 simp[Cfg.QY]
 omega)
theorem Zi6 (c:Cfg)(i:Nat):(psF c i).length≤i:=by
 unfold psF
 rw[ZcX]
 have:=List.length_filter_le (fun x=>(c.mg c.so x).isNone) (clF c 1 i)
 have:=Zbd c 1 i
 simp only[List.length_nil]
 omega
theorem left_le (c:Cfg)(s:Cfg.Ps):(c.left s).length≤c.n:=by
 unfold Cfg.left
 have h1:=List.length_filter_le (fun u=> !Cfg.taken s u) c.ups
 have h2:c.ups.length≤(c.cls 0).length:=List.length_filter_le _ _
 have h3:=Zbd c 0 c.n
 have h4:(c.cls 0).length=(clF c 0 c.n).length:=rfl
 omega
theorem Zfr (c:Cfg)(s:Nat):(c.cls s).length≤c.n:=Zbd c s c.n
theorem Zki (l:List Vn)(j:Nat):(Cfg.vnsI l j).length≤l.length:=by
 have key: ∀j,(Cfg.vnsI l j).length=(l.filter fun x=>decide (0≤x.first∧x.first < (j:Int))).length:=by(
 intro j
 induction j with
 |zero=>(
 have:(l.filter fun x=>decide (0≤x.first∧x.first < ((0:Nat):Int)))= []:=List.filter_eq_nil_iff.2 fun x _=>by simp
 rw[this]
 rfl)
 |succ j ih=>(
 rw[Qm,List.length_append,ih]
 clear ih
 induction l with
 |nil=>rfl
 |cons a l ih=>(
 simp only[List.filter_cons]
 by_cases h1:a.first=(j:Int)
 ·rw[if_pos (show decide (0≤a.first∧a.first < ((j+1:Nat):Int))=true from decide_eq_true (by omega)),if_neg (show ¬decide (0≤a.first∧a.first < (j:Int))=true by simp;omega),if_pos (decide_eq_true h1)]
  simp only[List.length_cons]
  omega
 ·(
 by_cases h2:0≤a.first∧a.first < (j:Int)
 ·rw[if_pos (show decide (0≤a.first∧a.first < ((j+1:Nat):Int))=true from decide_eq_true (by omega)),if_pos (decide_eq_true h2),if_neg (by simpa using h1)]
  simp only[List.length_cons]
  omega
 ·rw[if_neg (show ¬decide (0≤a.first∧a.first < ((j+1:Nat):Int))=true by simp;omega),if_neg (by simpa using h2),if_neg (by simpa using h1)]
  exact ih))))
 rw[key]
 exact List.length_filter_le _ _
def fsF (l:List Vn)(i k:Nat):List Vn:=Cfg.vnsI l i++(l.take k).filter fun x=>decide (x.first=(i:Int))
theorem ZlG (l:List Vn)(i k:Nat):(fsF l i k).length≤l.length:=by
 have h1:=Zki l (i+1)
 rw[Qm,List.length_append] at h1
 have h2:((l.take k).filter fun x=>decide (x.first=(i:Int))).length≤(l.filter fun x=>decide (x.first=(i:Int))).length:=by
  have:=(List.take_sublist k l).filter (fun x=>decide (x.first=(i:Int)))
  exact this.length_le
 unfold fsF
 rw[List.length_append]
 omega
theorem Zkj {l:List Vn}{i k:Nat}(h:k < l.length)(e:l[k].first=(i:Int)):fsF l i (k+1)=fsF l i k++ [l[k]]:=by
 unfold fsF
 rw[List.take_succ_eq_append_getElem h,List.filter_append,List.append_assoc]
 simp[e]
theorem ZlH {l:List Vn}{i k:Nat}(h:k < l.length)(e:l[k].first≠(i:Int)):fsF l i (k+1)=fsF l i k:=by
 unfold fsF
 rw[List.take_succ_eq_append_getElem h,List.filter_append]
 simp[e]
theorem ZhD (l:List Vn)(i:Nat):fsF l i 0=Cfg.vnsI l i:=by simp[fsF]
theorem Zkk (l:List Vn)(i:Nat):fsF l i l.length=Cfg.vnsI l (i+1):=by
 unfold fsF
 rw[List.take_length,Qm]
def Rw (P:Nat→Bool)(v:Value)(k:Nat):Prop:=(v= .int .i64 (-1)∧ ∀j < k,P j=false)∨ ∃m:Nat,v= .int .i64 (m:Int)∧k=m+1∧P m=true∧ ∀j < m,P j=false
theorem Rw.zero (P:Nat→Bool):Rw P (.int .i64 (-1)) 0:= .inl ⟨rfl,fun j h=>absurd h (Nat.not_lt_zero j)⟩
theorem ZlI {c:Cfg}{f:Nat→Nat→Bool}{i m:Nat}(hm:m < (c.cls 2).length)(h:f i ((c.cls 2).getD m 0)=true)(hl: ∀j < m,f i ((c.cls 2).getD j 0)=false):c.mg f i=some (c.cls 2)[m]:=by
 have hg: ∀j (g:j < (c.cls 2).length),(c.cls 2).getD j 0=(c.cls 2)[j]:=fun j g=>by rw[List.getD_eq_getElem?_getD,List.getElem?_eq_getElem g];rfl
 refine ZmX hm (by rw[← hg m hm];exact h) fun j g=> ?_
 rw[← hg j (by omega)]
 exact hl j g
theorem Zi7 {c:Cfg}{f:Nat→Nat→Bool}{i:Nat}(hl: ∀j < (c.cls 2).length,f i ((c.cls 2).getD j 0)=false):c.mg f i=none:=by
 refine ZmY fun j g=> ?_
 have:=hl j g
 rw[List.getD_eq_getElem?_getD,List.getElem?_eq_getElem g] at this
 exact this
end Go.Proofs.YtmejhedegmjboaaGreat.I
