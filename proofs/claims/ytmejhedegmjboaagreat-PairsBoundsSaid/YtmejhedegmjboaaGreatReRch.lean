import Derived.Laws.AppendOwn
import Derived.OwnWalk
import Derived.LoopTactic
import Derived.Handy
import Derived.Test.YtmejhedegmjboaaGreatBoSrt
import Derived.Test.YtmejhedegmjboaaGreatLaOrd
import Derived.Test.YtmejhedegmjboaaGreatRange
set_option maxRecDepth 100000
set_option maxHeartbeats 4000000
namespace Go.Proofs.YtmejhedegmjboaaGreat
open Go.RowKit
structure Rs {α:Type}(enc:α→List Value)(sz:Nat)(w:World)(B:Nat)(A:Option Addr)(n c:Nat)(l:List α):Prop where
 len:l.length=n
 cap:n≤c
 top:c≤maxLen
 none0:A=none→c=0
 spot:0 < n→ ∃b o,A=some ⟨b,o,none⟩∧b < B∧ ∀j (h:j < l.length) i u,(enc l[j])[i]?=some u→w.cell? ⟨b,o+j*sz+i,none⟩=some u
section
variable {α:Type} {enc:α→List Value} {sz:Nat} {w w':World} {B B':Nat} {A:Option Addr} {n c:Nat} {l:List α}
theorem Rs.nil (w:World)(B:Nat):Rs enc sz w B none 0 0 []:=⟨rfl,Nat.le_refl _,Nat.zero_le _,fun _=>rfl,fun h=>absurd h (by omega)⟩
theorem Rs.keep (h:Rs enc sz w B A n c l)(hk: ∀k,k < B→w'.heap[k]?=w.heap[k]?):Rs enc sz w' B A n c l:=
 ⟨h.len,h.cap,h.top,h.none0,fun hn=>by
  obtain⟨b,o,e,hb,hc⟩:=h.spot hn
  exact⟨b,o,e,hb,fun j hj i u hu=>(World.cell?_of_block (w:=w) (w':=w') (a:=⟨b,o+j*sz+i,none⟩) (hk b hb)).trans (hc j hj i u hu)⟩⟩
theorem Rs.below (h:Rs enc sz w B A n c l)(hb:Below B w w'):Rs enc sz w' B A n c l:=h.keep hb.block
theorem Rs.mono (h:Rs enc sz w B A n c l)(hB:B≤B'):Rs enc sz w B' A n c l:=
 ⟨h.len,h.cap,h.top,h.none0,fun hn=>by
  obtain⟨b,o,e,hb,hc⟩:=h.spot hn
  exact⟨b,o,e,by omega,hc⟩⟩
theorem Rs.at_size (h:Rs enc sz w B A n c l)(hB:B≤w.heap.size)(hb:Below w.heap.size w w'):Rs enc sz w' w'.heap.size A n c l:=
 ((h.mono hB).below hb).mono hb.size
theorem Vr (he: ∀x,(enc x).length=sz): ∀l:List α,(l.flatMap enc).length=l.length*sz
 | []=>by simp
 |x::l=>by
  rw[List.flatMap_cons,List.length_append,he,Vr he l,List.length_cons,Nat.add_mul]
  omega
theorem flat_get (he: ∀x,(enc x).length=sz): ∀(l:List α) (j:Nat) (h:j < l.length) (i:Nat),i < sz→(l.flatMap enc)[j*sz+i]?=(enc l[j])[i]?
 | [],j,h,_,_=>by simp at h
 |x::l,0,_,i,hi=>by
  rw[List.flatMap_cons,Nat.zero_mul,Nat.zero_add,List.getElem?_append_left (by rw[he];exact hi)]
  rfl
 |x::l,j+1,h,i,hi=>by(
 have:=flat_get he l j (by simpa using h) i hi
 rw[List.flatMap_cons,List.getElem?_append_right (by rw[he,Nat.add_mul];omega),he,show(j+1)*sz+i - sz=j*sz+i by rw[Nat.add_mul];omega,this]
 simp)
theorem Rs.cells (he: ∀x,(enc x).length=sz)(hsz:0 < sz){b o:Nat}(hc: ∀j (h:j < l.length) i u,(enc l[j])[i]?=some u→w.cell? ⟨b,o+j*sz+i,none⟩=some u):
  ∀j u,(l.flatMap enc)[j]?=some u→w.cell? ((⟨b,o,none⟩:Addr).add j)=some u:=by
 intro j u hu
 have hj:j < l.length*sz:=by(
 rcases Nat.lt_or_ge j (l.flatMap enc).length with h|h
 ·rw[Vr he] at h
  exact h
 ·rw[List.getElem?_eq_none h] at hu
  cases hu)
 have hq:j / sz < l.length:=Nat.div_lt_of_lt_mul (by rw[Nat.mul_comm];exact hj)
 have hr:j%sz < sz:=Nat.mod_lt _ hsz
 have e:j / sz*sz+j%sz=j:=by rw[Nat.mul_comm];exact Nat.div_add_mod j sz
 have:=flat_get he l (j / sz) hq (j%sz) hr
 rw[e,hu] at this
 have:=hc (j / sz) hq (j%sz) u this.symm
 rw[Addr.add_lit]
 rwa [Nat.add_assoc,e] at this
theorem Zl {E:TypeId}{base:Nat}{v:Value}(he: ∀x,(enc x).length=sz)(hsz:0 < sz)(h:w.ownsRow base E sz v n (l.flatMap enc)):l.length=n:=by
 have:=h.1
 rw[Vr he] at this
 exact Nat.eq_of_mul_eq_mul_right hsz this
theorem ZJ {E:TypeId}{base:Nat}{v:Value}{xs:List Value}(h:w.ownsRow base E sz v n xs): ∃A c,v= .slice A n c:=by
 rcases h.2 with⟨rfl,rfl⟩|⟨g,cap,cur,rfl,_⟩
 ·exact⟨none,0,rfl⟩
 ·exact⟨_,_,rfl⟩
theorem Rs.of_own {E:TypeId}{base:Nat}(he: ∀x,(enc x).length=sz)(hsz:0 < sz)(h:w.ownsRow base E sz (.slice A n c) n (l.flatMap enc)):Rs enc sz w w.heap.size A n c l:=by
 have hl:=Zl he hsz h
 rcases h.2 with⟨hv,rfl⟩|⟨g,cap,cur,hv,hb,hg,hnc,hcm,hcs,htake⟩
 ·injection hv with h1 h2 h3
  subst h3
  exact⟨hl,Nat.le_refl _,Nat.zero_le _,fun _=>rfl,fun h=>absurd h (by omega)⟩
 ·(
 injection hv with h1 h2 h3
 subst h1
 subst h3
 refine⟨hl,hnc,hcm,(fun h=>by cases h),fun _=>⟨g,0,rfl,(Array.getElem?_eq_some_iff.1 hg).1,fun j hj i u hu=> ?_⟩⟩
 have hi:i < sz:=by(
 rcases Nat.lt_or_ge i sz with h|h
 ·exact h
 ·rw[List.getElem?_eq_none (by rw[he];exact h)] at hu
  cases hu)
 have:=h.cells (g:=g) rfl (j*sz+i) u (by rw[flat_get he l j hj i hi];exact hu)
 rw[Addr.add_lit, ← Nat.add_assoc] at this
 exact this)
theorem Rs.of_blk {g:Nat}{cs:Array Value}{E:TypeId}(he: ∀x,(enc x).length=sz)(hg:w.heap[g]?=some (.cells cs E (0,0)))(hcs: ∃tl,cs.toList=l.flatMap enc++tl)(hl:l.length=n)(hc:n≤c)(hm:c≤maxLen):
  Rs enc sz w w.heap.size (some ⟨g,0,none⟩) n c l:=by
 refine⟨hl,hc,hm,(fun h=>by cases h),fun _=>⟨g,0,rfl,Zh hg,fun j hj i u hu=> ?_⟩⟩
 have hi:i < sz:=by(
 rcases Nat.lt_or_ge i sz with h|h
 ·exact h
 ·rw[List.getElem?_eq_none (by rw[he];exact h)] at hu
  cases hu)
 obtain⟨tl,hcs⟩:=hcs
 rw[Zb hg, ← Array.getElem?_toList,hcs,Nat.zero_add,List.getElem?_append_left,flat_get he l j hj i hi]
 ·exact hu
 ·rw[Vr he]
  calc j*sz+i < j*sz+sz:=by omega
   _=(j+1)*sz:=by rw[Nat.add_mul];omega
   _≤l.length*sz:=Nat.mul_le_mul_right _ hj
def QI (A:Option Addr)(lo c sz:Nat):Option Addr:=if c=lo then A else A.map (·.add (lo*sz))
theorem Rs.cut (h:Rs enc sz w B A n c l)(lo hi:Nat)(h1:lo≤hi)(h2:hi≤n):Rs enc sz w B (QI A lo c sz) (hi - lo) (c - lo) ((l.drop lo).take (hi - lo)):=by
 have hc:=h.cap
 have ht:=h.top
 have hl:=h.len
 refine⟨by rw[List.length_take,List.length_drop];omega,by omega,by omega,fun hn=> ?_,fun hn=> ?_⟩
 ·(
 unfold QI at hn
 split at hn
 ·omega
 ·rcases A with _|ad
  ·have:=h.none0 rfl
   omega
  ·cases hn)
 ·(
 obtain⟨b,o,rfl,hb,hcell⟩:=h.spot (by omega)
 have hne: ¬c=lo:=by omega
 refine⟨b,o+lo*sz,by simp[QI,hne,Addr.add_lit],hb,fun j hj i u hu=> ?_⟩
 rw[List.length_take,List.length_drop] at hj
 simp only[List.getElem_take,List.getElem_drop] at hu
 have:=hcell (lo+j) (by omega) i u hu
 rw[Nat.add_mul] at this
 rwa [show o+lo*sz+j*sz+i=o+(lo*sz+j*sz)+i by omega])
variable {P:Program} (t e:TypeId) (ht:P.underlying t=some (.slice e)) (hz: ∀w,(Go.sizeOf e).run P w= .ok sz w)
include ht hz
end
structure Appended (w w':World)(base:Nat)(e:TypeId)(sz:Nat)(v v':Value)(n:Nat)(xs:List Value):Prop where
 own:w'.ownsRow base e sz v' n xs
 grown:w.grownBy w' v.ownBlock
 place:v'.ownBlock=v.ownBlock∨ ∃g,v'.ownBlock=some g∧w.heap.size≤g
theorem Appended.apart {w w':World}{base:Nat}{e:TypeId}{sz:Nat}{v v':Value}{n:Nat}{xs:List Value}(h:Appended w w' base e sz v v' n xs){q:Nat}(hq:q < w.heap.size)(hv:v.ownBlock≠some q):v'.ownBlock≠some q:=by
 rcases h.place with e|⟨g,e,hg⟩
 ·rw[e];exact hv
 ·rw[e];intro h;injection h with h;omega
theorem Vk {P:Program}(w:World)(base:Nat)(t s ty e:TypeId)(i:TypeInfo)(z:Value)(sz bytes:Nat)(ht:P.underlying t=some (.slice e))(hi:P.info? e=some i)(hz:i.zero=some z)(hsize:i.size=sz)(hby:i.bytes=bytes)(hzs:z.cells.size=sz)(hsz:0 < sz)
  (v:Value) (n:Nat) (xs:List Value) (hown:w.ownsRow base e sz v n xs) (a:Addr) (m c:Nat) (news:List Value) (hl:news.length=m*sz) (hnews: ∀j u,news[j]?=some u→w.cell? (a.add j)=some u) (h1: ∀u∈news,u.oneCell'=true)
  (h63:n+m≤maxLen) (hbytes:(n+m)*bytes≤140737488355328) (hbase:base≤w.heap.size) (hst:(Builtin.append_ #[t,s] ty #[v,.slice (some a) m c]).run P w=(Builtin.append_ #[t,t] ty #[v,.slice (some a) m c]).run P w):
  ∃v' w',(Builtin.append_ #[t,s] ty #[v,.slice (some a) m c]).run P w= .ok v' w'∧Appended w w' base e sz v v' (n+m) (xs++news):=by
 rw[hst]
 rcases hown.2 with⟨rfl,rfl⟩|⟨g,cap,cur,rfl,hb,hg,hnc,hcm,hcs,htake⟩
 ·(
 have hxs:xs= []:=List.eq_nil_of_length_eq_zero (by rw[hown.1];omega)
 subst hxs
 obtain⟨v',w',hrun,h2,h3,_⟩:=run_append_own (P:=P) w w.heap.size t ty e i z sz bytes ht hi hz hsize hby hzs hsz (.slice none 0 0) 0 [] (World.ownsRow_nil w _ e sz) a m c news hl hnews h1 h63 hbytes lR
 refine⟨v',w',hrun,⟨⟨h2.1,?_⟩,h3,?_⟩⟩
 ·rcases h2.2 with h|⟨g,cap,cur,hv,hb,r⟩
  ·exact .inl h
  ·exact .inr ⟨g,cap,cur,hv,Nat.le_trans hbase hb,r⟩
 ·rcases h2.2 with⟨rfl,_⟩|⟨g,cap,cur,rfl,hb,r⟩
  ·exact .inl rfl
  ·exact .inr ⟨g,rfl,hb⟩)
 ·(
 subst hsize
 subst hby
 have hcl:(cur.toList.take (n*i.size)).length=n*i.size:=by rw[htake];exact hown.1
 by_cases hr:n+m≤cap
 ·(
 have hfit:n*i.size+news.length≤cur.size:=by rw[hl,hcs, ← Nat.add_mul];exact Nat.mul_le_mul_right _ hr
 have hrun:=run_append_room (P:=P) w t ty e i ht hi g n cap cur hg a m c news hl hnews h1 hr hfit
 refine⟨_,_,hrun,⟨⟨by rw[List.length_append,hown.1,hl,Nat.add_mul],.inr ⟨g,cap,_,rfl,hb,setRow_heap w g cur _ e _ hg,hr,hcm,?_,?_⟩⟩,⟨rfl,rfl,rfl,by simp,fun k _ hk=>setRow_other w g k _ (fun e=>hk (by rw[e];rfl))⟩,.inl rfl⟩⟩
 ·simp only[List.size_toArray,List.length_append,List.length_drop,hcl,Array.length_toList]
  omega
 ·rw[htake,List.take_append_of_le_length (by rw[List.length_append,hown.1,hl, ← Nat.add_mul];exact Nat.le_refl _),List.take_of_length_le (by rw[List.length_append,hown.1,hl, ← Nat.add_mul];exact Nat.le_refl _)])
 ·(
 have holds: ∀j u,xs[j]?=some u→w.cell? ((⟨g,0,none⟩:Addr).add j)=some u:=fun j u hu=>hown.cells (g:=g) rfl j u hu
 have hmx:n+m≤9223372036854775807:=by simp only[maxLen] at h63;omega
 have hrun:=run_append_grow (P:=P) w t ty e i z ht hi hz ⟨g,0,none⟩ n cap xs hown.1 holds a m c news hl hnews (by omega) (by omega) (growslice_fits (by omega) (by omega))
 have hge:=grownCap_ge w (n+m) cap e
 have hle:=grownCap_le_maxLen w (n+m) cap e h63
 refine⟨_,_,hrun,⟨⟨by rw[List.length_append,hown.1,hl,Nat.add_mul],.inr ⟨w.heap.size,_,_,rfl,hbase,heap_alloc_new w.drew _,hge,hle,?_,?_⟩⟩,⟨rfl,rfl,rfl,by simp,fun k hk _=>Below.heap_alloc w.drew _ k hk⟩,.inr ⟨_,rfl,Nat.le_refl _⟩⟩⟩
 ·simp only[Array.size_append,List.size_toArray,size_zeroCells,hzs,hown.1,hl]
  rw[← Nat.add_mul, ← Nat.add_mul]
  congr 1
  omega
 ·have hlen:(xs++news).length=(n+m)*i.size:=by rw[List.length_append,hown.1,hl,Nat.add_mul]
  rw[Array.toList_append,Array.toList_append,List.take_append_of_le_length (by rw[← hlen];simp),List.take_of_length_le (by rw[← hlen];simp)]))
end Go.Proofs.YtmejhedegmjboaaGreat
namespace Go.Proofs.YtmejhedegmjboaaGreat.Bo
open Go.RowKit
structure Bd where
 av:Bool
 an:Nat
 bv:Bool
 bn:Nat
def bdc (b:Bd):List Value:= [.bool b.av,.int .u64 (b.an:Int),.bool b.bv,.int .u64 (b.bn:Int)]
theorem Zr (b:Bd):(bdc b).length=4:=rfl
def Bd.Fit (b:Bd):Prop:=b.an < 18446744073709551616∧b.bn < 18446744073709551616
def tmv (v:Bool)(n:Nat):Value:= .agg #[.bool v,.int .u64 (n:Int)]
theorem Ky {w:World}{B n c:Nat}{A:Option Addr}{l:List Bd}(h:Rs bdc 4 w B A n c l){k:Nat}(hk:k < l.length): ∃b o,A=some ⟨b,o,none⟩∧b < B∧
  w.cell? ⟨b,o+k*4,none⟩=some (.bool l[k].av)∧w.cell? ⟨b,o+k*4+1,none⟩=some (.int .u64 (l[k].an:Int))∧w.cell? ⟨b,o+k*4+2,none⟩=some (.bool l[k].bv)∧w.cell? ⟨b,o+k*4+3,none⟩=some (.int .u64 (l[k].bn:Int)):=by
 obtain⟨b,o,e,hb,hc⟩:=h.spot (by have:=h.len;omega)
 exact⟨b,o,e,hb,hc k hk 0 _ rfl,hc k hk 1 _ rfl,hc k hk 2 _ rfl,hc k hk 3 _ rfl⟩
def vl (u:List Nat)(v:Bool)(n:Nat):Nat:=cond v (u.getD n 0) n
def okT (u:List Nat)(v:Bool)(n:Nat):Bool:= !v||decide (n < u.length)
def mayT (S:Sr)(k:Nat)(v:Bool)(n:Nat):Bool:=cond v (decide (n < k)) (S.has n)
theorem wrap_small {k:Nat}(h:k < 18446744073709551616):IntKind.u64.wrap (k:Int)=(k:Int):=by rw[IntKind.wrap_u64];omega
def VH (w:World)(v:Value)(S:Sr):Prop:=(v= .nilIface∧S=dead)∨Srt w v S
theorem VH.keep {w W:World}{v:Value}{S:Sr}(h:VH w v S)(hb:Below w.heap.size w W):VH W v S:=h.imp id fun h=>h.keep hb
theorem Zav (v:Value)(S:Sr)(w:World)(h:VH w v S):Calls Tryz.prog 114 #[v] w fun e w'=> ∃v',e= .returned v'∧Srt w v' S∧w=w':=by
 rcases h with⟨rfl,rfl⟩|⟨a,rfl,h⟩|⟨a,rfl,h⟩|⟨rfl,h⟩
 ·go_enter Tryz.func114,Tryz.ntmps114
  go_wp2
  go_ret
  exact⟨_,rfl,.inr (.inr ⟨rfl,ZiL w⟩),rfl⟩
 ·(
 have H:=Hd h
 clear h
 go_enter Tryz.func114,Tryz.ntmps114
 go_wp2
 go_ret
 exact⟨_,rfl,.inl ⟨a,rfl,H.out⟩,rfl⟩)
 ·(
 have H:=Hd h
 clear h
 go_enter Tryz.func114,Tryz.ntmps114
 go_wp2
 go_ret
 exact⟨_,rfl,.inr (.inl ⟨a,rfl,H.out⟩),rfl⟩)
 ·(
 have H:=Hd h
 clear h
 go_enter Tryz.func114,Tryz.ntmps114
 go_wp2
 go_ret
 exact⟨_,rfl,.inr (.inr ⟨rfl,H.out⟩),rfl⟩)
theorem Qc (b:Bool)(n k:Nat)(v:Value)(S:Sr)(w:World)(hs:Srt w v S)(hn:n < 18446744073709551616)(hk:k≤64):
  Calls Tryz.prog 115 #[tmv b n,v,.int .i64 (k:Int)] w fun e w'=>e= .returned (.bool (mayT S k b n))∧Below w.heap.size w w':=by
 have hw:=wrap_small (k:=k) (by omega)
 have hal:Below w.heap.size w (w.alloc (.cells #[.bool b,.int .u64 (n:Int)] 62)):=bA
 unfold tmv mayT
 cases b with
 |true=>(
 clear hs
 simp only[cond_true]
 have e:decide (n < k)=decide ((n:Int) < (k:Int)):=by congr 1;simp
 rw[e]
 generalize hd:decide ((n:Int) < (k:Int))=d at*
 go_enter Tryz.func115,Tryz.ntmps115
 go_wp2
 go_ret
 exact⟨rfl,hal⟩)
 |false=>(
 simp only[cond_false]
 have HN:=Hd hn
 clear hw hk hn
 rcases hs with⟨a,rfl,h⟩|⟨a,rfl,h⟩|⟨rfl,h⟩
 all_goals(
 have H:=Hd (h.has _ hal n HN.out)
 clear h
 generalize S.has n=r at*
 have HA:=Hd hal
 clear hal
 go_enter Tryz.func115,Tryz.ntmps115
 go_wp2_with fail
 refine H.out.mono ?_
 rintro e w1 ⟨rfl,hb⟩
 go_wp2_with fail
 go_ret
 exact⟨rfl,HA.out.trans (hb.mono HA.out.size)⟩))
theorem Qy (b:Bool)(n:Nat)(A:Option Addr)(m c B:Nat)(u:List Nat)(w:World)(h:Rd La.nm w B A m c u)(hB:B≤w.heap.size)(hn:n < 18446744073709551616)(x:Nat)(y:Bool)(hx:vl u b n=x)(hy:okT u b n=y):
  Calls Tryz.prog 145 #[tmv b n,.slice A m c] w fun e w'=>e= .returned (.tuple #[.int .u64 (x:Int),.bool y])∧Below w.heap.size w w':=by
 have hal:Below w.heap.size w (w.alloc (.cells #[.bool b,.int .u64 (n:Int)] 62)):=bA
 have hlen:=h.len
 have htop:=h.top
 have hcap:=h.cap
 unfold maxLen at htop
 have hw:=wrap_small (k:=m) (by omega)
 unfold tmv
 subst hx hy
 cases b with
 |false=>(
 simp only[vl,okT,cond_false,Bool.not_false,Bool.true_or]
 clear h
 go_enter Tryz.func145,Tryz.ntmps145
 go_wp2
 exact bodyPost_ret (v:= .tuple #[.int .u64 (n:Int),.bool true]) (by simp[results,Tryz.results145,go_sem]) rfl ⟨rfl,hal⟩)
 |true=>(
 simp only[vl,okT,cond_true,Bool.not_true,Bool.false_or]
 by_cases hlt:n < u.length
 ·(
 have e:u.getD n 0=u[n]:=by simp[hlt]
 rw[e,decide_eq_true hlt]
 obtain⟨b,o,rfl,hb,hc'⟩:=h.spot (by omega)
 have hc:=hc' n hlt
 clear hc'
 have hc1:=(hal.cell (p:=⟨b,o+n,none⟩) (show b < _ by omega)).trans hc
 replace hc1:_=some (Value.int .u64 (u[n]:Int)):=hc1
 have hlt':n < m:=by omega
 clear h hc e
 generalize u[n]=q at*
 clear hlt hlen
 go_enter Tryz.func145,Tryz.ntmps145
 go_wp2
 exact bodyPost_ret (v:= .tuple #[.int .u64 (q:Int),.bool true]) (by simp[results,Tryz.results145,go_sem]) rfl ⟨rfl,hal⟩)
 ·(
 have e:u.getD n 0=0:=by simp[List.getD,List.getElem?_eq_none (Nat.le_of_not_lt hlt)]
 rw[e,decide_eq_false hlt]
 have hge: ¬n < m:=by omega
 clear h e hlt hlen
 go_enter Tryz.func145,Tryz.ntmps145
 go_wp2
 exact bodyPost_ret (v:= .tuple #[.int .u64 0,.bool false]) (by simp[results,Tryz.results145,go_sem]) rfl ⟨rfl,hal⟩))
end Go.Proofs.YtmejhedegmjboaaGreat.Bo
namespace Go.Proofs.YtmejhedegmjboaaGreat.Bo
open Go.RowKit
def mayB (S:Sr)(k:Nat)(b:Bd):Bool:=mayT S k b.av b.an && mayT S k b.bv b.bn
def chkS (S:Sr)(k:Int)(l:List Bd):Int:=if k < 0∨64 < k∨256 < l.length then 3 else if l.all (mayB S k.toNat) then 0 else 1
def okB (S:Sr)(u:List Nat)(b:Bd):Bool:=okT u b.av b.an && okT u b.bv b.bn && S.below (vl u b.av b.an) (vl u b.bv b.bn)
def Yu (S:Sr)(u:List Nat)(l:List Bd):Bool:=l.all (okB S u)
theorem Zby {u:List Nat}(hu:La.Fit u){v:Bool}{n:Nat}(hn:n < 18446744073709551616):vl u v n < 18446744073709551616:=by
 cases v with
 |false=>exact hn
 |true=>(
 show u.getD n 0 < _
 by_cases h:n < u.length
 ·rw[List.getD_eq_getElem?_getD,List.getElem?_eq_getElem h]
  exact hu.get n h
 ·rw[List.getD_eq_getElem?_getD,List.getElem?_eq_none (Nat.le_of_not_lt h)]
  exact Nat.zero_lt_succ _)
theorem Uh {α:Type}{p:α→Bool}{l:List α}{i:Nat}(hi:i < l.length)(h:(l.take i).all p=true):(l.take (i+1)).all p=p l[i]:=by
 rw[List.take_succ_eq_append_getElem hi,List.all_append,h]
 simp
theorem U9 {α:Type}{p:α→Bool}{l:List α}{i:Nat}(hi:i < l.length)(h:p l[i]=false):l.all p=false:=by
 refine Bool.eq_false_iff.2 fun e=> ?_
 have:=List.all_eq_true.1 e _ (List.getElem_mem hi)
 rw[h] at this
 cases this
def Qz (p:Bd→Bool)(l:List Bd)(w:World)(v:Value)(wr:World):Prop:= ∃i:Nat,v= .int .i64 (i:Int)∧i≤l.length∧(l.take i).all p=true∧Below w.heap.size w wr
theorem check_any (v:Value)(k:Int)(A:Option Addr)(n c:Nat)(l:List Bd)(S:Sr)(w:World)(x:Int)(hs:VH w v S)(h:Rs bdc 4 w w.heap.size A n c l)(hf: ∀b∈l,b.Fit)(hx:chkS S k l=x):
  Calls Tryz.prog 70 #[v,.int .i64 k,.slice A n c] w fun e w'=>e= .returned (.int .i64 x)∧Below w.heap.size w w':=by
 have hlen:=h.len
 by_cases h0:k < 0
 ·(
 obtain rfl:(3:Int)=x:=by rw[← hx,chkS,if_pos (.inl h0)]
 clear hx hs h hf
 go_enter Tryz.func70,Tryz.ntmps70
 go_wp2
 go_ret
 exact⟨rfl,Below.refl _ _⟩)
 by_cases h1:64 < k
 ·(
 obtain rfl:(3:Int)=x:=by rw[← hx,chkS,if_pos (.inr (.inl h1))]
 clear hx hs h hf
 go_enter Tryz.func70,Tryz.ntmps70
 go_wp2
 go_ret
 exact⟨rfl,Below.refl _ _⟩)
 by_cases h2:256 < n
 ·(
 obtain rfl:(3:Int)=x:=by rw[← hx,chkS,if_pos (.inr (.inr (by rw[hlen];exact h2)))]
 have h2':(256:Int) < (n:Int):=by omega
 clear hx hs h hf h2
 go_enter Tryz.func70,Tryz.ntmps70
 go_wp2
 go_ret
 exact⟨rfl,Below.refl _ _⟩)
 obtain⟨q,rfl⟩: ∃q:Nat,k=(q:Int):=⟨k.toNat,by omega⟩
 have hq:q≤64:=by omega
 have h0': ¬(q:Int) < 0:=by omega
 have h2': ¬(256:Int) < (n:Int):=by omega
 have hx':(if l.all (mayB S q) then(0:Int) else 1)=x:=by rw[← hx,chkS,if_neg (show ¬((q:Int) < 0∨64 < (q:Int)∨256 < l.length) by omega),Int.toNat_natCast]
 have HX:=Hd hx'
 have HF:=Hd hf
 have HQ:=Hd hq
 have HL:=Hd hlen
 have htop:=h.top
 have hcap:=h.cap
 unfold maxLen at htop
 have HR:=Hd h
 have hcall:=Zav v S w hs
 clear hx hx' hf hq hlen h hs h0 h2
 go_enter Tryz.func70,Tryz.ntmps70
 go_wp2_with fail
 refine hcall.mono ?_
 rintro e w1 ⟨v',rfl,hs,rfl⟩
 have HS:=Hd hs
 clear hs hcall
 go_wp2_with fail
 clear h0' h1 h2'
 go_loopw [24] (fun v24 wr=>Qz (mayB S q) l w v24 wr) (fun v24 _=>n - (intOf v24).toNat)
 case atStart=>exact⟨0,rfl,by omega,rfl,Below.refl _ _⟩
 case round=>(
 obtain⟨i,rfl,hi,hall,hb⟩:=hrel
 by_cases hlt:i < n
 ·(
 have hi':i < l.length:=by rw[HL.out];exact hlt
 have hr:=(HR.out.at_size lR hb)
 obtain⟨b,o,rfl,hbb,e0,e1,e2,e3⟩:=Ky hr hi'
 have hu:=HF.out _ (List.getElem_mem hi')
 obtain⟨r1,hr1⟩: ∃r,mayT S q l[i].av l[i].an=r:=⟨_,rfl⟩
 obtain⟨r2,hr2⟩: ∃r,mayT S q l[i].bv l[i].bn=r:=⟨_,rfl⟩
 have HST:Hid ((l.take (i+1)).all (mayB S q)=(r1 && r2)):=Hd (by rw[Uh hi' hall,mayB,hr1,hr2])
 have HNO:Hid ((r1 && r2)=false→l.all (mayB S q)=false):=Hd fun e=>U9 hi' (by rw[mayB,hr1,hr2];exact e)
 generalize l[i]=y at*
 obtain⟨av,an,bv,bn⟩:=y
 simp only at e0 e1 e2 e3 hu hr1 hr2
 have hal:Below wr.heap.size wr (wr.alloc (.cells #[.bool av,.int .u64 (an:Int),.bool bv,.int .u64 (bn:Int)] 69)):=bA
 have hb1:=hb.trans (hal.mono hb.size)
 have hm1:=Qc av an q v' S _ (HS.out.keep hb1) hu.1 HQ.out
 have HM2:Hid (∀W,Below w.heap.size w W→Calls Tryz.prog 115 #[tmv bv bn,v',.int .i64 (q:Int)] W fun e w'=>e= .returned (.bool r2)∧Below W.heap.size W w'):=
  Hd fun W hW=>hr2▸Qc bv bn q v' S W (HS.out.keep hW) hu.2 HQ.out
 rw[hr1] at hm1
 have HM1:=Hd hm1
 have HB1:=Hd hb1
 have hcx:=fun (j:Nat) (hj:j < 4)=>Zb (i:=j) (heap_alloc_new wr (.cells #[.bool av,.int .u64 (an:Int),.bool bv,.int .u64 (bn:Int)] 69))
 have HLT:=Hd hlt
 clear hall hr hu hr1 hr2 hbb hal hb1 hm1 hi'
 unfold tmv at HM1 HM2
 go_wp2_with fail
 refine HM1.out.mono ?_
 rintro e w2 ⟨rfl,hb2⟩
 have g2:=(hb2.cell (p:=⟨wr.heap.size,2,none⟩) (show wr.heap.size < (wr.alloc _).heap.size by simp)).trans (hcx 2 (by decide))
 have g3:=(hb2.cell (p:=⟨wr.heap.size,3,none⟩) (show wr.heap.size < (wr.alloc _).heap.size by simp)).trans (hcx 3 (by decide))
 replace g2:_=some (Value.bool bv):=g2
 replace g3:_=some (Value.int .u64 (bn:Int)):=g3
 have HB2:=Hd (HB1.out.trans (hb2.mono HB1.out.size))
 clear hb2 hcx e0 e1 e2 e3 HM1
 cases r1 with
 |false=>(
 have HN:=Hd (HNO.out rfl)
 clear HNO HST
 go_wp2_with fail
 go_ret
 refine⟨?_,HB2.out⟩
 rw[← HX.out,HN.out]
 rfl)
 |true=>(
 have hm2:=HM2.out _ HB2.out
 go_wp2_with fail
 refine hm2.mono ?_
 rintro e w3 ⟨rfl,hb3⟩
 have HB3:=Hd (HB2.out.trans (hb3.mono HB2.out.size))
 clear hb3 hm2 g2 g3
 cases r2 with
 |false=>(
 have HN:=Hd (HNO.out rfl)
 clear HNO HST
 go_wp2_with fail
 go_ret
 refine⟨?_,HB3.out⟩
 rw[← HX.out,HN.out]
 rfl)
 |true=>(
 clear HNO
 go_wp2_with fail
 go_roundw
 case rel=>exact⟨i+1,by go_num,by have:=HLT.out;have:=HL.out;omega,HST.out,HB3.out⟩
 case measure=>(
 have:=HLT.out
 simp[intOf]
 omega))))
 ·(
 obtain rfl:i=n:=by have:=HL.out;omega
 have HE:Hid ((0:Int)=x):=Hd (by
 rw[List.take_of_length_le (by rw[HL.out];omega)] at hall
 rw[← HX.out,hall]
 rfl)
 clear hall
 go_wp2
 go_ret
 exact⟨by rw[← HE.out];rfl,hb⟩))
theorem Zdh (v:Value)(A2:Option Addr)(m c2:Nat)(u:List Nat)(A:Option Addr)(n c:Nat)(l:List Bd)(S:Sr)(w:World)(x:Bool)(hs:VH w v S)(hr2:Rd La.nm w w.heap.size A2 m c2 u)(hfu:La.Fit u)(h:Rs bdc 4 w w.heap.size A n c l)(hf: ∀b∈l,b.Fit)(hx:Yu S u l=x):
  Calls Tryz.prog 117 #[v,.slice A2 m c2,.slice A n c] w fun e w'=>e= .returned (.bool x)∧Below w.heap.size w w':=by
 have hlen:=h.len
 have HX:=Hd hx
 have HF:=Hd hf
 have HL:=Hd hlen
 have htop:=h.top
 have hcap:=h.cap
 unfold maxLen at htop
 have HR:=Hd h
 have HR2:=Hd hr2
 have HFU:=Hd hfu
 have hcall:=Zav v S w hs
 clear hx hf hlen h hs hr2 hfu
 go_enter Tryz.func117,Tryz.ntmps117
 go_wp2_with fail
 refine hcall.mono ?_
 rintro e w1 ⟨v',rfl,hs,rfl⟩
 have HS:=Hd hs
 clear hcall
 rcases hs with⟨a,rfl,hA⟩|⟨a,rfl,hA⟩|⟨rfl,hA⟩
 all_goals(
 have HA:=Hd hA
 clear hA
 go_wp2_with fail
 go_loopw [17] (fun v17 wr=>Qz (okB S u) l w v17 wr) (fun v17 _=>n - (intOf v17).toNat)
 case atStart=>exact⟨0,rfl,by omega,rfl,Below.refl _ _⟩
 case round=>
  obtain⟨i,rfl,hi,hall,hb⟩:=hrel
  by_cases hlt:i < n
  ·(
 have hi':i < l.length:=by rw[HL.out];exact hlt
 have hr:=(HR.out.at_size lR hb)
 obtain⟨b,o,rfl,hbb,e0,e1,e2,e3⟩:=Ky hr hi'
 have hu:=HF.out _ (List.getElem_mem hi')
 obtain⟨x1,hx1⟩: ∃r,vl u l[i].av l[i].an=r:=⟨_,rfl⟩
 obtain⟨x2,hx2⟩: ∃r,vl u l[i].bv l[i].bn=r:=⟨_,rfl⟩
 obtain⟨y1,hy1⟩: ∃r,okT u l[i].av l[i].an=r:=⟨_,rfl⟩
 obtain⟨y2,hy2⟩: ∃r,okT u l[i].bv l[i].bn=r:=⟨_,rfl⟩
 obtain⟨z,hz⟩: ∃r,S.below x1 x2=r:=⟨_,rfl⟩
 have HST:Hid ((l.take (i+1)).all (okB S u)=(y1 && y2 && z)):=Hd (by rw[Uh hi' hall,okB,hx1,hx2,hy1,hy2,hz])
 have HNO:Hid ((y1 && y2 && z)=false→Yu S u l=false):=Hd fun e=>U9 hi' (by rw[okB,hx1,hx2,hy1,hy2,hz];exact e)
 generalize l[i]=y at*
 obtain⟨av,an,bv,bn⟩:=y
 simp only at e0 e1 e2 e3 hu hx1 hx2 hy1 hy2
 have hx1f:x1 < 18446744073709551616:=hx1▸Zby HFU.out hu.1
 have hx2f:x2 < 18446744073709551616:=hx2▸Zby HFU.out hu.2
 have hal:Below wr.heap.size wr (wr.alloc (.cells #[.bool av,.int .u64 (an:Int),.bool bv,.int .u64 (bn:Int)] 69)):=bA
 have hb1:=hb.trans (hal.mono hb.size)
 have HM:Hid (∀W,Below w.heap.size w W→Calls Tryz.prog 145 #[tmv av an,.slice A2 m c2] W fun e w'=>e= .returned (.tuple #[.int .u64 (x1:Int),.bool y1])∧Below W.heap.size W w'):=
  Hd fun W hW=>Qy av an A2 m c2 W.heap.size u W (HR2.out.at_size lR hW) lR hu.1 x1 y1 hx1 hy1
 have HM2:Hid (∀W,Below w.heap.size w W→Calls Tryz.prog 145 #[tmv bv bn,.slice A2 m c2] W fun e w'=>e= .returned (.tuple #[.int .u64 (x2:Int),.bool y2])∧Below W.heap.size W w'):=
  Hd fun W hW=>Qy bv bn A2 m c2 W.heap.size u W (HR2.out.at_size lR hW) lR hu.2 x2 y2 hx2 hy2
 have HM3:=Hd fun W hW=>hz▸HA.out.below W hW x1 x2 hx1f hx2f
 have hm1:=HM.out _ hb1
 have HM1:=Hd hm1
 have HB1:=Hd hb1
 have hcx:=fun (j:Nat) (hj:j < 4)=>Zb (i:=j) (heap_alloc_new wr (.cells #[.bool av,.int .u64 (an:Int),.bool bv,.int .u64 (bn:Int)] 69))
 have HLT:=Hd hlt
 clear hall hr hu hx1 hx2 hy1 hy2 hz hx1f hx2f hbb hal hb1 hm1 hi' HM
 unfold tmv at HM1 HM2
 go_wp2_with fail
 refine HM1.out.mono ?_
 rintro e w2 ⟨rfl,hb2⟩
 have g2:=(hb2.cell (p:=⟨wr.heap.size,2,none⟩) (show wr.heap.size < (wr.alloc _).heap.size by simp)).trans (hcx 2 (by decide))
 have g3:=(hb2.cell (p:=⟨wr.heap.size,3,none⟩) (show wr.heap.size < (wr.alloc _).heap.size by simp)).trans (hcx 3 (by decide))
 replace g2:_=some (Value.bool bv):=g2
 replace g3:_=some (Value.int .u64 (bn:Int)):=g3
 have HB2:=Hd (HB1.out.trans (hb2.mono HB1.out.size))
 clear hb2 hcx e0 e1 e2 e3 HM1
 have hm2:=HM2.out _ HB2.out
 go_wp2_with fail
 refine hm2.mono ?_
 rintro e w3 ⟨rfl,hb3⟩
 have HB3:=Hd (HB2.out.trans (hb3.mono HB2.out.size))
 clear hb3 hm2 g2 g3 HM2
 cases y1 with
 |false=>(
 have HN:=Hd (HNO.out rfl)
 clear HNO HST
 go_wp2_with fail
 go_ret
 refine⟨?_,HB3.out⟩
 rw[← HX.out,HN.out]
 rfl)
 |true=>(
 cases y2 with
 |false=>(
 have HN:=Hd (HNO.out rfl)
 clear HNO HST
 go_wp2_with fail
 go_ret
 refine⟨?_,HB3.out⟩
 rw[← HX.out,HN.out]
 rfl)
 |true=>(
 have hm3:=HM3.out _ HB3.out
 go_wp2_with fail
 refine hm3.mono ?_
 rintro e w4 ⟨rfl,hb4⟩
 have HB4:=Hd (HB3.out.trans (hb4.mono HB3.out.size))
 clear hb4 hm3 HM3
 cases z with
 |false=>(
 have HN:=Hd (HNO.out rfl)
 clear HNO HST
 go_wp2_with fail
 go_ret
 refine⟨?_,HB4.out⟩
 rw[← HX.out,HN.out]
 rfl)
 |true=>(
 clear HNO
 go_wp2_with fail
 go_roundw
 case rel=>exact⟨i+1,by go_num,by have:=HLT.out;have:=HL.out;omega,HST.out,HB4.out⟩
 case measure=>(
 have:=HLT.out
 simp[intOf]
 omega)))))
  ·obtain rfl:i=n:=by have:=HL.out;omega
   have HE:Hid (true=x):=Hd (by
 rw[List.take_of_length_le (by rw[HL.out];omega)] at hall
 rw[← HX.out,Yu,hall])
   clear hall
   go_wp2
   go_ret
   exact⟨by rw[← HE.out];rfl,hb⟩)
end Go.Proofs.YtmejhedegmjboaaGreat.Bo
namespace Go.Proofs.YtmejhedegmjboaaGreat.Re
open Go.Proofs.YtmejhedegmjboaaGreat.Bo (Bd bdc Zr Ky tmv wrap_small Qz Uh U9)
open La (bt stepW)
def mayV (n:Nat)(v:Bool)(k:Nat):Bool:= !v||decide (k < n)
def mayB (n:Nat)(b:Bd):Bool:=mayV n b.av b.an && mayV n b.bv b.bn
def ofE (k:Int)(l:List Bd):Int:=if k < 0∨64 < k∨256 < l.length then 3 else if l.all (mayB k.toNat) then 0 else 1
def Edge (l:List Bd)(i j:Nat):Prop:= ∃b∈l,b.av=true∧b.bv=true∧b.an=i∧b.bn=j
def idK (k:Nat):List Nat:=(List.range 64).map fun i=>if i < k then 2 ^ i else 0
theorem YA (k:Nat):(idK k).length=64:=by simp[idK]
theorem ZjF {k:Nat}:(idK k).set k (2 ^ k)=idK (k+1):=by
 apply List.ext_getElem (by simp[idK])
 intro x h1 h2
 by_cases e:x=k
 ·subst e
  rw[List.getElem_set_self]
  simp[idK]
 ·have:(x < k+1)=(x < k):=propext ⟨fun h=>by omega,fun h=>by omega⟩
  rw[List.getElem_set_ne (by omega)]
  simp[idK,this]
theorem ZiV (n:Nat): ∀x∈idK n,x < 2 ^ 64:=by
 intro x hx
 obtain⟨i,hi,rfl⟩:=List.mem_map.1 hx
 have hi:=List.mem_range.1 hi
 split
 ·exact Nat.pow_lt_pow_right (by decide) hi
 ·exact Nat.two_pow_pos 64
def putB (t:List Nat)(b:Bd):List Nat:=cond (b.av && b.bv) (t.set b.an (t.getD b.an 0|||2 ^ b.bn)) t
def dirN (n:Nat)(l:List Bd):List Nat:=l.foldl putB (idK n)
theorem ZeP {n k:Nat}(h:mayV n true k=true):k < n:=by simpa [mayV] using h
theorem KR {n:Nat}{b:Bd}(h:mayB n b=true)(ha:b.av=true)(hb:b.bv=true):b.an < n∧b.bn < n:=by
 rw[mayB,Bool.and_eq_true,ha,hb] at h
 exact⟨ZeP h.1,ZeP h.2⟩
theorem Zhd (t:List Nat)(b:Bd):(putB t b).length=t.length:=by
 unfold putB
 cases b.av && b.bv <;> simp
theorem ZjG {n:Nat}(hn:n≤64){t:List Nat}{b:Bd}(hm:mayB n b=true)(ht:t.length=64)(h: ∀x∈t,x < 2 ^ 64): ∀x∈putB t b,x < 2 ^ 64:=by
 unfold putB
 cases ha:b.av with
 |false=>simpa using h
 |true=>(
 cases hb:b.bv with
 |false=>simpa using h
 |true=>(
 obtain⟨h1,h2⟩:=KR hm ha hb
 intro x hx
 rcases List.mem_or_eq_of_mem_set hx with hx|rfl
 ·exact h x hx
 ·exact Nat.or_lt_two_pow (h _ (La.getD_mem (by omega))) (Nat.pow_lt_pow_right (by decide) (by omega))))
theorem ZjH {n:Nat}(hn:n≤64){t:List Nat}{b:Bd}(hm:mayB n b=true)(ht:t.length=64)(i j:Nat):bt (putB t b) i j=true↔bt t i j=true∨(b.av=true∧b.bv=true∧b.an=i∧b.bn=j):=by
 unfold putB
 cases ha:b.av with
 |false=>simp
 |true=>(
 cases hb:b.bv with
 |false=>simp
 |true=>(
 obtain⟨h1,h2⟩:=KR hm ha hb
 rw[Bool.true_and,cond_true,La.Zlu (by omega)]
 by_cases e:i=b.an
 ·subst e
  rw[if_pos rfl,Nat.testBit_or,Nat.testBit_two_pow,Bool.or_eq_true,decide_eq_true_iff]
  simp[bt]
 ·have: ¬b.an=i:=fun h=>e h.symm
  rw[if_neg e]
  simp[this]))
theorem YB {n:Nat}(hn:n≤64): ∀(l:List Bd) (t:List Nat),t.length=64→(∀x∈t,x < 2 ^ 64)→(∀b∈l,mayB n b=true)→
  (l.foldl putB t).length=64∧(∀x∈l.foldl putB t,x < 2 ^ 64)∧ ∀i j,bt (l.foldl putB t) i j=true↔bt t i j=true∨Edge l i j
 | [],t,h1,h2,_=>⟨h1,h2,fun i j=>⟨.inl,fun h=>h.elim id fun ⟨b,hb,_⟩=>by cases hb⟩⟩
 |b::l,t,h1,h2,h3=>by(
 have hm:=h3 b (List.mem_cons_self ..)
 obtain⟨g1,g2,g3⟩:=YB hn l (putB t b) (by rw[Zhd];exact h1) (ZjG hn hm h1 h2) fun c hc=>h3 c (List.mem_cons_of_mem _ hc)
 refine⟨g1,g2,fun i j=> ?_⟩
 rw[List.foldl_cons,g3,ZjH hn hm h1,or_assoc]
 refine or_congr Iff.rfl ?_
 unfold Edge
 simp only[List.mem_cons,exists_eq_or_imp])
def thrN (n:Nat)(t:List Nat):Nat→List Nat
 |0=>t
 |k+1=>stepW (thrN n t k) k n
def rchN (n:Nat)(l:List Bd):List Nat:=thrN n (dirN n l) n
section
variable {n:Nat} {l:List Bd} (hn:n≤64) (hm: ∀b∈l,mayB n b=true)
include hn hm
theorem ZbK:(dirN n l).length=64:=(YB hn l _ (YA n) (ZiV n) hm).1
theorem ZiW: ∀x∈dirN n l,x < 2 ^ 64:=(YB hn l _ (YA n) (ZiV n) hm).2.1
end
theorem Zls {q:Nat}{l:List Bd}(h1:q≤64)(h2:l.length≤256)(h3: ∀b∈l,mayB q b=true):ofE (q:Int) l=0:=by
 unfold ofE
 rw[if_neg (by omega),Int.toNat_natCast,if_pos (List.all_eq_true.2 h3)]
end Go.Proofs.YtmejhedegmjboaaGreat.Re
