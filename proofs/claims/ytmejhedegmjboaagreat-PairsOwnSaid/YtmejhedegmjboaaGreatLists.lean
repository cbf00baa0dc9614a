/- Lists of bools as they read, wherever they lie; what is solved of a sort, and its least, greatest and below. Condition: what comes in can be read. -/
import Derived.Test.YtmejhedegmjboaaGreatBoSlv
import Derived.Test.YtmejhedegmjboaaGreatGrd
import Derived.Test.YtmejhedegmjboaaGreatRange
import Derived.Test.YtmejhedegmjboaaGreatReOf
import Derived.Test.YtmejhedegmjboaaGreatSen
namespace Go.Proofs.YtmejhedegmjboaaGreat
open Go.RowKit
def slc (h:Option Addr×Nat×Nat):Value:= .slice h.1 h.2.1 h.2.2
structure BRows (w:World)(B:Nat)(A:Option Addr)(n c:Nat)(l:List (List Bool)):Prop where
 hd: ∃hs:List (Option Addr×Nat×Nat),Rd slc w B A n c hs∧hs.length=l.length∧ ∀i (h:i < hs.length) (h':i < l.length),Rd Value.bool w B hs[i].1 hs[i].2.1 hs[i].2.2 l[i]
theorem BRows.nil (w:World)(B:Nat):BRows w B none 0 0 []:=⟨[],Rd.nil _ _,rfl,fun i h=>absurd h (Nat.not_lt_zero i)⟩
theorem BRows.keep {w w':World}{B:Nat}{A:Option Addr}{n c:Nat}{l:List (List Bool)}(h:BRows w B A n c l)(hk: ∀k,k < B→w'.heap[k]?=w.heap[k]?):BRows w' B A n c l:=by
 obtain⟨hs,h1,h2,h3⟩:=h.hd
 exact⟨hs,h1.keep hk,h2,fun i a b=>(h3 i a b).keep hk⟩
theorem BRows.mono {w:World}{B B':Nat}{A:Option Addr}{n c:Nat}{l:List (List Bool)}(h:BRows w B A n c l)(hB:B≤B'):BRows w B' A n c l:=by
 obtain⟨hs,h1,h2,h3⟩:=h.hd
 exact⟨hs,h1.mono hB,h2,fun i a b=>(h3 i a b).mono hB⟩
theorem BRows.at_size {w w':World}{B:Nat}{A:Option Addr}{n c:Nat}{l:List (List Bool)}(h:BRows w B A n c l)(hB:B≤w.heap.size)(hb:Below w.heap.size w w'):BRows w' w'.heap.size A n c l:=
 (h.keep fun k hk=>hb.block k (by omega)).mono (Nat.le_trans hB hb.size)
theorem BRows.len {w:World}{B:Nat}{A:Option Addr}{n c:Nat}{l:List (List Bool)}(h:BRows w B A n c l):l.length=n:=by
 obtain⟨hs,h1,h2,_⟩:=h.hd
 rw[← h2]
 exact h1.len
theorem BRows.top {w:World}{B:Nat}{A:Option Addr}{n c:Nat}{l:List (List Bool)}(h:BRows w B A n c l):n≤c∧c≤maxLen:=by
 obtain⟨hs,h1,h2,_⟩:=h.hd
 exact⟨h1.cap,h1.top⟩
theorem BRows.row {w:World}{B:Nat}{A:Option Addr}{n c:Nat}{l:List (List Bool)}(h:BRows w B A n c l){i:Nat}(hi:i < l.length):
  ∃b o A' n' c',A=some ⟨b,o,none⟩∧b < B∧w.cell? ⟨b,o+i,none⟩=some (.slice A' n' c')∧Rd Value.bool w B A' n' c' l[i]:=by
 obtain⟨hs,h1,h2,h3⟩:=h.hd
 obtain⟨b,o,e,hb,hc⟩:=h1.spot (by have:=h1.len;omega)
 exact⟨b,o,_,_,_,e,hb,hc i (by omega),h3 i (by omega) hi⟩
theorem BRows.at' {w:World}{B:Nat}{A:Option Addr}{n c:Nat}{l:List (List Bool)}(h:BRows w B A n c l){i:Nat}(hi:i < l.length){j:Nat}(hj:j < l[i].length):
  ∃b o b' o' c',A=some ⟨b,o,none⟩∧b < B∧w.cell? ⟨b,o+i,none⟩=some (.slice (some ⟨b',o',none⟩) l[i].length c')∧b' < B∧w.cell? ⟨b',o'+j,none⟩=some (.bool l[i][j]):=by
 obtain⟨b,o,A',n',c',e,hb,hc,hr⟩:=h.row hi
 have hl:=hr.len
 obtain⟨b',o',rfl,hb',hc'⟩:=hr.spot (by omega)
 exact⟨b,o,b',o',c',e,hb,by rw[hl];exact hc,hb',hc' j hj⟩
def sqL (n:Nat)(P:Nat→Nat→Bool):List (List Bool):=(List.range n).map fun i=>(List.range n).map (P i)
theorem sqL_len {n:Nat}{P:Nat→Nat→Bool}:(sqL n P).length=n:=by simp[sqL]
theorem sqL_row {n:Nat}{P:Nat→Nat→Bool}{i:Nat}(h:i < (sqL n P).length):(sqL n P)[i]=(List.range n).map (P i):=by simp[sqL]
theorem rows_sqr {w:World}{base g n:Nat}{gs:Nat→Nat}{P:Nat→Nat→Bool}(h:Re.Sqr w base g n gs P)(hn:n≤64):BRows w w.heap.size (some ⟨g,0,none⟩) n n (sqL n P):=by
 refine⟨(List.range n).map fun i=>(some ⟨gs i,0,none⟩,n,n),?_,by simp[sqL],fun i h1 h2=> ?_⟩
 ·refine⟨by simp,Nat.le_refl _,by unfold maxLen;omega,(fun e=>by cases e),fun h0=>⟨g,0,rfl,lt_blk h.blk,fun j hj=> ?_⟩⟩
  have hj':j < n:=by simpa using hj
  rw[Nat.zero_add,cell_blk h.blk,Re.hdr_at hj' hj']
  simp[slc]
 ·have hi:i < n:=by simpa using h1
  have hb:=h.rows i hi
  simp only[List.getElem_map,List.getElem_range,sqL_row]
  refine⟨by simp,Nat.le_refl _,by unfold maxLen;omega,(fun e=>by cases e),fun h0=>⟨gs i,0,rfl,lt_blk hb,fun j hj=> ?_⟩⟩
  have hj':j < n:=by simpa using hj
  rw[Nat.zero_add,cell_blk hb,Re.bls_at hj']
  simp[hj']
def Srt3 (w:World)(v:Value)(S:Bo.Sr):Prop:=(∃a,v= .iface 74 (.pointer a)∧Bo.Ans w 192 190 193 194 191 195 (.pointer a) S)∨(∃a,v= .iface 77 (.pointer a)∧Bo.Ans w 203 201 204 205 202 206 (.pointer a) S)
theorem Srt3.keep {w W:World}{v:Value}{S:Bo.Sr}(h:Srt3 w v S)(hb:Below w.heap.size w W):Srt3 W v S:=by
 rcases h with⟨a,e,h⟩|⟨a,e,h⟩
 ·exact .inl ⟨a,e,h.keep hb⟩
 ·exact .inr ⟨a,e,h.keep hb⟩
theorem Srt3.into {w:World}{v:Value}{S:Bo.Sr}(h:Srt3 w v S):Bo.SrtIn w v S:=by
 rcases h with⟨a,e,h⟩|⟨a,e,h⟩
 ·exact .inr (.inl ⟨a,e,h⟩)
 ·exact .inr (.inr (.inl ⟨a,e,h⟩))
def slvV (v:Value)(A1:Option Addr)(n1 c1:Nat)(A2:Option Addr)(n2 c2:Nat)(A3:Option Addr)(n3 c3:Nat):Value:= .agg #[v,.slice A1 n1 c1,.slice A2 n2 c2,.slice A3 n3 c3]
structure SlvAt (w:World)(S:Bo.Sr)(q:Nat)(lo hi:List Nat)(rc:Nat→Nat→Bool)(v:Value)(A1:Option Addr)(n1 c1:Nat)(A2:Option Addr)(n2 c2:Nat)(A3:Option Addr)(n3 c3:Nat):Prop where
 s:Srt3 w v S
 rlo:Rd La.nm w w.heap.size A1 n1 c1 lo
 rhi:Rd La.nm w w.heap.size A2 n2 c2 hi
 rrc:BRows w w.heap.size A3 n3 c3 (sqL q rc)
 ll:lo.length=q
 hl:hi.length=q
 lf:La.Fit lo
 hf:La.Fit hi
theorem SlvAt.keep {w W:World}{S:Bo.Sr}{q:Nat}{lo hi:List Nat}{rc:Nat→Nat→Bool}{v:Value}{A1:Option Addr}{n1 c1:Nat}{A2:Option Addr}{n2 c2:Nat}{A3:Option Addr}{n3 c3:Nat}(h:SlvAt w S q lo hi rc v A1 n1 c1 A2 n2 c2 A3 n3 c3)(hb:Below w.heap.size w W):SlvAt W S q lo hi rc v A1 n1 c1 A2 n2 c2 A3 n3 c3:=
 ⟨h.s.keep hb,h.rlo.at_size (Nat.le_refl _) hb,h.rhi.at_size (Nat.le_refl _) hb,h.rrc.at_size (Nat.le_refl _) hb,h.ll,h.hl,h.lf,h.hf⟩
set_option maxRecDepth 100000 in
set_option maxHeartbeats 1000000 in
theorem end_any (b:Bool)(n:Nat)(A:Option Addr)(m c B:Nat)(u:List Nat)(w:World)(h:Rd La.nm w B A m c u)(hB:B≤w.heap.size)(hok:b=true→n < u.length)(x:Nat)(hx:Bo.vl u b n=x):
  Calls Tryz.prog 125 #[Bo.tmv b n,.slice A m c] w fun e w'=>e= .returned (.int .u64 (x:Int))∧Below w.heap.size w w':=by
 have hal:Below w.heap.size w (w.alloc (.cells #[.bool b,.int .u64 (n:Int)] 62)):=(Below.refl _ _).alloc (Nat.le_refl _) _
 have hlen:=h.len
 unfold Bo.tmv
 subst hx
 cases b with
 |false=>
  simp only[Bo.vl,cond_false]
  clear h hok
  go_enter Tryz.func125,Tryz.ntmps125
  go_wp2
  go_ret
  exact⟨rfl,hal⟩
 |true=>
  simp only[Bo.vl,cond_true]
  have hlt:=hok rfl
  have e:u.getD n 0=u[n]:=by simp[hlt]
  rw[e]
  obtain⟨b,o,rfl,hb,hc'⟩:=h.spot (by omega)
  have hc:=hc' n hlt
  clear hc'
  have hc1:=(hal.cell (p:=⟨b,o+n,none⟩) (show b < _ by omega)).trans hc
  replace hc1:_=some (Value.int .u64 (u[n]:Int)):=hc1
  have hlt':n < m:=by omega
  clear h hc e hok
  generalize u[n]=q at*
  clear hlt hlen
  go_enter Tryz.func125,Tryz.ntmps125
  go_wp2
  go_ret
  exact⟨rfl,hal⟩
def okT (q:Nat)(b:Bool)(n:Nat):Prop:=b=true→n < q
set_option maxRecDepth 100000 in
set_option maxHeartbeats 1000000 in
theorem least_any (b:Bool)(n:Nat)(S:Bo.Sr)(q:Nat)(lo hi:List Nat)(rc:Nat→Nat→Bool)(v:Value)(A1:Option Addr)(n1 c1:Nat)(A2:Option Addr)(n2 c2:Nat)(A3:Option Addr)(n3 c3:Nat)(w:World)(h:SlvAt w S q lo hi rc v A1 n1 c1 A2 n2 c2 A3 n3 c3)(hok:okT q b n)(x:Nat)(hx:Bo.vl lo b n=x):
  Calls Tryz.prog 81 #[slvV v A1 n1 c1 A2 n2 c2 A3 n3 c3,Bo.tmv b n] w fun e w'=>e= .returned (.int .u64 (x:Int))∧Below w.heap.size w w':=by
 have hal:Below w.heap.size w ((w.alloc (.cells #[v,.slice A1 n1 c1,.slice A2 n2 c2,.slice A3 n3 c3] 100)).alloc (.cells #[.bool b,.int .u64 (n:Int)] 62)):=((Below.refl _ _).alloc (Nat.le_refl _) _).alloc (by simp) _
 have hc:=end_any b n A1 n1 c1 w.heap.size lo ((w.alloc (.cells #[v,.slice A1 n1 c1,.slice A2 n2 c2,.slice A3 n3 c3] 100)).alloc (.cells #[.bool b,.int .u64 (n:Int)] 62)) (h.rlo.below hal) (by simp;omega) (by rw[h.ll];exact hok) x hx
 have hs:=h.s
 unfold slvV
 clear h hok hx
 unfold Bo.tmv at hc ⊢
 rcases hs with⟨a,rfl,-⟩|⟨a,rfl,-⟩
 all_goals(
  go_enter Tryz.func81,Tryz.ntmps81
  go_wp2_with fail
  refine hc.mono ?_
  rintro e w1 ⟨rfl,hb⟩
  go_wp2_with fail
  go_ret
  exact⟨rfl,hal.trans (hb.mono hal.size)⟩)
set_option maxRecDepth 100000 in
set_option maxHeartbeats 1000000 in
theorem greatest_any (b:Bool)(n:Nat)(S:Bo.Sr)(q:Nat)(lo hi:List Nat)(rc:Nat→Nat→Bool)(v:Value)(A1:Option Addr)(n1 c1:Nat)(A2:Option Addr)(n2 c2:Nat)(A3:Option Addr)(n3 c3:Nat)(w:World)(h:SlvAt w S q lo hi rc v A1 n1 c1 A2 n2 c2 A3 n3 c3)(hok:okT q b n)(x:Nat)(hx:Bo.vl hi b n=x):
  Calls Tryz.prog 82 #[slvV v A1 n1 c1 A2 n2 c2 A3 n3 c3,Bo.tmv b n] w fun e w'=>e= .returned (.int .u64 (x:Int))∧Below w.heap.size w w':=by
 have hal:Below w.heap.size w ((w.alloc (.cells #[v,.slice A1 n1 c1,.slice A2 n2 c2,.slice A3 n3 c3] 100)).alloc (.cells #[.bool b,.int .u64 (n:Int)] 62)):=((Below.refl _ _).alloc (Nat.le_refl _) _).alloc (by simp) _
 have hc:=end_any b n A2 n2 c2 w.heap.size hi ((w.alloc (.cells #[v,.slice A1 n1 c1,.slice A2 n2 c2,.slice A3 n3 c3] 100)).alloc (.cells #[.bool b,.int .u64 (n:Int)] 62)) (h.rhi.below hal) (by simp;omega) (by rw[h.hl];exact hok) x hx
 have hs:=h.s
 unfold slvV
 clear h hok hx
 unfold Bo.tmv at hc ⊢
 rcases hs with⟨a,rfl,-⟩|⟨a,rfl,-⟩
 all_goals(
  go_enter Tryz.func82,Tryz.ntmps82
  go_wp2_with fail
  refine hc.mono ?_
  rintro e w1 ⟨rfl,hb⟩
  go_wp2_with fail
  go_ret
  exact⟨rfl,hal.trans (hb.mono hal.size)⟩)
end Go.Proofs.YtmejhedegmjboaaGreat
