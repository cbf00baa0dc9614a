import Derived.Test.YtmejhedegmjboaaGreatNdMay
import Derived.Test.YtmejhedegmjboaaGreatRepS
set_option maxRecDepth 100000
set_option maxHeartbeats 2000000
namespace Go.Proofs.YtmejhedegmjboaaGreat
open Go.RowKit
def ic (x:Nat):Value:= .int .i64 (x:Int)
theorem Zl1 (x:Nat):(ic x).oneCell'=true:=rfl
theorem Kq {P:Program}(t s ty e:TypeId)(ht:P.underlying t=some (.slice e))(hs:P.underlying s=some (.slice e))(v x:Value)(w:World):
  (Builtin.append_ #[t,s] ty #[v,x]).run P w=(Builtin.append_ #[t,t] ty #[v,x]).run P w:=by
 cases v <;> simp[Builtin.append_,run_underlying ht,run_underlying hs]
structure OpenAt (w:World)(g base:Nat)(v:Value)(st:List Nat):Prop where
 blk:w.heap[g]?=some (.cells #[v] 214 (0,0))
 own:w.ownsRow base 3 1 v st.length (st.reverse.map ic)
 ne:v.ownBlock≠some g
theorem OpenAt.kept {w w':World}{g base sz n:Nat}{e:TypeId}{v v':Value}{st:List Nat}{xs:List Value}(h:OpenAt w g base v st)(k:Appended w w' base e sz v v' n xs):
  w'.heap[g]?=some (.cells #[v] 214 (0,0))∧w'.cell? ⟨g,0,none⟩=some v∧w'.frozen? ⟨g,0,none⟩=false:=by
 have hb:=(k.grown.block g (Zh h.blk) (fun e=>h.ne e.symm)).trans h.blk
 exact⟨hb,by rw[Zb hb];rfl,Zc hb⟩
theorem Uo {w:World}{ops:Array Oper}{rest:List Oper}{o:Oper}{a:Act}{Q:Exit→Act→World→Prop}(hgd:o.guard=none)(s x:Operand)(t u:TypeId)
  (ho:o.op= .call {callee:= .builtin .append,args:= #[s,x],argTypes:= #[t,u]}) (ht:Tryz.prog.underlying t=some (.slice 3)) (hu:Tryz.prog.underlying u=some (.slice 3))
  (base:Nat) (v:Value) (n:Nat) (vs:List Nat) (hs:a.eval s=v) (hown:w.ownsRow base 3 1 v n (vs.map ic)) (B:Nat) (A:Option Addr) (m c:Nat) (ms:List Nat) (hx:a.eval x= .slice A m c) (hr:Rd ic w B A m c ms)
  (hsm:n+m≤100000) (hbase:base≤w.heap.size)
  (h: ∀A' c' w',Hid (Appended w w' base 3 1 v (.slice A' (n+m) c') (n+m) ((vs++ms).map ic))→wpList Tryz.prog ops Q rest (a.put o.dst (.slice A' (n+m) c')) w'):wpList Tryz.prog ops Q (o::rest) a w:=by
 obtain⟨i0,hi0,hz0,hz1,hz2⟩:=info_parts YM
 have key: ∃v' w',(Builtin.append_ #[t,u] o.type #[v,.slice A m c]).run Tryz.prog w= .ok v' w'∧Appended w w' base 3 1 v v' (n+m) ((vs++ms).map ic):=by(
 rcases A with _|ad
 ·(
 have hc0:=hr.none0 rfl
 have hm0:m=0:=by have:=hr.cap;omega
 subst hc0
 subst hm0
 have hms:ms= []:=List.eq_nil_of_length_eq_zero hr.len
 subst hms
 refine⟨v,w,?_,⟨by simpa using hown,⟨rfl,rfl,rfl,Nat.le_refl _,fun _ _ _=>rfl⟩,.inl rfl⟩⟩
 rw[Kq t u _ 3 ht hu]
 exact run_append_owned_none (P:=Tryz.prog) w base t o.type 3 i0 1 ht hi0 v n _ hown)
 ·have hcells: ∀j y,(ms.map ic)[j]?=some y→w.cell? (ad.add j)=some y:=by
   rcases Nat.eq_zero_or_pos m with h0|h0
   ·(
 have hms:ms= []:=List.eq_nil_of_length_eq_zero (by rw[hr.len,h0])
 subst hms
 intro j u hu
 simp at hu)
   ·(
 obtain⟨b,q,hA,_,hc⟩:=hr.spot h0
 injection hA with hA
 subst hA
 exact Rd.cells hc)
  have:=Vk (P:=Tryz.prog) w base t u o.type 3 i0 _ 1 8 ht hi0 hz0 hz1 hz2 rfl (by decide) v n _ hown ad m c (ms.map ic) (by rw[List.length_map,hr.len,Nat.mul_one]) hcells (Zb5 Zl1 ms) (by unfold maxLen;omega) (by omega) hbase (Kq t u _ 3 ht hu _ _ _)
  rw[← List.map_append] at this
  exact this)
 obtain⟨v',w',hrun,h2⟩:=key
 obtain⟨A',c',rfl⟩:=ZJ h2.own
 refine wpList_plain hgd fun K hK=> ?_
 unfold Oper.wp execOp
 simp only[ho,resolve,invoke,builtin,Sem.run_bind,Sem.run_pure,Result.andThen_ok,List.map_toArray,List.map_cons,List.map_nil,hs,hx,hrun]
 exact hK _ _ (h A' c' w' h2)
theorem Zdc (g base:Nat)(v:Value)(st:List Nat)(A:Option Addr)(m c:Nat)(ds:List Nat)(w:World)(h:OpenAt w g base v st)(hr:Rd ic w w.heap.size A m c ds)(hsm:st.length+m≤100000)(hbase:base≤w.heap.size):
  Calls Tryz.prog 135 #[.pointer (some ⟨g,0,none⟩),.slice A m c] w fun e w'=>e= .returned (.tuple #[])∧ ∃v',OpenAt w' g base v' (ds.reverse++st)∧Kept (fun b=>b=g∨v.ownBlock=some b) w w'∧(∀q,q < w.heap.size→v.ownBlock≠some q→v'.ownBlock≠some q):=by
 have hlen:=hr.len
 have hcell:w.cell? ⟨g,0,none⟩=some v:=by rw[Zb h.blk];rfl
 have hfr:w.frozen? ⟨g,0,none⟩=false:=Zc h.blk
 obtain⟨n,hn⟩: ∃n,n=st.length:=⟨_,rfl⟩
 have hown:w.ownsRow base 3 1 v n (st.reverse.map ic):=by rw[hn];exact h.own
 have HN:=Hd hn
 rw[← hn] at hsm
 clear hn
 obtain⟨A0,c0,rfl⟩:=ZJ hown
 go_enter Tryz.func135,Tryz.ntmps135
 have hglt:=Zh h.blk
 have hne:=h.ne
 go_wp2_with (refine Uo rfl (.tmp 7) (.tmp 8) 214 82 rfl Tryz.underlying214 Tryz.underlying82 base _ n _ rfl hown w.heap.size A m c ds rfl hr hsm hbase ?_;intro A' c' w1 HA;obtain⟨hb1,hc1,hf1⟩:=h.kept HA.out)
 go_end0
 have hg1:=HA.out.grown
 refine⟨rfl,_,⟨?_,?_,?_⟩,?_,fun q hq hv=>HA.out.apart hq hv⟩
 ·rw[Zm hb1];rfl
 ·(
 have h2:=HA.out.own
 have e:(st.reverse++ds)=(ds.reverse++st).reverse:=by simp
 rw[e] at h2
 have e2:n+m=(ds.reverse++st).length:=by rw[HN.out,List.length_append,List.length_reverse,hlen,Nat.add_comm]
 rw[← e2]
 refine⟨h2.1,?_⟩
 rcases h2.2 with hh|⟨q,cap,cur,hv,hb,hq,r⟩
 ·exact .inl hh
 ·(
 refine .inr ⟨q,cap,cur,hv,hb,?_,r⟩
 have hqg:q≠g:=by
  rintro rfl
  exact HA.out.apart hglt hne (by rw[hv];rfl)
 rw[Below.heap_setCell _ _ _ _ hqg]
 exact hq))
 ·exact HA.out.apart hglt hne
 ·have hk:Kept (fun b=>b=g∨(Value.slice A0 n c0).ownBlock=some b) w w1:=⟨hg1.os,hg1.tape,hg1.output,hg1.size,fun b hb hn=>hg1.block b hb fun e=>hn (.inr e.symm)⟩
  exact hk.setCell (.inl (.inl rfl)) _
theorem Zf4 (g base:Nat)(v:Value)(w:World)(h:OpenAt w g base v []):
  Calls Tryz.prog 136 #[.pointer (some ⟨g,0,none⟩)] w fun e w'=>e= .returned (.tuple #[.int .i64 0,.bool false])∧w=w':=by
 have hcell:w.cell? ⟨g,0,none⟩=some v:=by rw[Zb h.blk];rfl
 obtain⟨A0,c0,rfl⟩:=ZJ h.own
 go_enter Tryz.func136,Tryz.ntmps136
 go_wp2
 exact bodyPost_ret (v:= .tuple #[.int .i64 0,.bool false]) (by simp[results,Tryz.results136,go_sem]) rfl ⟨rfl,rfl⟩
theorem Zf5 (g base:Nat)(v:Value)(d:Nat)(st:List Nat)(w:World)(h:OpenAt w g base v (d::st)):
  Calls Tryz.prog 136 #[.pointer (some ⟨g,0,none⟩)] w fun e w'=> ∃v',e= .returned (.tuple #[ic d,.bool true])∧OpenAt w' g base v' st∧Kept (fun b=>b=g) w w'∧v'.ownBlock=v.ownBlock:=by
 have hcell:w.cell? ⟨g,0,none⟩=some v:=by rw[Zb h.blk];rfl
 have hfr:w.frozen? ⟨g,0,none⟩=false:=Zc h.blk
 have hne:=h.ne
 obtain⟨n,hn⟩: ∃n,n=st.length:=⟨_,rfl⟩
 have hown:=h.own
 rw[List.length_cons, ← hn,List.reverse_cons,List.map_append] at hown
 rcases hown.2 with⟨_,hbad⟩|⟨q,cap,cur,rfl,hqb,hq,hnc,hcm,hcs,htake⟩
 ·omega
 have hlast:w.cell? ⟨q,n,none⟩=some (ic d):=by
  have:=hown.cells (g:=q) rfl n (ic d) (by rw[List.getElem?_append_right (by simp[hn])];simp[hn])
  rwa [Addr.add_lit,Nat.zero_add] at this
 unfold ic at hlast
 have hmax:n+1≤9223372036854775807:=by unfold maxLen at hcm;omega
 have hs: ∀W,(Instr.slice 214 (.slice (some ⟨q,0,none⟩) (n+1) cap) none (some (.int .i64 (n:Int))) none).run Tryz.prog W= .ok (.slice (some ⟨q,0,none⟩) n cap) W:=by(
 intro W
 rw[run_slice_h W 214 _ _ _ (by rw[show Tryz.prog.elem 214=3 by simp[Program.elem,Tryz.underlying214]];exact Tryz.underlying214) .i64 _ (by omega) (by omega),show Tryz.prog.elem 214=3 by simp[Program.elem,Tryz.underlying214],VM]
 simp[Result.andThen,sliced,Addr.add_lit])
 have HN:=Hd hn
 clear hn
 have hqg:q≠g:=by
  rintro rfl
  exact hne rfl
 go_enter Tryz.func136,Tryz.ntmps136
 go_wp2
 refine bodyPost_ret (v:= .tuple #[.int .i64 (d:Int),.bool true]) (by simp[results,Tryz.results136,go_sem]) rfl ⟨.slice (some ⟨q,0,none⟩) n cap,rfl,⟨?_,?_,hne⟩,(Kept.refl (fun b=>b=g) w).setCell (.inl rfl) _,rfl⟩
 ·rw[Zm h.blk];rfl
 ·(
 rw[← HN.out]
 refine⟨by simp[HN.out],.inr ⟨q,cap,cur,rfl,hqb,?_,by omega,hcm,hcs,?_⟩⟩
 ·rw[Below.heap_setCell _ _ _ _ hqg];exact hq
 ·have:=congrArg (List.take n) htake
  rw[List.take_take,Nat.mul_one,Nat.min_eq_left (by omega),List.take_left' (by simp[HN.out])] at this
  rw[Nat.mul_one]
  exact this)
end Go.Proofs.YtmejhedegmjboaaGreat
namespace Go.Proofs.YtmejhedegmjboaaGreat
open Go.RowKit
abbrev Ns (w:World)(B:Nat)(A:Option Addr)(n c:Nat)(l:List Nd):Prop:=Rs ndc 10 w B A n c l
theorem Rs.node {w:World}{B n c:Nat}{A:Option Addr}{l:List Nd}(h:Ns w B A n c l){k:Nat}(hk:k < l.length): ∃b o,A=some ⟨b,o,none⟩∧b < B∧
  w.cell? ⟨b,o+k*10,none⟩=some (.int .u8 l[k].k)∧w.cell? ⟨b,o+k*10+1,none⟩=some (.int .i64 l[k].m)∧w.cell? ⟨b,o+k*10+2,none⟩=some (.string (str l[k].s))∧
  w.cell? ⟨b,o+k*10+3,none⟩=some (.int .i64 l[k].n)∧w.cell? ⟨b,o+k*10+4,none⟩=some (.bool l[k].lv)∧w.cell? ⟨b,o+k*10+5,none⟩=some (.int .u64 l[k].ln)∧
  w.cell? ⟨b,o+k*10+6,none⟩=some (.bool l[k].pv)∧w.cell? ⟨b,o+k*10+7,none⟩=some (.int .u64 l[k].pn)∧w.cell? ⟨b,o+k*10+8,none⟩=some (.bool l[k].ev)∧
  w.cell? ⟨b,o+k*10+9,none⟩=some (.int .u64 l[k].en):=by
 obtain⟨b,o,e,hb,hc⟩:=h.spot (by have:=h.len;omega)
 have hc:=hc k hk
 exact⟨b,o,e,hb,hc 0 _ rfl,hc 1 _ rfl,hc 2 _ rfl,hc 3 _ rfl,hc 4 _ rfl,hc 5 _ rfl,hc 6 _ rfl,hc 7 _ rfl,hc 8 _ rfl,hc 9 _ rfl⟩
theorem Zf6 (x:Nd)(l:List Nd)(d:Nat)(st:List Nat):chk (x::l) (d::st)=if x.may=true then(if 8 < x.n∨16 < d then 3 else chk l (opens x d st)) else 4:=rfl
theorem Zv {w w':World}{base sz n:Nat}{e:TypeId}{v:Value}{xs:List Value}(h:w.ownsRow base e sz v n xs)(hq: ∀q,v.ownBlock=some q→w'.heap[q]?=w.heap[q]?):w'.ownsRow base e sz v n xs:=by
 refine⟨h.1,?_⟩
 rcases h.2 with hn|⟨g,cap,cur,rfl,hg,hgg,r⟩
 ·exact .inl hn
 ·exact .inr ⟨g,cap,cur,rfl,hg,(hq g rfl).trans hgg,r⟩
theorem OpenAt.same {w w':World}{g base:Nat}{v:Value}{st:List Nat}(h:OpenAt w g base v st)(hg:w'.heap[g]?=w.heap[g]?)(hq: ∀q,v.ownBlock=some q→w'.heap[q]?=w.heap[q]?):OpenAt w' g base v st:=
 ⟨hg.trans h.blk,Zv h.own hq,h.ne⟩
structure Two (w:World)(g base:Nat)(v4:Value)(k:Nat)(ds:List Nat)(v:Value)(st:List Nat):Prop where
 o:OpenAt w g base v st
 own:w.ownsRow base 3 1 v4 k (ds.map ic)
 ap: ∀q,v4.ownBlock=some q→v.ownBlock≠some q
 ag:v4.ownBlock≠some g
 len:ds.length=k
section
variable {w w':World} {g base k:Nat} {v4 v v':Value} {ds st st':List Nat}
theorem Two.below (h:Two w g base v4 k ds v st)(hb:Below w.heap.size w w'):Two w' g base v4 k ds v st:=
 ⟨h.o.same (hb.block g (Zh h.o.blk)) fun q hq=>hb.block q (h.o.own.lt q hq).2,Zv h.own fun q hq=>hb.block q (h.own.lt q hq).2,h.ap,h.ag,h.len⟩
theorem Two.next (h:Two w g base v4 k ds v st)(ho:OpenAt w' g base v' st')(hk:Kept (fun b=>b=g) w w')(hv:v'.ownBlock=v.ownBlock):Two w' g base v4 k ds v' st':=
 ⟨ho,Zv h.own fun q hq=>hk.block q (h.own.lt q hq).2 fun e=>h.ag (by rw[hq,e]),fun q hq=>by rw[hv];exact h.ap q hq,h.ag,h.len⟩
theorem Two.more {v5:Value}{d:Nat}(h:Two w g base v4 k ds v st)(ha:Appended w w' base 3 1 v4 v5 (k+1) ((ds++ [d]).map ic)):Two w' g base v5 (k+1) (ds++ [d]) v st:=
 ⟨h.o.same (ha.grown.block g (Zh h.o.blk) fun e=>h.ag e.symm) fun q hq=>ha.grown.block q (h.o.own.lt q hq).2 fun e=>h.ap q e.symm hq,ha.own,
  fun q hq hv=>ha.apart (h.o.own.lt q hv).2 (fun e=>h.ap q e hv) hq,ha.apart (Zh h.o.blk) h.ag,by simp[h.len]⟩
theorem Two.grow (h:Two w g base v4 k ds v st)(ho:OpenAt w' g base v' st')(hk:Kept (fun b=>b=g∨v.ownBlock=some b) w w')(hp: ∀q,q < w.heap.size→v.ownBlock≠some q→v'.ownBlock≠some q):Two w' g base v4 k ds v' st':=
 ⟨ho,Zv h.own fun q hq=>hk.block q (h.own.lt q hq).2 (by rintro(e|e);exact h.ag (by rw[hq,e]);exact h.ap q hq e),fun q hq=>hp q (h.own.lt q hq).2 (h.ap q hq),h.ag,h.len⟩
end
theorem Zl2 {w:World}{g q d:Nat}(h:w.heap[g]?=some (.cells (List.replicate q (.int .i64 ((d:Int)+1))).toArray 3 (0,0)))(hq:q≤8):Rd ic w w.heap.size (some ⟨g,0,none⟩) q q (List.replicate q (d+1)):=by
 refine⟨by simp,Nat.le_refl _,by unfold maxLen;omega,(fun h=>by cases h),fun _=>⟨g,0,rfl,Zh h,fun j hj=> ?_⟩⟩
 rw[List.length_replicate] at hj
 rw[Nat.zero_add,Zb h]
 simp[hj,ic]
def Zm2 (l:List Nd)(w:World)(g n:Nat)(v4 v22:Value)(wr:World):Prop:= ∃(k:Nat) (st ds:List Nat) (v:Value) (A':Option Addr) (c':Nat),
 v22= .int .i64 (k:Int)∧k≤n∧v4= .slice A' k c'∧Two wr g w.heap.size (.slice A' k c') k ds v st∧
 chk l [1]=chk (l.drop k) st∧dps l [1]=ds++dps (l.drop k) st∧st.length≤1+8*k∧Below w.heap.size w wr
theorem Zef (A:Option Addr)(n c:Nat)(l:List Nd)(w:World)(h:Ns w w.heap.size A n c l)(hf: ∀x∈l,x.Fits):
  Calls Tryz.prog 91 #[.slice A n c] w fun e w'=> ∃A' m c',e= .returned (.tuple #[.slice A' m c',.int .i64 (ZI l:Int)])∧Rd ic w' w'.heap.size A' m c' (depB l)∧Below w.heap.size w w':=by
 have HL:=Hd h.len
 go_enter Tryz.func91,Tryz.ntmps91
 by_cases h0:n=0
 ·(
 have hl:l= []:=List.eq_nil_of_length_eq_zero (by rw[HL.out,h0])
 have HC:Hid (ZI l=1∧depB l= []):=by subst hl;exact⟨rfl,rfl⟩
 subst h0
 go_wp2
 refine bodyPost_ret (v:= .tuple #[.slice none 0 0,.int .i64 1]) (by simp[results,Tryz.results91,go_sem]) rfl ⟨none,0,0,by rw[HC.out.1];rfl,by rw[HC.out.2];exact Rd.nil _ _,Below.refl _ _⟩)
 have h0':((n:Int)==0)=false:=by simp;omega
 have hne:l≠ []:=by(
 intro e
 have:=HL.out
 rw[e] at this
 exact h0 this.symm)
 by_cases h128:128 < n
 ·have HC:Hid (ZI l=3∧depB l= []):=by
   have hc:ZI l=3:=by unfold ZI;rw[if_neg hne,if_pos (by rw[HL.out];exact h128)]
   exact⟨hc,by unfold depB;rw[if_neg (by rw[hc];decide)]⟩
  have h128':(128:Int) < (n:Int):=by omega
  go_wp2
  refine bodyPost_ret (v:= .tuple #[.slice none 0 0,.int .i64 3]) (by simp[results,Tryz.results91,go_sem]) rfl ⟨none,0,0,by rw[HC.out.1];rfl,by rw[HC.out.2];exact Rd.nil _ _,Below.refl _ _⟩
 have h128': ¬(128:Int) < (n:Int):=by omega
 have HC:Hid (ZI l=chk l [1]):=by(
 refine Hd ?_
 unfold ZI
 rw[if_neg hne,if_neg (by rw[HL.out];omega)])
 have HF:=Hd hf
 have HS:=Hd h
 clear hf hne
 go_wp2_with fail
 refine(Zdc w.heap.size w.heap.size (.slice none 0 0) [] (some ⟨w.heap.size+1,0,none⟩) 1 1 [1] _ ⟨?_,World.ownsRow_nil _ _ _ _,by simp[Value.ownBlock]⟩ ?_ (by simp) ?_).mono ?_
 ·have:=heap_alloc_new w (.cells #[.slice none 0 0] 214)
  exact(Below.heap_alloc _ _ _ (Zh this)).trans this
 ·have:=Rd.new (enc:=ic) (w.alloc (.cells #[.slice none 0 0] 214)) #[.int .i64 1] 3 1 [1] rfl rfl (by unfold maxLen;omega)
  have e:(w.alloc (.cells #[.slice none 0 0] 214)).heap.size=w.heap.size+1:=by simp
  rw[e] at this
  exact this
 ·simp;omega
 rintro e w1 ⟨rfl,v1,ho1,hk1,hp1⟩
 have hb1:Below w.heap.size w w1:=by
  have h2:Below w.heap.size w ((w.alloc (.cells #[.slice none 0 0] 214)).alloc (.cells #[.int .i64 1] 3)):=(bA).alloc (by simp) _
  exact h2.trans (hk1.below (by simp;omega) (by rintro b (rfl|hb);exact Nat.le_refl _;simp[Value.ownBlock] at hb))
 clear hk1 hp1
 go_wp2_with fail
 go_loopw [4,22] (fun v4 v22 wr=>Zm2 l w w.heap.size n v4 v22 wr) (fun _ v22 _=>n - (intOf v22).toNat)
 case atStart=>exact⟨0,[1],[],v1,none,0,rfl,by omega,rfl,⟨ho1,World.ownsRow_nil _ _ _ _,by simp[Value.ownBlock],by simp[Value.ownBlock],rfl⟩,rfl,rfl,by simp,hb1⟩
 case round=>(
 clear ho1 hb1
 obtain⟨k,st,ds,v,A',c',rfl,hk,rfl,h2,hck,hdp,hst,hb⟩:=hrel
 have HCK:=Hd hck
 have HDP:=Hd hdp
 clear hck hdp
 by_cases hlt:k < n
 ·(
 have hk':k < l.length:=by rw[HL.out];exact hlt
 obtain⟨b,o,rfl,hbb,c0,c1,c2,c3,c4,c5,c6,c7,c8,c9⟩:=(HS.out.below hb).node hk'
 have hdrop:l.drop k=l[k]::l.drop (k+1):=List.drop_eq_getElem_cons hk'
 rw[hdrop] at HCK HDP
 have hfx:=HF.out _ (List.getElem_mem hk')
 have hmayx:=fun W=>ZgE l[k] W hfx
 have hopen: ∀d st,opens l[k] d st=List.replicate l[k].n.toNat (d+1)++st:=fun _ _=>rfl
 have hk0:l[k].may=true→0≤l[k].n:=Nd.may_kids
 generalize hrest:l.drop (k+1)=rest at*
 have HREST:=Hd hrest
 clear hrest
 generalize l[k]=x at*
 have HMK:=Hd hk0
 have HO:Hid (∀d st,opens x d st=List.replicate x.n.toNat (d+1)++st):=Hd hopen
 have HC1:Hid (∀d st,chk (x::rest) (d::st)=if x.may=true then(if 8 < x.n∨16 < d then 3 else chk rest (opens x d st)) else 4):=Hd fun _ _=>rfl
 have HD1:Hid (∀d st,dps (x::rest) (d::st)=d::dps rest (opens x d st)):=Hd fun _ _=>rfl
 have HC0:Hid (chk (x::rest) []=4):=Hd rfl
 have hbad: ∀e:Nat,chk l [1]=e→e≠0→ZI l=e∧depB l= []:=fun e h1 h2=>by
  have:=HC.out.trans h1
  exact⟨this,by unfold depB;rw[if_neg (by rw[this];exact h2)]⟩
 have HBAD:=Hd hbad
 clear hbad hk0 hopen hdrop hfx
 have hblk:(wr.alloc (.cells #[.int .u8 x.k,.int .i64 x.m,.string (str x.s),.int .i64 x.n,.bool x.lv,.int .u64 x.ln,.bool x.pv,.int .u64 x.pn,.bool x.ev,.int .u64 x.en] 116)).heap[wr.heap.size]?=_:=heap_alloc_new wr _
 have hal:Below wr.heap.size wr (wr.alloc (.cells #[.int .u8 x.k,.int .i64 x.m,.string (str x.s),.int .i64 x.n,.bool x.lv,.int .u64 x.ln,.bool x.pv,.int .u64 x.pn,.bool x.ev,.int .u64 x.en] 116)):=bA
 have h3:=h2.below hal
 have hb3:=hb.trans (hal.mono hb.size)
 have hglt:w.heap.size < wr.heap.size:=Zh h2.o.blk
 have HQ8:Hid (∀q,(Value.slice A' k c').ownBlock=some q→q < wr.heap.size):=Hd fun q hq=>(h2.own.lt q hq).2
 cases st with
 |nil=>(
 obtain⟨e1,e2⟩:=HBAD.out 4 (HCK.out.trans HC0.out) (by decide)
 have HE:=Hd e1
 have HE2:=Hd e2
 clear e1 e2 h2
 go_wp2_with fail
 refine(Zf4 _ _ _ _ h3.o).mono ?_
 rintro e w2 ⟨rfl,rfl⟩
 go_wp2_with fail
 refine bodyPost_ret (v:= .tuple #[.slice none 0 0,.int .i64 4]) (by simp[results,Tryz.results91,go_sem]) rfl ⟨none,0,0,by rw[HE.out];rfl,by rw[HE2.out];exact Rd.nil _ _,hb3⟩)
 |cons d st=>(
 rw[HC1.out,HO.out] at HCK
 rw[HD1.out,HO.out] at HDP
 clear HC1 HD1 HO HC0 h2
 generalize hm:x.may=mb at*
 clear hm
 obtain⟨xk,xm,xs,xn,xlv,xln,xpv,xpn,xev,xen⟩:=x
 simp only at c0 c1 c2 c3 c4 c5 c6 c7 c8 c9 hblk h3 hb3 HCK HDP HMK hal
 have hlt2:wr.heap.size < (wr.alloc (.cells #[.int .u8 xk,.int .i64 xm,.string (str xs),.int .i64 xn,.bool xlv,.int .u64 xln,.bool xpv,.int .u64 xpn,.bool xev,.int .u64 xen] 116)).heap.size:=by simp
 go_wp2_with fail
 refine(Zf5 _ _ _ _ _ _ h3.o).mono ?_
 rintro e w2 ⟨v2,rfl,ho2,hk2,he2⟩
 have h4:=h3.next ho2 hk2 he2
 have hb4:Below w.heap.size w w2:=hb3.trans (hk2.below (Nat.le_of_lt (Nat.lt_trans hglt hlt2)) fun b hb=>Nat.le_of_eq hb.symm)
 have hblk2:=(hk2.block wr.heap.size hlt2 (Nat.ne_of_gt hglt)).trans hblk
 have hsz2:=hk2.size
 clear ho2 hk2 he2 h3 hb3 hblk hal
 obtain⟨e0,e1,e2,e3,e4,e5,e6,e7,e8,e9⟩:=Zk2 hblk2 (Below.refl _ _)
 generalize hg8:wr.heap.size=g8 at*
 go_wp2_with fail
 refine(hmayx _).mono ?_
 rintro e w3 ⟨rfl,hb5⟩
 have h5:=h4.below hb5
 have hb6:=hb4.trans (hb5.mono hb4.size)
 have hblk3:=(hb5.block g8 (Zh hblk2)).trans hblk2
 obtain⟨f0,f1,f2,f3,f4,f5,f6,f7,f8,f9⟩:=Zk2 hblk3 (Below.refl _ _)
 clear e0 e1 e2 e3 e4 e5 e6 e7 e8 e9 h4 hb4 hblk2 hmayx f0 f1 f2 f4 f5 f6 f7 f8 f9
 cases mb with
 |false=>(
 obtain⟨e1,e2⟩:=HBAD.out 4 HCK.out (by decide)
 have HE:=Hd e1
 have HE2:=Hd e2
 clear e1 e2
 go_wp2_with fail
 refine bodyPost_ret (v:= .tuple #[.slice none 0 0,.int .i64 4]) (by simp[results,Tryz.results91,go_sem]) rfl ⟨none,0,0,by rw[HE.out];rfl,by rw[HE2.out];exact Rd.nil _ _,hb6⟩)
 |true=>(
 obtain⟨q,rfl⟩:=Int.eq_ofNat_of_zero_le (HMK.out rfl)
 by_cases hq8:8 < q
 ·(
 obtain⟨e1,e2⟩:=HBAD.out 3 (by rw[HCK.out,if_pos rfl,if_pos (.inl (by omega))]) (by decide)
 have HE:=Hd e1
 have HE2:=Hd e2
 have hq8':(8:Int) < (q:Int):=by omega
 clear e1 e2
 go_wp2_with fail
 refine bodyPost_ret (v:= .tuple #[.slice none 0 0,.int .i64 3]) (by simp[results,Tryz.results91,go_sem]) rfl ⟨none,0,0,by rw[HE.out];rfl,by rw[HE2.out];exact Rd.nil _ _,hb6⟩)
 have hq8': ¬(8:Int) < (q:Int):=by omega
 by_cases hd16:16 < d
 ·(
 obtain⟨e1,e2⟩:=HBAD.out 3 (by rw[HCK.out,if_pos rfl,if_pos (.inr hd16)]) (by decide)
 have HE:=Hd e1
 have HE2:=Hd e2
 have hd16':(16:Int) < (d:Int):=by omega
 clear e1 e2
 unfold ic
 go_wp2_with fail
 refine bodyPost_ret (v:= .tuple #[.slice none 0 0,.int .i64 3]) (by simp[results,Tryz.results91,go_sem]) rfl ⟨none,0,0,by rw[HE.out];rfl,by rw[HE2.out];exact Rd.nil _ _,hb6⟩)
 have hd16': ¬(16:Int) < (d:Int):=by omega
 have HCK2:Hid (chk l [1]=chk rest (List.replicate q (d+1)++st)):=Hd (by rw[HCK.out,if_pos rfl,if_neg (by omega),Int.toNat_natCast])
 have HDP2:Hid (dps l [1]=ds++ [d]++dps rest (List.replicate q (d+1)++st)):=Hd (by rw[HDP.out,Int.toNat_natCast,List.append_assoc];rfl)
 have hwr:IntKind.i64.wrap ((d:Int)+1)=(d:Int)+1:=by rw[IntKind.wrap_i64];omega
 have hbg:w.heap.size≤w3.heap.size:=hb6.size
 have hal1:Below w3.heap.size w3 (w3.alloc (.cells #[.int .i64 (d:Int)] 3)):=bA
 have h6:=h5.below hal1
 have hrd:=Rd.new (enc:=ic) w3 #[.int .i64 (d:Int)] 3 1 [d] rfl rfl (by unfold maxLen;omega)
 have hb7:=hb6.trans (hal1.mono hb6.size)
 have hblk4:=(hal1.block g8 (Zh hblk3)).trans hblk3
 have hsz4:(w3.alloc (.cells #[.int .i64 (d:Int)] 3)).heap.size=w3.heap.size+1:=by simp
 clear h5 hb6 HCK HDP HBAD
 unfold ic
 have hapart: ∀(w5:World) (v5:Value),Appended (w3.alloc (.cells #[.int .i64 (d:Int)] 3)) w5 w.heap.size 3 1 (.slice A' k c') v5 (k+1) ((ds++ [d]).map ic)→w5.heap[g8]?=some (.cells #[.int .u8 xk,.int .i64 xm,.string (str xs),.int .i64 (q:Int),.bool xlv,.int .u64 xln,.bool xpv,.int .u64 xpn,.bool xev,.int .u64 xen] 116 (0,0)):=fun w5 v5 ha=>
  (ha.grown.block g8 (Zh hblk4) fun e=>by have:=HQ8.out g8 e.symm;omega).trans hblk4
 have HAP:=Hd hapart
 have H6:=Hd h6
 have HB7:=Hd hb7
 clear hapart hal1 hblk3 hblk4 hb5 hb7 HMK HQ8
 go_wp2_with (refine Uo rfl (.tmp 42) (.tmp 44) 82 82 rfl Tryz.underlying82 Tryz.underlying82 w.heap.size _ k ds rfl h6.own _ _ 1 1 [d] rfl hrd (by omega) (by omega) ?_;intro A5 c5 w5 HA;have hc5:w5.cell? ⟨g8,3,none⟩=some (.int .i64 (q:Int)):=(Zb (HAP.out _ _ HA.out)).trans rfl;have hc6:(w5.alloc (.cells #[.int .i64 ((d:Int)+1)] 3)).cell? ⟨g8,3,none⟩=some (.int .i64 (q:Int)):=(World.cell?_alloc_lt w5 _ ⟨g8,3,none⟩ (Zh (HAP.out _ _ HA.out))).trans hc5)
 have h7:=H6.out.more HA.out
 have hb8:Below w.heap.size w w5:=HB7.out.grown HA.out.grown (by omega) fun j hj=>(H6.out.own.lt j hj).1
 have hal2:Below w5.heap.size w5 (w5.alloc (.cells #[.int .i64 ((d:Int)+1)] 3)):=bA
 have h8:=h7.below hal2
 have hb9:=hb8.trans (hal2.mono hb8.size)
 have hc7:(w5.alloc (.cells #[.int .i64 ((d:Int)+1)] 3)).cell? ⟨w5.heap.size,0,none⟩=some (.int .i64 ((d:Int)+1)):=(Zb (heap_alloc_new w5 _)).trans rfl
 clear hc5 hc6 HA HAP H6 HB7 h6 h7 hb8 hal2 hrd
 refine(YN w5.heap.size 0 1 ((d:Int)+1) q _ (by omega) (by simp) hc7).mono ?_
 rintro e w6 ⟨g5,rfl,hg5,hb10⟩
 have h9:=h8.below hb10
 have hb11:=hb9.trans (hb10.mono hb9.size)
 have hrd6:=Zl2 hg5 (by omega)
 have hsz6:=hb11.size
 clear h8 hb9 hb10 hg5 hc7
 simp only[List.length_cons] at hst
 go_wp2_with fail
 refine(Zdc _ _ _ _ _ _ _ _ w6 h9.o hrd6 (by omega) (by omega)).mono ?_
 rintro e w7 ⟨rfl,v7,ho7,hk7,hp7⟩
 have h10:=h9.grow ho7 hk7 hp7
 have hb12:Below w.heap.size w w7:=hb11.trans (hk7.below hsz6 (by
 rintro b (rfl|hb)
 ·exact Nat.le_refl _
 ·exact(h9.o.own.lt b hb).1))
 rw[List.reverse_replicate] at h10
 clear h9 ho7 hk7 hp7 hb11 hrd6
 go_wp2_with fail
 go_roundw
 case rel=>exact⟨k+1,List.replicate q (d+1)++st,ds++ [d],v7,A5,c5,by go_num,by omega,rfl,h10,by rw[HREST.out];exact HCK2.out,by rw[HREST.out];exact HDP2.out,by rw[List.length_append,List.length_replicate];omega,hb12⟩
 case measure=>simp[intOf];omega)))
 ·(
 obtain rfl:k=n:=by omega
 have hdn:l.drop k= []:=List.drop_eq_nil_of_le (by rw[HL.out];exact Nat.le_refl _)
 rw[hdn] at HCK HDP
 obtain⟨A0,c0,rfl⟩:=ZJ h2.o.own
 have hcell:wr.cell? ⟨w.heap.size,0,none⟩=some (.slice A0 st.length c0):=by rw[Zb h2.o.blk];rfl
 cases st with
 |nil=>(
 have HE:Hid (ZI l=0∧depB l=ds):=by(
 have h1:ZI l=0:=HC.out.trans HCK.out
 refine⟨h1,?_⟩
 unfold depB
 rw[if_pos h1,HDP.out]
 simp[dps])
 have hrd:=Rd.of_own h2.own
 clear h2
 simp only[List.length_nil] at hcell
 go_wp2
 exact bodyPost_ret (v:= .tuple #[.slice A' k c',.int .i64 0]) (by simp[results,Tryz.results91,go_sem]) rfl ⟨A',k,c',by rw[HE.out.1];rfl,by rw[HE.out.2];exact hrd,hb⟩)
 |cons d st=>(
 have HE:Hid (ZI l=4∧depB l= []):=by
  have h1:ZI l=4:=HC.out.trans HCK.out
  exact⟨h1,by unfold depB;rw[if_neg (by rw[h1];decide)]⟩
 clear h2
 simp only[List.length_cons] at hcell
 generalize st.length=m at*
 have hm:(0:Int) < ((m+1:Nat):Int):=by omega
 go_wp2
 all_goals(
 exact bodyPost_ret (v:= .tuple #[.slice none 0 0,.int .i64 4]) (by simp[results,Tryz.results91,go_sem]) rfl ⟨none,0,0,by rw[HE.out.1];rfl,by rw[HE.out.2];exact Rd.nil _ _,hb⟩))))
end Go.Proofs.YtmejhedegmjboaaGreat
