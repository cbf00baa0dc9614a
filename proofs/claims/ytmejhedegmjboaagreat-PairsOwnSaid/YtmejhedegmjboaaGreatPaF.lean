/- A region in which two hard operations may come up at one place; appends of bounds and of numbers to rows of one's own. Condition: rows can be read. -/
/- A region in which one hard operation may come ahead of two others, between them, or behind. No condition. -/
import Derived.Test.YtmejhedegmjboaaGreatSen
namespace Go.Proofs.YtmejhedegmjboaaGreat.Bo
open Go
section
variable (P:Program) (ops:Array Oper)
def wpSoft (S:World→Prop)(E:Act→World→Prop):List (Nat×Oper)→Act→World→Prop
 | [],a,w=>E a w
 |(_,o)::r,a,w=>Region.wanted o (yielded ops a.tmps)=true∧ ∃v,(∀w',S w'→(execOp a.eval o).run P w'= .ok (.value v) w')∧wpSoft S E r (a.put o.dst v) w
def okSoft (stop:Nat):List (Nat×Oper)→Array Bool→Bool
 | [],_=>true
 |x::r,listed=>(Region.ready .any ops listed).contains x.1 && Region.free .any ops listed x.1 && waits ops stop x.1 && x.1 !=stop && okSoft stop r (listed.setIfInBounds x.1 true)
def marks:List (Nat×Oper)→Array Bool→Array Bool
 | [],listed=>listed
 |x::r,listed=>marks r (listed.setIfInBounds x.1 true)
end
section
variable {P:Program} {ops:Array Oper} {Q:Exit→Act→World→Prop} {S:World→Prop} {stop:Nat} {hards:List Nat}
theorem soft_any (hsel:Region.noSelect ops=true)(hQ: ∀c a d v w,Q (.panic c) (Act.put a (some d) v) w→Q (.panic c) a w){E:Act→World→Prop}{rest:Nat}:
  ∀(order:List (Nat×Oper)) (listed:Array Bool) (a:Act) (w:World),(∀x∈order,ops[x.1]?=some x.2)→okSoft ops stop order listed=true→S w→
   (∀a w,S w→E a w→wpAnyG P ops Q S stop rest (marks order listed) a w)→wpSoft P ops S E order a w→wpAnyG P ops Q S stop (order.length+rest) listed a w
 | [],listed,a,w,_,_,hS,hE,h=>by
  rw[List.length_nil,Nat.zero_add]
  exact hE a w hS h
 |(i,o)::r,listed,a,w,hm,hok,hS,hE,⟨hw,v,hy,h⟩=>by
  simp only[okSoft,Bool.and_eq_true,bne_iff_ne,ne_eq] at hok
  obtain⟨⟨⟨⟨hc,hf⟩,hwt⟩,hns⟩,hrest⟩:=hok
  have ho:ops[i]?=some o:=hm (i,o) List.mem_cons_self
  have ih:=soft_any hsel hQ r (listed.setIfInBounds i true) (a.put o.dst v) w (fun x hx=>hm x (List.mem_cons_of_mem _ hx)) hrest hS hE h
  rw[List.length_cons,show r.length+1+rest=(r.length+rest)+1 by omega]
  exact anyG_first ho (Region.noSelect_spec hsel) (fun c a w=>put_any_dst hQ c a _ _ w) hns (waits_spec hwt) _ listed a w (Region.free_spec ho hf) (by simpa using hc) (.inl ⟨hw,hy⟩) hS ih
theorem fork_any {i j:Nat}{oi oj:Oper}{listed:Array Bool}{a:Act}{w:World}{fuel:Nat}(hr:Region.ready .any ops listed= [i,j])(hi:ops[i]?=some oi)(hj:ops[j]?=some oj)
  (hwi:Region.wanted oi (yielded ops a.tmps)=true) (hwj:Region.wanted oj (yielded ops a.tmps)=true)
  (h1:Oper.wp P oi a w (fun a' w'=>(i≠stop→S w')∧wpAnyG P ops Q S stop fuel (listed.setIfInBounds i true) a' w') Q)
  (h2:Oper.wp P oj a w (fun a' w'=>(j≠stop→S w')∧wpAnyG P ops Q S stop fuel (listed.setIfInBounds j true) a' w') Q):wpAnyG P ops Q S stop (fuel+1) listed a w:=by
 refine⟨fun h0=>(by rw[hr] at h0;cases h0),fun k hk=> ?_⟩
 rw[hr] at hk
 have hk':k=i∨k=j:=by simpa using hk
 unfold wpOp
 rcases hk' with rfl|rfl
 ·simp only[hi,hwi,if_true]
  exact .inl h1
 ·simp only[hj,hwj,if_true]
  exact .inl h2
theorem wp_region_fork {id:Nat}{l:List Oper}{a:Act}{w:World}(first:List Nat)(i j:Nat)(oi oj:Oper)(ri rj:List Nat)(hards:List Nat)(stop:Nat)(S:World→Prop)(hm:P.follows .mixedOrders=true)(hsel:Region.noSelect l.toArray=true)
  (hi:l[i]?=some oi) (hj:l[j]?=some oj) (hgi:oi.guard=none) (hgj:oj.guard=none)
  (hok:okSoft l.toArray stop (steps l first) (Array.replicate l.length false)=true) (hr:(Region.ready .any l.toArray (marks (steps l first) (Array.replicate l.length false))== [i,j])=true)
  (hoki:okOrd l.toArray stop hards (steps l ri) ((marks (steps l first) (Array.replicate l.length false)).setIfInBounds i true)=true)
  (hokj:okOrd l.toArray stop hards (steps l rj) ((marks (steps l first) (Array.replicate l.length false)).setIfInBounds j true)=true)
  (hleni:((steps l first).length+(steps l ri).length+1==l.length)=true) (hlenj:((steps l rj).length==(steps l ri).length)=true)
  (hQ: ∀c a d v w,Q (.panic c) (Act.put a (some d) v) w→Q (.panic c) a w) (hS:S w.drew)
  (h:wpSoft P l.toArray S (fun a w=>Oper.wp P oi a w (fun a' w'=>S w'∧wpOrd P l.toArray Q S stop hards (steps l ri) a' w') Q∧Oper.wp P oj a w (fun a' w'=>S w'∧wpOrd P l.toArray Q S stop hards (steps l rj) a' w') Q) (steps l first) a w.drew):
  (Code.region id l.toArray true).wp P Q a w:=by
 have hmem: ∀(o:List Nat) (x:Nat×Oper),x∈steps l o→l.toArray[x.1]?=some x.2:=fun o x hx=>by rw[List.getElem?_toArray];exact steps_mem l o x hx
 have hlen:(steps l first).length+((steps l ri).length+1)=l.toArray.size:=by rw[List.size_toArray];simp only[beq_iff_eq] at hleni;omega
 simp only[beq_iff_eq] at hr hlenj
 suffices key:wpAnyG P l.toArray Q S stop ((steps l first).length+((steps l ri).length+1)) (Array.replicate l.length false) a w.drew by
  rw[hlen] at key
  exact wp_region_any hm (anyG_any (S:=S) (stop:=stop) _ _ _ _ key)
 refine soft_any hsel hQ (steps l first) _ a w.drew (hmem first) hok hS (fun a w _ hE=> ?_) h
 refine fork_any hr (by rw[List.getElem?_toArray];exact hi) (by rw[List.getElem?_toArray];exact hj) (by simp[Region.wanted,hgi]) (by simp[Region.wanted,hgj]) ?_ ?_
 ·exact Oper.wp_mono (fun a' w' ⟨s1,s2⟩=>⟨fun _=>s1,ord_any hsel hQ (steps l ri) _ _ a' w' (hmem ri) (Nat.le_refl _) hoki (fun _=>s1) s2⟩) hE.1
 ·exact Oper.wp_mono (fun a' w' ⟨s1,s2⟩=>⟨fun _=>s1,ord_any hsel hQ (steps l rj) _ _ a' w' (hmem rj) (by omega) hokj (fun _=>s1) s2⟩) hE.2
theorem soft_yes {E:Act→World→Prop}{i:Nat}{r:List (Nat×Oper)}{a:Act}{w:World}{o:Oper}{v:Value}(hw:Region.wanted o (yielded ops a.tmps)=true)
  (hy: ∀w',S w'→(execOp a.eval o).run P w'= .ok (.value v) w') (h:wpSoft P ops S E r (a.put o.dst v) w):wpSoft P ops S E ((i,o)::r) a w:=
 ⟨hw,v,hy,h⟩
theorem soft_end {E:Act→World→Prop}{a:Act}{w:World}(h:E a w):wpSoft P ops S E [] a w:=h
end
open Go.RowKit
theorem bdc_one (l:List Bd): ∀u∈l.flatMap bdc,u.oneCell'=true:=by
 intro u hu
 obtain⟨x,_,hx⟩:=List.mem_flatMap.1 hu
 simp only[bdc,List.mem_cons,List.not_mem_nil,or_false] at hx
 rcases hx with rfl|rfl|rfl|rfl <;> rfl
theorem bnd_inf:(Tryz.prog.info? 69).map (fun i=>(i.zero,i.size,i.bytes))=some (some (.agg #[.bool false,.int .u64 0,.bool false,.int .u64 0]),4,32):=by kernel_rfl
theorem info_of {E:TypeId}{z:Value}{sz bytes:Nat}(h:(Tryz.prog.info? E).map (fun i=>(i.zero,i.size,i.bytes))=some (some z,sz,bytes)): ∃i,Tryz.prog.info? E=some i∧i.zero=some z∧i.size=sz∧i.bytes=bytes:=by
 cases hi:Tryz.prog.info? E with
 |none=>rw[hi] at h;cases h
 |some i=>
  rw[hi] at h
  simp only[Option.map_some,Option.some.injEq,Prod.mk.injEq] at h
  exact⟨i,rfl,h.1,h.2.1,h.2.2⟩
theorem op_append {α:Type}{enc:α→List Value}{sz bytes:Nat}{t E:TypeId}{z:Value}(he: ∀x,(enc x).length=sz)(hsz:0 < sz)(h1: ∀l:List α,∀u∈l.flatMap enc,u.oneCell'=true)(ht:Tryz.prog.underlying t=some (.slice E))(hinf:(Tryz.prog.info? E).map (fun i=>(i.zero,i.size,i.bytes))=some (some z,sz,bytes))(hzs:z.cells.size=sz)(hby:bytes≤1000)
  {w:World} {o:Oper} {a:Act} {K:Act→World→Prop} {Q:Exit→Act→World→Prop} (s x:Operand)
  (ho:o.op= .call {callee:= .builtin .append,args:= #[s,x],argTypes:= #[t,t]})
  (base:Nat) (v:Value) (n:Nat) (vs:List α) (hs:a.eval s=v) (hown:w.ownsRow base E sz v n (vs.flatMap enc)) (B:Nat) (A:Option Addr) (m c:Nat) (ms:List α) (hx:a.eval x= .slice A m c) (hr:Rs enc sz w B A m c ms)
  (hsm:n+m≤100000) (hbase:base≤w.heap.size)
  (h: ∀A' k c' w',Hid (k=n+m)→Hid (Appended w w' base E sz v (.slice A' k c') k ((vs++ms).flatMap enc))→K (a.put o.dst (.slice A' k c')) w'):o.wp Tryz.prog a w K Q:=by
 obtain⟨i0,hi0,hz0,hz1,hz2⟩:=info_of hinf
 have key: ∃v' w',(Builtin.append_ #[t,t] o.type #[v,.slice A m c]).run Tryz.prog w= .ok v' w'∧Appended w w' base E sz v v' (n+m) ((vs++ms).flatMap enc):=by
  rcases A with _|ad
  ·have hc0:=hr.none0 rfl
   have hm0:m=0:=by have:=hr.cap;omega
   subst hc0
   subst hm0
   have hms:ms= []:=List.eq_nil_of_length_eq_zero hr.len
   subst hms
   exact⟨v,w,run_append_owned_none (P:=Tryz.prog) w base t o.type E i0 sz ht hi0 v n _ hown,⟨by simpa using hown,⟨rfl,rfl,rfl,Nat.le_refl _,fun _ _ _=>rfl⟩,.inl rfl⟩⟩
  ·have hcells: ∀j y,(ms.flatMap enc)[j]?=some y→w.cell? (ad.add j)=some y:=by
    rcases Nat.eq_zero_or_pos m with h0|h0
    ·have hms:ms= []:=List.eq_nil_of_length_eq_zero (by rw[hr.len,h0])
     subst hms
     intro j u hu
     simp at hu
    ·obtain⟨b,q,hA,_,hc⟩:=hr.spot h0
     injection hA with hA
     subst hA
     exact Rs.cells he hsz hc
   have hbb:(n+m)*bytes≤140737488355328:=Nat.le_trans (Nat.mul_le_mul hsm hby) (by omega)
   have:=run_append_both (P:=Tryz.prog) w base t t o.type E i0 _ sz bytes ht hi0 hz0 hz1 hz2 hzs hsz v n _ hown ad m c (ms.flatMap enc) (by rw[flat_len he,hr.len]) hcells (h1 ms) (by unfold maxLen;omega) hbb hbase rfl
   rw[← List.flatMap_append] at this
   exact this
 obtain⟨v',w',hrun,h2⟩:=key
 obtain⟨A',c',rfl⟩:=rs_own_form h2.own
 unfold Oper.wp execOp
 simp only[ho,resolve,invoke,builtin,Sem.run_bind,Sem.run_pure,Result.andThen_ok,List.map_toArray,List.map_cons,List.map_nil,hs,hx,hrun]
 exact h A' (n+m) c' w' rfl h2
end Go.Proofs.YtmejhedegmjboaaGreat.Bo
namespace Go.Proofs.YtmejhedegmjboaaGreat.Bo
open Go
section
variable {P:Program} {Q:Exit→Act→World→Prop}
theorem wp_region_two {id:Nat}{l:List Oper}{a:Act}{w:World}(first:List Nat)(i k j:Nat)(oi ok oj:Oper)(rk r2 r3:List Nat)(hards:List Nat)(stop:Nat)(S:World→Prop)(hm:P.follows .mixedOrders=true)(hsel:Region.noSelect l.toArray=true)
  (hi:l[i]?=some oi) (hk:l[k]?=some ok) (hj:l[j]?=some oj) (hgi:oi.guard=none) (hgk:ok.guard=none) (hgj:oj.guard=none)
  (hok:okSoft l.toArray stop (steps l first) (Array.replicate l.length false)=true) (hr:(Region.ready .any l.toArray (marks (steps l first) (Array.replicate l.length false))== [i,j])=true)
  (hr1:(Region.ready .any l.toArray ((marks (steps l first) (Array.replicate l.length false)).setIfInBounds i true)== [k,j])=true)
  (hokk:okOrd l.toArray stop hards (steps l rk) (((marks (steps l first) (Array.replicate l.length false)).setIfInBounds i true).setIfInBounds k true)=true)
  (hok2:okOrd l.toArray stop hards (steps l r2) (((marks (steps l first) (Array.replicate l.length false)).setIfInBounds i true).setIfInBounds j true)=true)
  (hok3:okOrd l.toArray stop hards (steps l r3) ((marks (steps l first) (Array.replicate l.length false)).setIfInBounds j true)=true)
  (hlen:((steps l first).length+(steps l r3).length+1==l.length)=true) (hlen2:((steps l r2).length+1==(steps l r3).length)=true) (hlenk:((steps l rk).length==(steps l r2).length)=true)
  (hQ: ∀c a d v w,Q (.panic c) (Act.put a (some d) v) w→Q (.panic c) a w) (hS:S w.drew)
  (h:wpSoft P l.toArray S (fun a w=>Oper.wp P oi a w (fun a' w'=>S w'∧(Oper.wp P ok a' w' (fun a'' w''=>S w''∧wpOrd P l.toArray Q S stop hards (steps l rk) a'' w'') Q∧Oper.wp P oj a' w' (fun a'' w''=>S w''∧wpOrd P l.toArray Q S stop hards (steps l r2) a'' w'') Q)) Q∧
   Oper.wp P oj a w (fun a' w'=>S w'∧wpOrd P l.toArray Q S stop hards (steps l r3) a' w') Q) (steps l first) a w.drew):
  (Code.region id l.toArray true).wp P Q a w:=by
 have hmem: ∀(o:List Nat) (x:Nat×Oper),x∈steps l o→l.toArray[x.1]?=some x.2:=fun o x hx=>by rw[List.getElem?_toArray];exact steps_mem l o x hx
 simp only[beq_iff_eq] at hlen hlen2 hlenk hr hr1
 have hsz:(steps l first).length+((steps l r3).length+1)=l.toArray.size:=by rw[List.size_toArray];omega
 suffices key:wpAnyG P l.toArray Q S stop ((steps l first).length+((steps l r3).length+1)) (Array.replicate l.length false) a w.drew by
  rw[hsz] at key
  exact wp_region_any hm (anyG_any (S:=S) (stop:=stop) _ _ _ _ key)
 refine soft_any hsel hQ (steps l first) _ a w.drew (hmem first) hok hS (fun a w _ hE=> ?_) h
 refine fork_any hr (by rw[List.getElem?_toArray];exact hi) (by rw[List.getElem?_toArray];exact hj) (by simp[Region.wanted,hgi]) (by simp[Region.wanted,hgj]) ?_ ?_
 ·refine Oper.wp_mono (fun a' w' ⟨s1,s2⟩=>⟨fun _=>s1,?_⟩) hE.1
  rw[← hlen2]
  refine fork_any hr1 (by rw[List.getElem?_toArray];exact hk) (by rw[List.getElem?_toArray];exact hj) (by simp[Region.wanted,hgk]) (by simp[Region.wanted,hgj]) ?_ ?_
  ·exact Oper.wp_mono (fun a' w' ⟨s1,s2⟩=>⟨fun _=>s1,ord_any hsel hQ (steps l rk) _ _ a' w' (hmem rk) (by omega) hokk (fun _=>s1) s2⟩) s2.1
  ·exact Oper.wp_mono (fun a' w' ⟨s1,s2⟩=>⟨fun _=>s1,ord_any hsel hQ (steps l r2) _ _ a' w' (hmem r2) (Nat.le_refl _) hok2 (fun _=>s1) s2⟩) s2.2
 ·exact Oper.wp_mono (fun a' w' ⟨s1,s2⟩=>⟨fun _=>s1,ord_any hsel hQ (steps l r3) _ _ a' w' (hmem r3) (Nat.le_refl _) hok3 (fun _=>s1) s2⟩) hE.2
end
end Go.Proofs.YtmejhedegmjboaaGreat.Bo
