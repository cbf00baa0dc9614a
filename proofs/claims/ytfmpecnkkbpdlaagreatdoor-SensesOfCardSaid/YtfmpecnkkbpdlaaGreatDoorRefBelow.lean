import Derived.Test.YtfmpecnkkbpdlaaGreatDoorEach
import Derived.Test.YtfmpecnkkbpdlaaGreatDoorRefTell
set_option maxRecDepth 100000
set_option maxHeartbeats 8000000
namespace Go.Proofs.YtfmpecnkkbpdlaaGreatDoor
open Go.RowKit
theorem Yc (s:Nat)(w:World):Calls Tryz.prog 197 #[.int .u8 (s:Int)] w fun e w'=>e= .returned (.int .u8 (VB s:Int))∧w=w':=by
 by_cases h0:s=0
 ·subst h0
  go_enter Tryz.func197,Tryz.ntmps197
  go_wp2
  go_ret
  exact⟨rfl,rfl⟩
 have h0':((s:Int)==0)=false:=by simp;omega
 by_cases h1:s=1
 ·subst h1
  go_enter Tryz.func197,Tryz.ntmps197
  go_wp2
  go_ret
  exact⟨rfl,rfl⟩
 have h1':((s:Int)==1)=false:=by simp;omega
 have HT:Hid (VB s=2):=Hd (by unfold VB;rw[if_neg h0,if_neg h1])
 go_enter Tryz.func197,Tryz.ntmps197
 go_wp2
 go_ret
 exact⟨by rw[HT.out];rfl,rfl⟩
theorem F.app_assoc: ∀f g h:F,(f.app g).app h=f.app (g.app h)
 | .nil,_,_=>rfl
 | .cons x ks r,g,h=>by simp only[F.app,F.app_assoc r g h]
theorem F.app_nil: ∀f:F,f.app .nil=f
 | .nil=>rfl
 | .cons x ks r=>by simp only[F.app,F.app_nil r]
theorem F.sd_app: ∀(f g:F) (ss ts:List Nat),ss.length=f.num→(f.app g).sd (ss++ts)=f.sd ss++g.sd ts
 | .nil,g,ss,ts,h=>by
  have:ss= []:=List.eq_nil_of_length_eq_zero h
  subst this
  rfl
 | .cons x ks r,g,[],ts,h=>by simp[F.num] at h
 | .cons x ks r,g,s::ss,ts,h=>by
  simp only[F.num,List.length_cons,Nat.add_right_cancel_iff] at h
  simp only[F.app,List.cons_append,F.sd,F.sd_app r g ss ts h,List.append_assoc]
theorem F.wf_app: ∀f g:F,(f.app g).wf→f.wf∧g.wf
 | .nil,_,h=>⟨trivial,h⟩
 | .cons _ _ r,g,⟨h1,h2,h3,h4,h5⟩=>⟨⟨h1,h2,h3,h4,(F.wf_app r g h5).1⟩,(F.wf_app r g h5).2⟩
def labT (a:Nat)(f:F)(ss:List Nat):List Sp:=lab a f.flat (f.sd ss)
def effT (a:Nat)(f:F)(ss:List Nat):List Sp:=eff a f.flat (f.sd ss)
theorem ZcQ {f g:F}{a:Nat}{ss ts:List Nat}(hf:f.wf)(h:ss.length=f.num):labT a (f.app g) (ss++ts)=labT a f ss++labT (a+f.flat.length) g ts:=by
 unfold labT
 rw[F.app_flat,F.sd_app f g ss ts h,ZeR _ _ _ _ _ (F.sd_len f ss hf h)]
theorem ZcR {f g:F}{a:Nat}{ss ts:List Nat}(hf:f.wf)(h:ss.length=f.num):effT a (f.app g) (ss++ts)=effT a f ss++effT (a+f.flat.length) g ts:=by
 unfold effT
 rw[F.app_flat,F.sd_app f g ss ts h,ZeS _ _ _ _ _ (F.sd_len f ss hf h)]
theorem ZgZ (a:Nat)(x:Nd)(ks:F)(s:Nat):labT a (.cons x ks .nil) [s]=labS a x s++labT (a+1) ks (Zo x s):=by
 simp[labT,F.flat,F.sd,lab]
theorem Zg0 (a:Nat)(x:Nd)(ks:F)(s:Nat):effT a (.cons x ks .nil) [s]=effS a x s++effT (a+1) ks (Zo x s):=by
 simp[effT,F.flat,F.sd,eff]
theorem Zg1 {x:Nd}{s i:Nat}(hm:x.may=true)(hi:i < x.n.toNat): ∃h:i < (Zo x s).length,(Zo x s)[i]=if x.k=5∧i=0 then VB s else if x.k=4 then 2 else s:=by
 have hl:=VU s hm
 refine⟨by omega,?_⟩
 have h0:i < (Zo x s).length:=by omega
 have:(Zo x s)[i]?=some (if x.k=5∧i=0 then VB s else if x.k=4 then 2 else s):=by
  unfold Zo at h0 hl ⊢
  by_cases h4:x.k=4
  ·rw[if_pos h4] at h0 ⊢
   rw[if_neg (by omega),if_pos h4]
   obtain rfl:i=0:=by simpa using h0
   rfl
  ·by_cases h5:x.k=5
   ·rw[if_neg h4,if_pos h5] at h0 ⊢
    have:i=0∨i=1:=by simp at h0;omega
    rcases this with rfl|rfl
    ·rw[if_pos ⟨h5,rfl⟩];rfl
    ·rw[if_neg (by omega),if_neg h4];rfl
   ·rw[if_neg h4,if_neg h5] at h0 ⊢
    rw[if_neg (by omega),if_neg h4,List.getElem?_replicate,if_pos (by simpa using h0)]
 exact(List.getElem?_eq_some_iff.1 this).2
structure BlJ (w:World)(x:Nd)(v6 v7:Value)(ls es:List Sp)(W:World):Prop where
 o6:W.ownsRow (w.heap.size+1) 119 5 v6 ls.length (ls.flatMap spc)
 o7:W.ownsRow (w.heap.size+1) 119 5 v7 es.length (es.flatMap spc)
 ap: ∀q,v6.ownBlock=some q→v7.ownBlock≠some q
 cp: ∀i u,(ndc x)[i]?=some u→W.cell? ⟨w.heap.size,i,none⟩=some u
 bel:Below w.heap.size w W
 lt:w.heap.size < W.heap.size
theorem Zg2 {W W':World}{base n sz:Nat}{E:TypeId}{v:Value}{xs:List Value}(h:W.ownsRow base E sz v n xs)(hk: ∀g,v.ownBlock=some g→W'.heap[g]?=W.heap[g]?):W'.ownsRow base E sz v n xs:=by
 refine⟨h.1,?_⟩
 rcases h.2 with hn|⟨g',cap,cur,hv,hb,hg,r⟩
 ·exact .inl hn
 ·exact .inr ⟨g',cap,cur,hv,hb,(hk g' (by rw[hv];rfl)).trans hg,r⟩
theorem Yd {W:World}{base base' n sz:Nat}{E:TypeId}{v:Value}{xs:List Value}(h:W.ownsRow base E sz v n xs)(hb:base'≤base):W.ownsRow base' E sz v n xs:=by
 refine⟨h.1,?_⟩
 rcases h.2 with hn|⟨g',cap,cur,hv,hg,r⟩
 ·exact .inl hn
 ·exact .inr ⟨g',cap,cur,hv,by omega,r⟩
theorem Qb {W W':World}{base b n' m sz:Nat}{E:TypeId}{v v' y:Value}{xs ys:List Value}(hy:W.ownsRow b E sz y m xs)(ha:Appended W W' base E sz v v' n' ys)(hne: ∀q,v.ownBlock=some q→y.ownBlock≠some q):W'.ownsRow b E sz y m xs:=
 Zg2 hy fun q e=>ha.grown.block q (Zw hy e).2.1 fun e'=>hne q e'.symm e
section
variable {w W W':World} {x:Nd} {v6 v7 v6' v7':Value} {ls es ms:List Sp} {k:Nat}
theorem BlJ.behind (h:BlJ w x v6 v7 ls es W)(k:Below W.heap.size W W'):BlJ w x v6 v7 ls es W':=
 ⟨Z5 h.o6 k,Z5 h.o7 k,h.ap,fun i u hu=>(k.cell (p:=⟨w.heap.size,i,none⟩) h.lt).trans (h.cp i u hu),h.bel.trans (k.mono h.bel.size),Nat.lt_of_lt_of_le h.lt k.size⟩
theorem BlJ.swap (h:BlJ w x v6 v7 ls es W):BlJ w x v7 v6 es ls W:=⟨h.o7,h.o6,fun q e1 e2=>h.ap q e2 e1,h.cp,h.bel,h.lt⟩
theorem BlJ.app6 (h:BlJ w x v6 v7 ls es W)(ha:Appended W W' (w.heap.size+1) 119 5 v6 v6' k ((ls++ms).flatMap spc)):BlJ w x v6' v7 (ls++ms) es W':=by
 have hk:k=(ls++ms).length:=(ZI Zu (by decide) ha.own).symm
 subst hk
 have hne: ∀q,v6.ownBlock=some q→w.heap.size+1≤q:=fun q e=>(Zw h.o6 e).1
 refine⟨ha.own,Qb h.o7 ha h.ap,fun q e1 e2=> ?_,fun i u hu=> ?_,h.bel.trans ((Below.refl w.heap.size W).grown ha.grown (Nat.le_of_lt h.lt) fun j e=>by have:=hne j e;omega),Nat.lt_of_lt_of_le h.lt ha.grown.size⟩
 ·rcases ha.place with e|⟨g,e,hg⟩
  ·exact h.ap q (by rw[← e];exact e1) e2
  ·have:=(Zw h.o7 e2).2.1
   rw[e] at e1
   injection e1 with e1
   omega
 ·exact(World.cell?_of_block (a:=⟨w.heap.size,i,none⟩) (ha.grown.block w.heap.size h.lt fun e=>by have:=hne _ e.symm;omega)).trans (h.cp i u hu)
theorem BlJ.app7 (h:BlJ w x v6 v7 ls es W)(ha:Appended W W' (w.heap.size+1) 119 5 v7 v7' k ((es++ms).flatMap spc)):BlJ w x v6 v7' ls (es++ms) W':=(h.swap.app6 ha).swap
theorem BlJ.told (h:BlJ w x v6 v7 ls es W):Told w W v6 v7 ls es:=⟨Yd h.o6 (by omega),Yd h.o7 (by omega),h.ap,h.bel⟩
end
theorem ZcS (W:World)(q:Sp):Rs spc 5 (W.alloc (.cells (spc q).toArray 119)) (W.alloc (.cells (spc q).toArray 119)).heap.size (some ⟨W.heap.size,0,none⟩) 1 1 [q]:=
 Rs.of_blk Zu (heap_alloc_new W _) ⟨[],by simp⟩ rfl lR (by unfold maxLen;omega)
theorem ZU:(Tryz.prog.info? 119).map (fun i=>(i.zero,i.size,i.bytes))=some (some zSp,5,32):=by kernel_rfl
def Zka (w:World)(x:Nd)(ks:F)(a s:Nat)(v6 v7 v8 v10:Value)(wr:World):Prop:= ∃(i:Nat) (f r:F),
 v10= .int .i64 (i:Int)∧v8= .int .i64 ((a+1+f.flat.length:Nat):Int)∧i≤ks.num∧ks=f.app r∧f.num=i∧
 BlJ w x v6 v7 (labS a x s++labT (a+1) f ((Zo x s).take i)) (effS a x s++effT (a+1) f ((Zo x s).take i)) wr
theorem Zy (A:Option Addr)(n c B:Nat)(l:List Nd)(hn:n≤1000): ∀(m:Nat) (x:Nd) (ks:F) (a s:Nat) (w:World) (post:List Nd),(F.cons x ks .nil).flat.length≤m→(F.cons x ks .nil).wf→l.drop a=(F.cons x ks .nil).flat++post→s≤2→Ns w B A n c l→B≤w.heap.size→
  Calls Tryz.prog 119 #[.slice A n c,.int .i64 (a:Int),.int .u8 (s:Int)] w fun e w'=> ∃v u,e= .returned (.tuple #[v,u,.int .i64 ((a+(F.cons x ks .nil).flat.length:Nat):Int)])∧Told w w' v u (labT a (.cons x ks .nil) [s]) (effT a (.cons x ks .nil) [s]):=by
 intro m
 induction m with
 |zero=>
  intro x ks a s w post hm
  simp[F.flat] at hm
 |succ m ih=>
  intro x ks a s w post hm hwf hd hs h hB
  have HL:=Hd h.len
  have hd':l.drop a=x::(ks.flat++post):=by rw[hd];simp[F.flat]
  have ha':a < l.length:=by
   rcases Nat.lt_or_ge a l.length with h|h
   ·exact h
   ·rw[List.drop_eq_nil_of_le h] at hd';cases hd'
  have hx:l[a]=x:=by
   rw[List.drop_eq_getElem_cons ha'] at hd'
   injection hd'
  have hrest:l.drop (a+1)=ks.flat++post:=by
   rw[List.drop_eq_getElem_cons ha'] at hd'
   injection hd'
  have han:a < n:=by rw[← HL.out];exact ha'
  have hlen:(F.cons x ks .nil).flat.length=ks.flat.length+1:=by simp[F.flat]
  have hfl:a+1+ks.flat.length≤n:=by
   have:=congrArg List.length hrest
   rw[List.length_drop,List.length_append,HL.out] at this
   omega
  obtain⟨hmay,hxn,hk8,hkw,-⟩:=hwf
  have hqn:x.n.toNat=ks.num:=by omega
  have HRT:=Hd hrest
  have HLT:Hid (labT a (.cons x ks .nil) [s]=labS a x s++labT (a+1) ks (Zo x s)):=Hd (ZgZ a x ks s)
  have HET:Hid (effT a (.cons x ks .nil) [s]=effS a x s++effT (a+1) ks (Zo x s)):=Hd (Zg0 a x ks s)
  have HKW:=Hd hkw
  have HIH:=Hd ih
  have HH:=Hd h
  have HBL:Hid ((Zo x s).length=ks.num):=Hd (by rw[VU s hmay,hqn])
  have HBA:Hid (∀i,i < ks.num→ ∃h:i < (Zo x s).length,(Zo x s)[i]=if x.k=5∧i=0 then VB s else if x.k=4 then 2 else s):=Hd fun i hi=>Zg1 hmay (by omega)
  have HBE:Hid (∀y∈Zo x s,y≤2):=Hd (below_le hs)
  rw[hlen]
  obtain⟨b,o,rfl,hbb,c0,c1,c2,c3,c4,c5,c6,c7,c8,c9⟩:=h.node ha'
  rw[hx] at c0 c1 c2 c3 c4 c5 c6 c7 c8 c9
  have hlm:ks.flat.length≤m:=by omega
  have HLM:=Hd hlm
  have HSL:Hid (labS a x s=⟨a,0,s,x.lv,x.ln⟩::(if x.k=5 then [⟨a,1,VB s,x.pv,x.pn⟩] else [])):=Hd rfl
  have HSE:Hid (effS a x s=if x.k=5 then [⟨a,2,s,x.ev,x.en⟩] else []):=Hd rfl
  clear hrest hd hd' hx hlen hm hkw ih h hlm
  obtain⟨q,hq⟩: ∃q,ks.num=q:=⟨_,rfl⟩
  rw[hq] at HBL HBA hk8 hqn hxn
  have HQ:=Hd hq
  obtain⟨x',hx'⟩: ∃x',x'=x:=⟨_,rfl⟩
  rw[← hx'] at HLT HET HBL HBA HBE HSL HSE hmay ⊢
  obtain⟨xk,xm,xs,xn,xlv,xln,xpv,xpn,xev,xen⟩:=x
  simp only at c0 c1 c2 c3 c4 c5 c6 c7 c8 c9 hxn hqn
  subst hxn
  have HX:=Hd hx'
  have HXK:Hid (x'.k=xk):=Hd (by rw[hx'])
  have HS1:Hid (labS a x' s=⟨a,0,s,xlv,xln⟩::(if xk=5 then [⟨a,1,VB s,xpv,xpn⟩] else [])):=Hd (by rw[HSL.out,hx'])
  have HS2:Hid (effS a x' s=if xk=5 then [⟨a,2,s,xev,xen⟩] else []):=Hd (by rw[HSE.out,hx'])
  have HCPX:Hid (ndc x'= [.int .u8 xk,.int .i64 xm,.string (str xs),.int .i64 (q:Int),.bool xlv,.int .u64 xln,.bool xpv,.int .u64 xpn,.bool xev,.int .u64 xen]):=Hd (by rw[hx'];rfl)
  clear hx' hq hmay hqn HSL HSE
  have hmx:Tryz.prog.follows .mixedOrders=true:=by kernel_rfl
  have hal1:Below w.heap.size w (w.alloc (.cells #[.int .u8 xk,.int .i64 xm,.string (str xs),.int .i64 (q:Int),.bool xlv,.int .u64 xln,.bool xpv,.int .u64 xpn,.bool xev,.int .u64 xen] 77)):=bA
  have J0:BlJ w x' (.slice none 0 0) (.slice none 0 0) [] [] (w.alloc (.cells #[.int .u8 xk,.int .i64 xm,.string (str xs),.int .i64 (q:Int),.bool xlv,.int .u64 xln,.bool xpv,.int .u64 xpn,.bool xev,.int .u64 xen] 77)):=
   ⟨World.ownsRow_nil _ _ _ _,World.ownsRow_nil _ _ _ _,(fun _ e=>by cases e),fun i u hu=>by
    rw[HCPX.out] at hu
    rw[Za (heap_alloc_new w _), ← hu, ← Array.getElem?_toList],hal1,by simp⟩
  have k0:=J0.cp 0 _ (by rw[HCPX.out];rfl)
  have k4:=J0.cp 4 _ (by rw[HCPX.out];rfl)
  have k5:=J0.cp 5 _ (by rw[HCPX.out];rfl)
  have HJ0:=Hd J0
  have hsz1:w.heap.size+1≤(w.alloc (.cells #[.int .u8 xk,.int .i64 xm,.string (str xs),.int .i64 (q:Int),.bool xlv,.int .u64 xln,.bool xpv,.int .u64 xpn,.bool xev,.int .u64 xen] 77)).heap.size:=by simp
  clear J0 hal1
  obtain⟨w1,hw1⟩: ∃w1,w1=w.alloc (.cells #[.int .u8 xk,.int .i64 xm,.string (str xs),.int .i64 (q:Int),.bool xlv,.int .u64 xln,.bool xpv,.int .u64 xpn,.bool xev,.int .u64 xen] 77):=⟨_,rfl⟩
  have hob:Below w1.heap.size w1 (w1.alloc (.cells #[.int .i64 (a:Int),.int .u8 0,.int .u8 (s:Int),.bool xlv,.int .u64 xln] 119)):=bA
  have HJ1:=Hd ((show BlJ w x' (.slice none 0 0) (.slice none 0 0) [] [] w1 by rw[hw1];exact HJ0.out).behind hob)
  have HO1:=Hd (show Rs spc 5 (w1.alloc (.cells #[.int .i64 (a:Int),.int .u8 0,.int .u8 (s:Int),.bool xlv,.int .u64 xln] 119)) (w1.alloc (.cells #[.int .i64 (a:Int),.int .u8 0,.int .u8 (s:Int),.bool xlv,.int .u64 xln] 119)).heap.size (some ⟨w1.heap.size,0,none⟩) 1 1 [⟨a,0,s,xlv,xln⟩] from ZcS w1 ⟨a,0,s,xlv,xln⟩)
  rw[show w1.heap.size=w.heap.size+1 by rw[hw1];simp] at HO1
  rw[hw1] at HJ1 HO1
  have hsz2:w.heap.size+1≤((w.alloc (.cells #[.int .u8 xk,.int .i64 xm,.string (str xs),.int .i64 (q:Int),.bool xlv,.int .u64 xln,.bool xpv,.int .u64 xpn,.bool xev,.int .u64 xen] 77)).alloc (.cells #[.int .i64 (a:Int),.int .u8 0,.int .u8 (s:Int),.bool xlv,.int .u64 xln] 119)).heap.size:=by simp
  clear hob hw1 w1 hsz1
  have hwa:(a:Int)+1≤9223372036854775807:=by omega
  by_cases h5:xk=5
  case neg=>
   have h5':(xk==5)=false:=by simpa using h5
   rw[if_neg h5] at HS1 HS2
   go_enter Tryz.func119,Tryz.ntmps119
   go_wp2_with (at_builtin;refine Zm Zu (by decide) Vo Tryz.underlying40 ZU rfl (by decide) rfl (.tmp 19) (.tmp 25) rfl (w.heap.size+1) _ 0 [] rfl HJ1.out.o6 _ _ 1 1 [⟨a,0,s,xlv,xln⟩] rfl HO1.out (by omega) hsz2 ?_;intro A6 n6 cc6 w3 HK HA;have J:=HJ1.out.app6 (ls:= []) (ms:= [⟨a,0,s,xlv,xln⟩]) HA.out;have k0:=J.cp 0 _ (by rw[HCPX.out];rfl);have k3:=J.cp 3 _ (by rw[HCPX.out];rfl);have HJ:=Hd J;clear J)
   rw[List.nil_append, ← HS1.out] at HJ
   rw[← HS2.out] at HJ
   clear HJ0 HJ1 HO1 HA HK hsz2 c0 c1 c2 c3 c4 c5 c6 c7 c8 c9 k0 k3
   go_loopw [6,7,8,10] (fun v6 v7 v8 v10 wr=>Zka w x' ks a s v6 v7 v8 v10 wr) (fun _ _ _ v10 _=>q - (intOf v10).toNat)
   case atStart=>exact⟨0,.nil,ks,rfl,by go_num,Nat.zero_le _,rfl,rfl,by simpa [labT,effT,F.flat,F.sd,lab,eff] using HJ.out⟩
   case round=>
    clear HJ
    obtain⟨i,f,r,rfl,rfl,hi,hks,hfn,J⟩:=hrel
    have HKS:=Hd hks
    have HFN:=Hd hfn
    have k0:=J.cp 0 _ (by rw[HCPX.out];rfl)
    have k3:=J.cp 3 _ (by rw[HCPX.out];rfl)
    obtain⟨hfw,hrw⟩:=F.wf_app f r (by rw[← HKS.out];exact HKW.out)
    have HFW:=Hd hfw
    have hfr:ks.flat.length=f.flat.length+r.flat.length:=by rw[HKS.out,F.app_flat,List.length_append]
    clear hks hfn hfw
    have hl6:=YB f.flat (a+1) (f.sd ((Zo x' s).take i))
    have hl7:=YC f.flat (a+1) (f.sd ((Zo x' s).take i))
    have hs6:=(Kv a x' s).2
    have hs7:=Kw a x' s
    by_cases hlt:i < q
    ·have hrn:r.num=q - i:=by
      have:=congrArg F.num HKS.out
      rw[F.app_num,HFN.out,HQ.out] at this
      omega
     rcases r with _|⟨y,cs,r'⟩
     ·simp[F.num] at hrn;omega
     obtain⟨hb,hside⟩:=HBA.out i hlt
     obtain⟨t,ht⟩: ∃t,(Zo x' s)[i]=t:=⟨_,rfl⟩
     have ht2:t≤2:=by rw[← ht];exact HBE.out _ (List.getElem_mem hb)
     have HTK:Hid ((Zo x' s).take (i+1)=(Zo x' s).take i++ [t]):=Hd (by rw[List.take_succ_eq_append_getElem hb,ht])
     rw[ht,HXK.out] at hside
     have hwT:(F.cons y cs .nil).wf:=⟨hrw.1,hrw.2.1,hrw.2.2.1,hrw.2.2.2.1,trivial⟩
     have hdT:l.drop (a+1+f.flat.length)=(F.cons y cs .nil).flat++(r'.flat++post):=by
      rw[← List.drop_drop,HRT.out,HKS.out,F.app_flat,List.append_assoc,List.drop_left]
      simp[F.flat]
     have hmT:(F.cons y cs .nil).flat.length≤m:=by
      have:=HLM.out
      have e:(F.cons y cs r').flat.length=(F.cons y cs .nil).flat.length+r'.flat.length:=by simp[F.flat];omega
      omega
     have hfT:f.flat.length+(F.cons y cs .nil).flat.length≤ks.flat.length:=by
      have e:(F.cons y cs r').flat.length=(F.cons y cs .nil).flat.length+r'.flat.length:=by simp[F.flat];omega
      omega
     have HAPP:Hid (ks=(f.app (.cons y cs .nil)).app r'∧(f.app (.cons y cs .nil)).num=i+1):=Hd ⟨by rw[F.app_assoc,HKS.out];rfl,by rw[F.app_num,HFN.out];rfl⟩
     have htk:((Zo x' s).take i).length=f.num:=by rw[List.length_take,HFN.out];omega
     have HLAB:Hid (labT (a+1) (f.app (.cons y cs .nil)) ((Zo x' s).take (i+1))=labT (a+1) f ((Zo x' s).take i)++labT (a+1+f.flat.length) (.cons y cs .nil) [t]):=Hd (by rw[HTK.out];exact ZcQ HFW.out htk)
     have HEFF:Hid (effT (a+1) (f.app (.cons y cs .nil)) ((Zo x' s).take (i+1))=effT (a+1) f ((Zo x' s).take i)++effT (a+1+f.flat.length) (.cons y cs .nil) [t]):=Hd (by rw[HTK.out];exact ZcR HFW.out htk)
     have HLEN:Hid (a+1+(f.app (.cons y cs .nil)).flat.length=a+1+f.flat.length+(F.cons y cs .nil).flat.length):=Hd (by rw[F.app_flat,List.length_append];omega)
     have hcall:=HIH.out y cs (a+1+f.flat.length) t wr (r'.flat++post) hmT hwT hdT ht2 (HH.out.below (J.bel.mono hB)) (Nat.le_trans hB J.bel.size)
     have hm6:=YB (F.cons y cs .nil).flat (a+1+f.flat.length) ((F.cons y cs .nil).sd [t])
     have hm7:=YC (F.cons y cs .nil).flat (a+1+f.flat.length) ((F.cons y cs .nil).sd [t])
     have hN6:(labS a x' s++labT (a+1) f ((Zo x' s).take i)).length+(labT (a+1+f.flat.length) (.cons y cs .nil) [t]).length≤100000:=by
      rw[List.length_append];unfold labT;omega
     have hN7:(effS a x' s++effT (a+1) f ((Zo x' s).take i)).length+(effT (a+1+f.flat.length) (.cons y cs .nil) [t]).length≤100000:=by
      rw[List.length_append];unfold effT;omega
     clear hl6 hl7 hs6 hs7 hm6 hm7 htk hfT hmT hdT hwT hrw hrn hfr ht hb HTK
     have HJ:=Hd J
     have HC:=Hd hcall
     clear J hcall
     generalize labT (a+1+f.flat.length) (.cons y cs .nil) [t]=lt at*
     generalize effT (a+1+f.flat.length) (.cons y cs .nil) [t]=et at*
     generalize hT:a+1+f.flat.length=aT at*
     generalize hT2:aT+(F.cons y cs .nil).flat.length=eT at*
     rw[if_neg (by omega)] at hside
     by_cases h4:xk=4
     ·subst h4
      rw[if_pos rfl] at hside
      subst hside
      go_wp2_with fail
      refine HC.out.mono ?_
      rintro e w2 ⟨v,u,rfl,hT'⟩
      have HJ2:=Hd (HJ.out.behind hT'.bel)
      obtain⟨Av,cv,rfl⟩:=Zk hT'.o2
      obtain⟨Au,cu,rfl⟩:=Zk hT'.o3
      have HO:=Hd hT'
      have hge: ∀qb,(Value.slice Au et.length cu).ownBlock=some qb→wr.heap.size≤qb:=fun qb e=>(Zw hT'.o3 e).1
      have HGE:=Hd hge
      have hsz:=Nat.succ_le_of_lt HJ2.out.lt
      clear hT' hge
      go_wp2_with (at_builtin;first|(refine Zm Zu (by decide) Vo Tryz.underlying40 ZU rfl (by decide) rfl (.tmp 76) (.tmp 77) rfl (w.heap.size+1) _ _ _ rfl HJ2.out.o6 _ _ _ _ lt rfl (Rs.of_own Zu (by decide) HO.out.o2) hN6 hsz ?_;intro A6' n6' c6' w3' HK6 HA6;have J3:=HJ2.out.app6 (ms:=lt) HA6.out;have o3:=Qb HO.out.o3 HA6.out (fun qb e1 e2=>by have h1:=(Zw HJ.out.o6 e1).2.1;have h2:=HGE.out qb e2;omega);have HJ3:=Hd J3;have HR3:=Hd (Rs.of_own Zu (by decide) o3);have hsz3:=Nat.succ_le_of_lt J3.lt;clear J3 o3 HK6)|(refine Zm Zu (by decide) Vo Tryz.underlying40 ZU rfl (by decide) rfl (.tmp 79) (.tmp 80) rfl (w.heap.size+1) _ _ _ rfl HJ3.out.o7 _ _ _ _ et rfl HR3.out hN7 hsz3 ?_;intro A7' n7' c7' w4' HK7 HA7))
      have HJ4:=Hd (HJ3.out.app7 (ms:=et) HA7.out)
      go_roundw
      case rel=>exact⟨i+1,f.app (.cons y cs .nil),r',by go_num,by rw[HLEN.out],by rw[HQ.out];omega,HAPP.out.1,HAPP.out.2,by rw[HLAB.out,HEFF.out, ← List.append_assoc, ← List.append_assoc];exact HJ4.out⟩
      case measure=>simp[intOf];omega
     ·have h4':(xk==4)=false:=by simpa using h4
      rw[if_neg h4] at hside
      subst hside
      go_wp2_with fail
      refine HC.out.mono ?_
      rintro e w2 ⟨v,u,rfl,hT'⟩
      have HJ2:=Hd (HJ.out.behind hT'.bel)
      obtain⟨Av,cv,rfl⟩:=Zk hT'.o2
      obtain⟨Au,cu,rfl⟩:=Zk hT'.o3
      have HO:=Hd hT'
      have hge: ∀qb,(Value.slice Au et.length cu).ownBlock=some qb→wr.heap.size≤qb:=fun qb e=>(Zw hT'.o3 e).1
      have HGE:=Hd hge
      have hsz:=Nat.succ_le_of_lt HJ2.out.lt
      clear hT' hge
      go_wp2_with (at_builtin;first|(refine Zm Zu (by decide) Vo Tryz.underlying40 ZU rfl (by decide) rfl (.tmp 76) (.tmp 77) rfl (w.heap.size+1) _ _ _ rfl HJ2.out.o6 _ _ _ _ lt rfl (Rs.of_own Zu (by decide) HO.out.o2) hN6 hsz ?_;intro A6' n6' c6' w3' HK6 HA6;have J3:=HJ2.out.app6 (ms:=lt) HA6.out;have o3:=Qb HO.out.o3 HA6.out (fun qb e1 e2=>by have h1:=(Zw HJ.out.o6 e1).2.1;have h2:=HGE.out qb e2;omega);have HJ3:=Hd J3;have HR3:=Hd (Rs.of_own Zu (by decide) o3);have hsz3:=Nat.succ_le_of_lt J3.lt;clear J3 o3 HK6)|(refine Zm Zu (by decide) Vo Tryz.underlying40 ZU rfl (by decide) rfl (.tmp 79) (.tmp 80) rfl (w.heap.size+1) _ _ _ rfl HJ3.out.o7 _ _ _ _ et rfl HR3.out hN7 hsz3 ?_;intro A7' n7' c7' w4' HK7 HA7))
      have HJ4:=Hd (HJ3.out.app7 (ms:=et) HA7.out)
      go_roundw
      case rel=>exact⟨i+1,f.app (.cons y cs .nil),r',by go_num,by rw[HLEN.out],by rw[HQ.out];omega,HAPP.out.1,HAPP.out.2,by rw[HLAB.out,HEFF.out, ← List.append_assoc, ← List.append_assoc];exact HJ4.out⟩
      case measure=>simp[intOf];omega
    ·obtain rfl:i=q:=by have:=HQ.out;omega
     have hr0:r.num=0:=by
      have:=congrArg F.num HKS.out
      rw[F.app_num,HFN.out,HQ.out] at this
      omega
     obtain rfl:r= .nil:=by
      cases r with
      |nil=>rfl
      |cons _ _ _=>simp[F.num] at hr0
     have HF:Hid (ks=f):=Hd (by rw[HKS.out,F.app_nil])
     have HST:Hid ((Zo x' s).take i=Zo x' s):=Hd (List.take_of_length_le (by rw[HBL.out];exact Nat.le_refl _))
     have HTD:=Hd J.told
     have HFL:Hid (a+1+f.flat.length=a+(ks.flat.length+1)):=Hd (by rw[HF.out];omega)
     clear J hl6 hl7 hs6 hs7 hrw hr0 hfr
     generalize a+1+f.flat.length=aT at*
     go_wp2
     refine bodyPost_ret (v:= .tuple #[_,_,.int .i64 (aT:Int)]) (by simp[results,Tryz.results119,go_sem];exact⟨rfl,rfl⟩) rfl ⟨_,_,by rw[← HFL.out],?_⟩
     rw[HLT.out,HET.out,HF.out]
     have:=HTD.out
     rw[HST.out] at this
     exact this
  case pos=>
   subst h5
   rw[if_pos rfl] at HS1 HS2
   go_enter Tryz.func119,Tryz.ntmps119
   go_wp2_with (at_builtin;refine Zm Zu (by decide) Vo Tryz.underlying40 ZU rfl (by decide) rfl (.tmp 19) (.tmp 25) rfl (w.heap.size+1) _ 0 [] rfl HJ1.out.o6 _ _ 1 1 [⟨a,0,s,xlv,xln⟩] rfl HO1.out (by omega) hsz2 ?_;intro A6 n6 cc6 w3 HK HA;have J:=HJ1.out.app6 (ls:= []) (ms:= [⟨a,0,s,xlv,xln⟩]) HA.out;have k0:=J.cp 0 _ (by rw[HCPX.out];rfl);have k6:=J.cp 6 _ (by rw[HCPX.out];rfl);have k7:=J.cp 7 _ (by rw[HCPX.out];rfl);have HJ:=Hd J;clear J)
   clear HJ0 HJ1 HO1 HA HK hsz2 c0 c1 c2 c3 c4 c5 c6 c7 c8 c9 k0
   generalize Value.slice A6 n6 cc6=v6 at*
   refine U6 [0,1,2,4,5,3,6,7,8,9] [3,7,8] 10 (fun w'=>w'.cell? ⟨w.heap.size,6,none⟩=some (.bool xpv)∧w'.cell? ⟨w.heap.size,7,none⟩=some (.int .u64 xpn)) hmx (by kernel_rfl) (by kernel_rfl) (by kernel_rfl) (fun _ _ _ _ _ h=>h) ⟨k6,k7⟩ ?_
   simp only[steps,sE,sD]
   repeat(first|(refine Zf (v:= ?_) rfl rfl ?_ ?_;rotate_left;(focus(rintro w' ⟨hS0,hS1⟩;go_simp;try with_reducible rfl));try simp only[Act.put,sA,sB,sC]))
   have JD:=HJ.out.behind ((Below.refl _ w3).drew)
   refine Ze rfl rfl (fun K hK=> ?_)
   go_simp
   refine(Yc s _).mono ?_
   rintro e wt ⟨rfl,rfl⟩
   refine hK.out _ _ (fun _=>⟨k6,k7⟩) ?_
   clear hK K
   repeat(first|(refine Zf (v:= ?_) rfl rfl ?_ ?_;rotate_left;(focus(rintro w' ⟨hS0,hS1⟩;go_simp;try with_reducible rfl));try simp only[Act.put,sA,sB,sC]))
   refine Ze rfl rfl (fun K hK=> ?_)
   go_simp
   have hal:Below w3.heap.size w3 ((w3.alloc (.cells #[.int .i64 (a:Int),.int .u8 1,.int .u8 (VB s:Int),.bool xpv,.int .u64 xpn] 119)).drew):=(bA).drew
   have J4:=HJ.out.behind hal
   refine hK.out _ _ (fun _=>⟨J4.cp 6 _ (by rw[HCPX.out];rfl),J4.cp 7 _ (by rw[HCPX.out];rfl)⟩) ?_
   clear hK K
   try simp only[Act.put,sA,sB,sC]
   refine Ze rfl rfl (fun K hK=> ?_)
   refine VN (.tmp 30) (.tmp 37) rfl (w.heap.size+1) v6 _ ([]++ [⟨a,0,s,xlv,xln⟩]) rfl J4.o6 w3.heap.size ⟨a,1,VB s,xpv,xpn⟩ rfl (heap_alloc_new w3 _) (by simp) (Nat.succ_le_of_lt J4.lt) ?_
   intro A5 c5' w5 HA5
   have J5:=J4.app6 (ms:= [⟨a,1,VB s,xpv,xpn⟩]) HA5.out
   change BlJ w x' (.slice A5 2 c5') _ _ _ _ at J5
   refine hK.out _ _ (fun _=>⟨J5.cp 6 _ (by rw[HCPX.out];rfl),J5.cp 7 _ (by rw[HCPX.out];rfl)⟩) ?_
   clear hK K
   try simp only[Act.put,sA,sB,sC]
   repeat(first|(refine Zf (v:= ?_) rfl rfl ?_ ?_;rotate_left;(focus(rintro w' ⟨hS0,hS1⟩;go_simp;try with_reducible rfl));try simp only[Act.put,sA,sB,sC]))
   refine Zi ?_
   have k8:=J5.cp 8 _ (by rw[HCPX.out];rfl)
   have k9:=J5.cp 9 _ (by rw[HCPX.out];rfl)
   have hob:Below w5.heap.size w5 (w5.alloc (.cells #[.int .i64 (a:Int),.int .u8 2,.int .u8 (s:Int),.bool xev,.int .u64 xen] 119)):=bA
   have HJ6:=Hd (J5.behind hob)
   have HO6:=Hd (show Rs spc 5 (w5.alloc (.cells #[.int .i64 (a:Int),.int .u8 2,.int .u8 (s:Int),.bool xev,.int .u64 xen] 119)) (w5.alloc (.cells #[.int .i64 (a:Int),.int .u8 2,.int .u8 (s:Int),.bool xev,.int .u64 xen] 119)).heap.size (some ⟨w5.heap.size,0,none⟩) 1 1 [⟨a,2,s,xev,xen⟩] from ZcS w5 ⟨a,2,s,xev,xen⟩)
   have hsz6:=Nat.succ_le_of_lt HJ6.out.lt
   clear HJ JD J4 J5 HA5 hal hob k6 k7
   generalize Value.slice A5 2 c5'=v6' at*
   go_wp2_with (at_builtin;refine Zm Zu (by decide) Vo Tryz.underlying40 ZU rfl (by decide) rfl (.tmp 39) (.tmp 45) rfl (w.heap.size+1) _ 0 [] rfl HJ6.out.o7 _ _ 1 1 [⟨a,2,s,xev,xen⟩] rfl HO6.out (by omega) hsz6 ?_;intro A7 n7 cc7 w7 HK HA;have J:=HJ6.out.app7 (es:= []) (ms:= [⟨a,2,s,xev,xen⟩]) HA.out;have HJ:=Hd J;clear J)
   rw[List.nil_append,List.nil_append] at HJ
   rw[← HS2.out,show([⟨a,0,s,xlv,xln⟩]++ [⟨a,1,VB s,xpv,xpn⟩]:List Sp)= [⟨a,0,s,xlv,xln⟩,⟨a,1,VB s,xpv,xpn⟩] from rfl, ← HS1.out] at HJ
   clear HJ6 HO6 HA HK hsz6 k8 k9
   go_loopw [6,7,8,10] (fun v6 v7 v8 v10 wr=>Zka w x' ks a s v6 v7 v8 v10 wr) (fun _ _ _ v10 _=>q - (intOf v10).toNat)
   case atStart=>exact⟨0,.nil,ks,rfl,by go_num,Nat.zero_le _,rfl,rfl,by simpa [labT,effT,F.flat,F.sd,lab,eff] using HJ.out⟩
   case round=>
    clear HJ
    obtain⟨i,f,r,rfl,rfl,hi,hks,hfn,J⟩:=hrel
    have HKS:=Hd hks
    have HFN:=Hd hfn
    have k0:=J.cp 0 _ (by rw[HCPX.out];rfl)
    have k3:=J.cp 3 _ (by rw[HCPX.out];rfl)
    obtain⟨hfw,hrw⟩:=F.wf_app f r (by rw[← HKS.out];exact HKW.out)
    have HFW:=Hd hfw
    have hfr:ks.flat.length=f.flat.length+r.flat.length:=by rw[HKS.out,F.app_flat,List.length_append]
    clear hks hfn hfw
    have hl6:=YB f.flat (a+1) (f.sd ((Zo x' s).take i))
    have hl7:=YC f.flat (a+1) (f.sd ((Zo x' s).take i))
    have hs6:=(Kv a x' s).2
    have hs7:=Kw a x' s
    by_cases hlt:i < q
    ·have hrn:r.num=q - i:=by
      have:=congrArg F.num HKS.out
      rw[F.app_num,HFN.out,HQ.out] at this
      omega
     rcases r with _|⟨y,cs,r'⟩
     ·simp[F.num] at hrn;omega
     obtain⟨hb,hside⟩:=HBA.out i hlt
     obtain⟨t,ht⟩: ∃t,(Zo x' s)[i]=t:=⟨_,rfl⟩
     have ht2:t≤2:=by rw[← ht];exact HBE.out _ (List.getElem_mem hb)
     have HTK:Hid ((Zo x' s).take (i+1)=(Zo x' s).take i++ [t]):=Hd (by rw[List.take_succ_eq_append_getElem hb,ht])
     rw[ht,HXK.out] at hside
     have hwT:(F.cons y cs .nil).wf:=⟨hrw.1,hrw.2.1,hrw.2.2.1,hrw.2.2.2.1,trivial⟩
     have hdT:l.drop (a+1+f.flat.length)=(F.cons y cs .nil).flat++(r'.flat++post):=by
      rw[← List.drop_drop,HRT.out,HKS.out,F.app_flat,List.append_assoc,List.drop_left]
      simp[F.flat]
     have hmT:(F.cons y cs .nil).flat.length≤m:=by
      have:=HLM.out
      have e:(F.cons y cs r').flat.length=(F.cons y cs .nil).flat.length+r'.flat.length:=by simp[F.flat];omega
      omega
     have hfT:f.flat.length+(F.cons y cs .nil).flat.length≤ks.flat.length:=by
      have e:(F.cons y cs r').flat.length=(F.cons y cs .nil).flat.length+r'.flat.length:=by simp[F.flat];omega
      omega
     have HAPP:Hid (ks=(f.app (.cons y cs .nil)).app r'∧(f.app (.cons y cs .nil)).num=i+1):=Hd ⟨by rw[F.app_assoc,HKS.out];rfl,by rw[F.app_num,HFN.out];rfl⟩
     have htk:((Zo x' s).take i).length=f.num:=by rw[List.length_take,HFN.out];omega
     have HLAB:Hid (labT (a+1) (f.app (.cons y cs .nil)) ((Zo x' s).take (i+1))=labT (a+1) f ((Zo x' s).take i)++labT (a+1+f.flat.length) (.cons y cs .nil) [t]):=Hd (by rw[HTK.out];exact ZcQ HFW.out htk)
     have HEFF:Hid (effT (a+1) (f.app (.cons y cs .nil)) ((Zo x' s).take (i+1))=effT (a+1) f ((Zo x' s).take i)++effT (a+1+f.flat.length) (.cons y cs .nil) [t]):=Hd (by rw[HTK.out];exact ZcR HFW.out htk)
     have HLEN:Hid (a+1+(f.app (.cons y cs .nil)).flat.length=a+1+f.flat.length+(F.cons y cs .nil).flat.length):=Hd (by rw[F.app_flat,List.length_append];omega)
     have hcall:=HIH.out y cs (a+1+f.flat.length) t wr (r'.flat++post) hmT hwT hdT ht2 (HH.out.below (J.bel.mono hB)) (Nat.le_trans hB J.bel.size)
     have hm6:=YB (F.cons y cs .nil).flat (a+1+f.flat.length) ((F.cons y cs .nil).sd [t])
     have hm7:=YC (F.cons y cs .nil).flat (a+1+f.flat.length) ((F.cons y cs .nil).sd [t])
     have hN6:(labS a x' s++labT (a+1) f ((Zo x' s).take i)).length+(labT (a+1+f.flat.length) (.cons y cs .nil) [t]).length≤100000:=by
      rw[List.length_append];unfold labT;omega
     have hN7:(effS a x' s++effT (a+1) f ((Zo x' s).take i)).length+(effT (a+1+f.flat.length) (.cons y cs .nil) [t]).length≤100000:=by
      rw[List.length_append];unfold effT;omega
     clear hl6 hl7 hs6 hs7 hm6 hm7 htk hfT hmT hdT hwT hrw hrn hfr ht hb HTK
     have HJ:=Hd J
     have HC:=Hd hcall
     clear J hcall
     generalize labT (a+1+f.flat.length) (.cons y cs .nil) [t]=lt at*
     generalize effT (a+1+f.flat.length) (.cons y cs .nil) [t]=et at*
     generalize hT:a+1+f.flat.length=aT at*
     generalize hT2:aT+(F.cons y cs .nil).flat.length=eT at*
     by_cases h0:i=0
     ·have h0':((i:Int)==0)=true:=by simp;omega
      rw[if_pos ⟨rfl,h0⟩] at hside
      subst hside
      clear h0
      go_wp2_with fail
      refine(Yc s _).mono ?_
      rintro e wt ⟨rfl,rfl⟩
      go_wp2_with fail
      refine HC.out.mono ?_
      rintro e w2 ⟨v,u,rfl,hT'⟩
      have HJ2:=Hd (HJ.out.behind hT'.bel)
      obtain⟨Av,cv,rfl⟩:=Zk hT'.o2
      obtain⟨Au,cu,rfl⟩:=Zk hT'.o3
      have HO:=Hd hT'
      have hge: ∀qb,(Value.slice Au et.length cu).ownBlock=some qb→wr.heap.size≤qb:=fun qb e=>(Zw hT'.o3 e).1
      have HGE:=Hd hge
      have hsz:=Nat.succ_le_of_lt HJ2.out.lt
      clear hT' hge
      go_wp2_with (at_builtin;first|(refine Zm Zu (by decide) Vo Tryz.underlying40 ZU rfl (by decide) rfl (.tmp 76) (.tmp 77) rfl (w.heap.size+1) _ _ _ rfl HJ2.out.o6 _ _ _ _ lt rfl (Rs.of_own Zu (by decide) HO.out.o2) hN6 hsz ?_;intro A6' n6' c6' w3' HK6 HA6;have J3:=HJ2.out.app6 (ms:=lt) HA6.out;have o3:=Qb HO.out.o3 HA6.out (fun qb e1 e2=>by have h1:=(Zw HJ.out.o6 e1).2.1;have h2:=HGE.out qb e2;omega);have HJ3:=Hd J3;have HR3:=Hd (Rs.of_own Zu (by decide) o3);have hsz3:=Nat.succ_le_of_lt J3.lt;clear J3 o3 HK6)|(refine Zm Zu (by decide) Vo Tryz.underlying40 ZU rfl (by decide) rfl (.tmp 79) (.tmp 80) rfl (w.heap.size+1) _ _ _ rfl HJ3.out.o7 _ _ _ _ et rfl HR3.out hN7 hsz3 ?_;intro A7' n7' c7' w4' HK7 HA7))
      have HJ4:=Hd (HJ3.out.app7 (ms:=et) HA7.out)
      go_roundw
      case rel=>exact⟨i+1,f.app (.cons y cs .nil),r',by go_num,by rw[HLEN.out],by rw[HQ.out];omega,HAPP.out.1,HAPP.out.2,by rw[HLAB.out,HEFF.out, ← List.append_assoc, ← List.append_assoc];exact HJ4.out⟩
      case measure=>simp[intOf];omega
     ·have h0':((i:Int)==0)=false:=by simp;omega
      rw[if_neg (by omega),if_neg (by decide)] at hside
      subst hside
      clear h0
      go_wp2_with fail
      refine HC.out.mono ?_
      rintro e w2 ⟨v,u,rfl,hT'⟩
      have HJ2:=Hd (HJ.out.behind hT'.bel)
      obtain⟨Av,cv,rfl⟩:=Zk hT'.o2
      obtain⟨Au,cu,rfl⟩:=Zk hT'.o3
      have HO:=Hd hT'
      have hge: ∀qb,(Value.slice Au et.length cu).ownBlock=some qb→wr.heap.size≤qb:=fun qb e=>(Zw hT'.o3 e).1
      have HGE:=Hd hge
      have hsz:=Nat.succ_le_of_lt HJ2.out.lt
      clear hT' hge
      go_wp2_with (at_builtin;first|(refine Zm Zu (by decide) Vo Tryz.underlying40 ZU rfl (by decide) rfl (.tmp 76) (.tmp 77) rfl (w.heap.size+1) _ _ _ rfl HJ2.out.o6 _ _ _ _ lt rfl (Rs.of_own Zu (by decide) HO.out.o2) hN6 hsz ?_;intro A6' n6' c6' w3' HK6 HA6;have J3:=HJ2.out.app6 (ms:=lt) HA6.out;have o3:=Qb HO.out.o3 HA6.out (fun qb e1 e2=>by have h1:=(Zw HJ.out.o6 e1).2.1;have h2:=HGE.out qb e2;omega);have HJ3:=Hd J3;have HR3:=Hd (Rs.of_own Zu (by decide) o3);have hsz3:=Nat.succ_le_of_lt J3.lt;clear J3 o3 HK6)|(refine Zm Zu (by decide) Vo Tryz.underlying40 ZU rfl (by decide) rfl (.tmp 79) (.tmp 80) rfl (w.heap.size+1) _ _ _ rfl HJ3.out.o7 _ _ _ _ et rfl HR3.out hN7 hsz3 ?_;intro A7' n7' c7' w4' HK7 HA7))
      have HJ4:=Hd (HJ3.out.app7 (ms:=et) HA7.out)
      go_roundw
      case rel=>exact⟨i+1,f.app (.cons y cs .nil),r',by go_num,by rw[HLEN.out],by rw[HQ.out];omega,HAPP.out.1,HAPP.out.2,by rw[HLAB.out,HEFF.out, ← List.append_assoc, ← List.append_assoc];exact HJ4.out⟩
      case measure=>simp[intOf];omega
    ·obtain rfl:i=q:=by have:=HQ.out;omega
     have hr0:r.num=0:=by
      have:=congrArg F.num HKS.out
      rw[F.app_num,HFN.out,HQ.out] at this
      omega
     obtain rfl:r= .nil:=by
      cases r with
      |nil=>rfl
      |cons _ _ _=>simp[F.num] at hr0
     have HF:Hid (ks=f):=Hd (by rw[HKS.out,F.app_nil])
     have HST:Hid ((Zo x' s).take i=Zo x' s):=Hd (List.take_of_length_le (by rw[HBL.out];exact Nat.le_refl _))
     have HTD:=Hd J.told
     have HFL:Hid (a+1+f.flat.length=a+(ks.flat.length+1)):=Hd (by rw[HF.out];omega)
     clear J hl6 hl7 hs6 hs7 hrw hr0 hfr
     generalize a+1+f.flat.length=aT at*
     go_wp2
     refine bodyPost_ret (v:= .tuple #[_,_,.int .i64 (aT:Int)]) (by simp[results,Tryz.results119,go_sem];exact⟨rfl,rfl⟩) rfl ⟨_,_,by rw[← HFL.out],?_⟩
     rw[HLT.out,HET.out,HF.out]
     have:=HTD.out
     rw[HST.out] at this
     exact this
end Go.Proofs.YtfmpecnkkbpdlaaGreatDoor
