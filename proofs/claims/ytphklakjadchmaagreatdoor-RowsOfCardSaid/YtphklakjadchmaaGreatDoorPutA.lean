import Derived.Test.YtphklakjadchmaaGreatDoorKeep
import Derived.Test.YtphklakjadchmaaGreatDoorLiv
import Derived.Test.YtphklakjadchmaaGreatDoorTwT
namespace Go.Proofs.YtphklakjadchmaaGreatDoor.I
open Go.RowKit
theorem TwL.len {w:World}{g:Nat}{l:List (List Bool)}(h:TwL w g l){i:Nat}(hi:i < l.length): ∃gi,w.cell? ⟨g,i,none⟩=some (.slice (some ⟨gi,0,none⟩) l[i].length (l[i].length+1))∧TwB w gi l[i]:=by
 obtain⟨gs,gm,h1,h2,h3⟩:=h.ex
 have hg:i < gs.length:=by omega
 have hz:i < (List.zipWith hdv gs l).length:=by simp[h1,hi]
 refine⟨gs[i],?_,h3 i hg hi⟩
 rw[cell_blk h2,List.getElem?_toArray,List.getElem?_append_left hz,List.getElem?_eq_getElem hz,List.getElem_zipWith]
 rfl
theorem TwL.mark {w:World}{g:Nat}{l:List (List Bool)}(h:TwL w g l): ∃gm,w.cell? ⟨g,l.length,none⟩=some (.slice (some ⟨gm,0,none⟩) 77 77):=by
 obtain⟨gs,gm,h1,h2,h3⟩:=h.ex
 refine⟨gm,?_⟩
 have hz:(List.zipWith hdv gs l).length=l.length:=by simp[h1]
 rw[cell_blk h2,List.getElem?_toArray,List.getElem?_append_right (by omega),hz]
 simp
theorem TwLA.off {B:Nat}{w W:World}{g q:Nat}{l:List (List Bool)}{cs:Array Value}(h:TwLA B w g l)(hq:w.heap[q]?=some (.cells cs 28 (0,0)))(hk: ∀b,b≠q→W.heap[b]?=w.heap[b]?):TwLA B W g l:=by
 obtain⟨gs,gm,h1,h2,ha,h3⟩:=h.ex
 have ht: ∀(g t:Nat) (cs:Array Value),w.heap[g]?=some (.cells cs t (0,0))→t≠28→g≠q:=fun g t cs hg hne e=>by
  rw[e,hq] at hg
  injection hg with hg
  injection hg with _ hg
  exact hne hg.symm
 exact⟨gs,gm,h1,(hk _ (ht _ _ _ h2 (by decide))).trans h2,ha,fun i a b=>⟨(hk _ (ht _ _ _ (h3 i a b).blk (by decide))).trans (h3 i a b).blk⟩⟩
set_option maxRecDepth 100000 in
set_option maxHeartbeats 2000000 in
theorem leftLi_any (A:Option Addr)(g n c:Nat)(l:List (List Bool))(w:World)(ht:TwL w g l)(h:BRows w w.heap.size A n c l)(hn:n≤100000)(hr: ∀r∈l,r.length≤100000):
  Calls Tryz.prog 45 #[.slice (some ⟨g,0,none⟩) n (n+1),.slice A n c] w fun e w'=>e= .returned (.bool true)∧Below w.heap.size w w':=by
 have HL:=Lib.hid h.len
 have HT:Hid (∀W,Below w.heap.size w W→TwL W g l):=Lib.hid fun W hW=>ht.keep hW
 have HR:Hid (∀W,Below w.heap.size w W→BRows W W.heap.size A n c l):=Lib.hid fun W hW=>h.at_size (Nat.le_refl _) hW
 have HRR:=Lib.hid hr
 have HN:=Lib.hid hn
 have hne:((n:Int) !=(n:Int))=false:=by simp
 have hn1: ¬n+1≤n:=by omega
 have hsl:=fun W=>La.slice_to (P:=Tryz.prog) W 26 42 Tryz.underlying26 bl_size g n (n+1) (n+1) (by omega)
 have hsl': ∀W,(Instr.slice 26 (.slice (some ⟨g,0,none⟩) n (n+1)) none (some (.int .i64 ((n:Int)+1))) none).run Tryz.prog W= .ok (.slice (some ⟨g,0,none⟩) (n+1) (n+1)) W:=by
  intro W
  have:=hsl W
  rwa [Int.natCast_add] at this
 clear hsl ht h hr
 go_enter Tryz.func45,Tryz.ntmps45
 go_wp2
 clear hne hn1
 go_loopw [5] (fun i5 wr=> ∃k:Nat,i5= .int .i64 (k:Int)∧k≤n∧Below w.heap.size w wr) (fun i5 _=>n - (intOf i5).toNat)
 case atStart=>exact⟨0,rfl,by omega,Below.refl _ _⟩
 case round=>
  obtain⟨k,rfl,hk,hb⟩:=hrel
  by_cases hlt:k < n
  ·have hk':k < l.length:=by rw[HL.out];exact hlt
   have hbd:=hb.trans ((Below.refl wr.heap.size wr).drew.mono hb.size)
   obtain⟨gi,hc1,-⟩:=(HT.out _ hbd).len hk'
   obtain⟨b,o,A',n',c',rfl,-,hc2,hrd⟩:=(HR.out _ hbd).row hk'
   have hn':=hrd.len
   have hin:(k:Int) < (n:Int):=by omega
   rw[hn'] at hc1
   have HS:Hid (∀W,Below wr.drew.heap.size wr.drew W→W.cell? ⟨g,k,none⟩=some (.slice (some ⟨gi,0,none⟩) n' (n'+1))∧W.cell? ⟨b,o+k,none⟩=some (.slice A' n' c')):=Lib.hid fun W hW=>⟨cell_old hc1 hW,cell_old hc2 hW⟩
   have HCALL:Hid (Calls Tryz.prog 110 #[.slice (some ⟨gi,0,none⟩) n' (n'+1),.slice A' n' c'] wr.drew fun e w'=>e= .returned (.bool true)∧Below wr.drew.heap.size wr.drew w'):=Lib.hid (by
    obtain⟨gj,hc3,htb⟩:=(HT.out _ hbd).len hk'
    rw[hn',hc1] at hc3
    injection hc3 with hc3
    injection hc3 with hc3
    injection hc3 with hc3
    injection hc3 with hc3
    subst hc3
    exact leftBo_any _ A' gi n' c' _ _ htb hrd (by rw[← hn'];exact HRR.out _ (List.getElem_mem hk')))
   have HBD:=Lib.hid hbd
   have HLT:Hid (n=k+1+(n - (k+1))):=Lib.hid (by omega)
   have hsz:Below wr.drew.heap.size wr.drew wr.drew:=Below.refl _ _
   clear hc1 hc2 hrd hn' hb hbd hlt hk
   go_wp2_with fail
   refine wp_region_ord [0,1,2,3,4,5,6,7,8,9] [8] 10 (fun W=>W.cell? ⟨g,k,none⟩=some (.slice (some ⟨gi,0,none⟩) n' (n'+1))∧W.cell? ⟨b,o+k,none⟩=some (.slice A' n' c')) (by kernel_rfl) (by kernel_rfl) (by kernel_rfl) (by kernel_rfl) (fun _ _ _ _ _ h=>h) (HS.out _ hsz) ?_
   simp only[steps,List.getElem?_cons_zero,List.getElem?_cons_succ]
   repeat(first
    |(refine ord_no rfl ?_;simp only[Act.put,List.setIfInBounds_toArray,List.set_cons_zero,List.set_cons_succ])
    |(refine ord_yes (v:= ?_) rfl rfl ?_ ?_;rotate_left;(focus(rintro w' ⟨x0,x1⟩;go_simp;try with_reducible rfl));simp only[Act.put,List.setIfInBounds_toArray,List.set_cons_zero,List.set_cons_succ]))
   generalize wr.drew=wd at*
   refine ord_hard rfl rfl (fun K hK=> ?_)
   go_simp
   refine HCALL.out.mono ?_
   rintro e w1 ⟨rfl,hv⟩
   have HB1:=Lib.hid (HBD.out.trans (hv.mono HBD.out.size))
   refine hK.out _ _ (fun _=>HS.out _ hv) ?_
   clear hK K hv
   try simp only[Act.put,List.setIfInBounds_toArray,List.set_cons_zero,List.set_cons_succ]
   repeat(first
    |(refine ord_no rfl ?_;simp only[Act.put,List.setIfInBounds_toArray,List.set_cons_zero,List.set_cons_succ])
    |(refine ord_yes (v:= ?_) rfl rfl ?_ ?_;rotate_left;(focus(rintro w' ⟨x0,x1⟩;go_simp;try with_reducible rfl));simp only[Act.put,List.setIfInBounds_toArray,List.set_cons_zero,List.set_cons_succ]))
   refine ord_end ?_
   have hkb:k≤100000:=by have:=HLT.out;have:=HN.out;omega
   clear hin hsz
   go_wp2_with fail
   go_roundw
   case rel=>exact⟨k+1,by have:=HLT.out;go_num,by have:=HLT.out;omega,HB1.out⟩
   case measure=>
    have:=HLT.out
    simp[intOf]
    omega
  ·obtain rfl:k=n:=by omega
   obtain⟨gm,hm⟩:=(HT.out _ hb).mark
   rw[HL.out] at hm
   clear hlt hk
   go_wp2_with fail
   go_ret
   exact⟨rfl,hb⟩
structure TwSen (w0 w:World)(g1 g2 g3 g4:Nat)(z:Sen)(n1 n2 n3 n4:Nat):Prop where
 t1:TwinP w0 w g1 n1 z.p
 t2:La.TwinOf w0 w g2 n2 z.lo
 t3:La.TwinOf w0 w g3 n3 z.hi
 t4:TwLA w0.heap.size w g4 z.be
 l4:z.be.length=n4
 ne:g2≠g3
theorem TwSen.keep {w0 w W:World}{g1 g2 g3 g4:Nat}{z:Sen}{n1 n2 n3 n4:Nat}(h:TwSen w0 w g1 g2 g3 g4 z n1 n2 n3 n4)(hb:Below w.heap.size w W):TwSen w0 W g1 g2 g3 g4 z n1 n2 n3 n4:=⟨h.t1.keep hb,h.t2.keep hb,h.t3.keep hb,h.t4.keep hb,h.l4,h.ne⟩
theorem TwSen.at {w0 w:World}{g1 g2 g3 g4:Nat}{z:Sen}{n1 n2 n3 n4:Nat}(h:TwSen w0 w g1 g2 g3 g4 z n1 n2 n3 n4)(fl:La.Fit z.lo)(fh:La.Fit z.hi)(hn:n4≤1000)(hr: ∀r∈z.be,r.length≤1000):SenAt w z (some ⟨g1,0,none⟩) n1 (n1+1) (some ⟨g2,0,none⟩) n2 (n2+1) (some ⟨g3,0,none⟩) n3 (n3+1) (some ⟨g4,0,none⟩) n4 (n4+1):=
 ⟨h.t1.rs,h.t2.rd,h.t3.rd,by rw[← h.l4];exact h.t4.tw.rows (by rw[h.l4];omega) (fun r k=>by have:=hr r k;omega),fl,fh⟩
structure B4 (w:World)(g:Nat)(A1:Option Addr)(n1 c1:Nat)(A2:Option Addr)(n2 c2:Nat)(A3:Option Addr)(n3 c3:Nat)(A4:Option Addr)(n4 c4:Nat):Prop where
 p0:w.cell? ⟨g,0,none⟩=some (.slice A1 n1 c1)
 p1:w.cell? ⟨g,1,none⟩=some (.slice A2 n2 c2)
 p2:w.cell? ⟨g,2,none⟩=some (.slice A3 n3 c3)
 p3:w.cell? ⟨g,3,none⟩=some (.slice A4 n4 c4)
theorem B4.keep {w W:World}{g:Nat}{A1:Option Addr}{n1 c1:Nat}{A2:Option Addr}{n2 c2:Nat}{A3:Option Addr}{n3 c3:Nat}{A4:Option Addr}{n4 c4:Nat}(h:B4 w g A1 n1 c1 A2 n2 c2 A3 n3 c3 A4 n4 c4)(hb:Below w.heap.size w W):B4 W g A1 n1 c1 A2 n2 c2 A3 n3 c3 A4 n4 c4:=⟨cell_old h.p0 hb,cell_old h.p1 hb,cell_old h.p2 hb,cell_old h.p3 hb⟩
theorem B4.blk {w:World}{g:Nat}{A1:Option Addr}{n1 c1:Nat}{A2:Option Addr}{n2 c2:Nat}{A3:Option Addr}{n3 c3:Nat}{A4:Option Addr}{n4 c4:Nat}(h:w.heap[g]?=some (.cells #[.slice A1 n1 c1,.slice A2 n2 c2,.slice A3 n3 c3,.slice A4 n4 c4] 28 (0,0))):B4 w g A1 n1 c1 A2 n2 c2 A3 n3 c3 A4 n4 c4:=⟨(cell_blk (i:=0) h).trans rfl,(cell_blk (i:=1) h).trans rfl,(cell_blk (i:=2) h).trans rfl,(cell_blk (i:=3) h).trans rfl⟩
def ZSen (w:World)(g:Nat):Prop:=w.heap[g]?=some (.cells #[.slice none 0 0,.slice none 0 0,.slice none 0 0,.slice none 0 0] 28 (0,0))
theorem ZSen.keep {w W:World}{g:Nat}(h:ZSen w g)(hb:Below w.heap.size w W):ZSen W g:=(hb.block g (lt_blk h)).trans h
set_option maxRecDepth 100000 in
set_option maxHeartbeats 4000000 in
theorem twinSen_any (A1:Option Addr)(n1 c1:Nat)(A2:Option Addr)(n2 c2:Nat)(A3:Option Addr)(n3 c3:Nat)(A4:Option Addr)(n4 c4:Nat)(z:Sen)(w:World)(h:SenAt w z A1 n1 c1 A2 n2 c2 A3 n3 c3 A4 n4 c4)(hn1:n1≤1000)(hn2:n2≤1000)(hn3:n3≤1000)(hn4:n4≤1000)(hr: ∀r∈z.be,r.length≤1000):
  Calls Tryz.prog 8 #[senV A1 n1 c1 A2 n2 c2 A3 n3 c3 A4 n4 c4] w fun e w'=> ∃g1 g2 g3 g4,e= .returned (senV (some ⟨g1,0,none⟩) n1 (n1+1) (some ⟨g2,0,none⟩) n2 (n2+1) (some ⟨g3,0,none⟩) n3 (n3+1) (some ⟨g4,0,none⟩) n4 (n4+1))∧TwSen w w' g1 g2 g3 g4 z n1 n2 n3 n4∧Below w.heap.size w w':=by
 unfold senV
 have HN1:=Lib.hid hn1
 have HN2:=Lib.hid hn2
 have HN3:=Lib.hid hn3
 have HN4:=Lib.hid hn4
 have HRR:=Lib.hid hr
 have hal:Below w.heap.size w (w.alloc (.cells #[.slice A1 n1 c1,.slice A2 n2 c2,.slice A3 n3 c3,.slice A4 n4 c4] 28)):=(Below.refl _ _).alloc (Nat.le_refl _) _
 have hz:=B4.blk (heap_alloc_new w (.cells #[.slice A1 n1 c1,.slice A2 n2 c2,.slice A3 n3 c3,.slice A4 n4 c4] 28))
 obtain⟨wa,hwa⟩: ∃wa,w.alloc (.cells #[.slice A1 n1 c1,.slice A2 n2 c2,.slice A3 n3 c3,.slice A4 n4 c4] 28)=wa:=⟨_,rfl⟩
 rw[hwa] at hz hal
 have hsa:wa.heap.size=w.heap.size+1:=by rw[← hwa,World.size_alloc]
 have hy:ZSen (wa.alloc (.cells #[.slice none 0 0,.slice none 0 0,.slice none 0 0,.slice none 0 0] 28)) wa.heap.size:=heap_alloc_new wa _
 have hv:Below wa.heap.size wa (wa.alloc (.cells #[.slice none 0 0,.slice none 0 0,.slice none 0 0,.slice none 0 0] 28)):=(Below.refl _ _).alloc (Nat.le_refl _) _
 rw[hsa] at hy
 replace hz:=hz.keep hv
 have hb:=hal.trans (hv.mono hal.size)
 have h2:=h.keep hb
 clear hv hal hsa h hn1 hn2 hn3 hn4 hr
 subst hwa
 have HB:=Lib.hid hb
 have H:=Lib.hid h2
 clear hb h2
 go_enter Tryz.func8,Tryz.ntmps8
 go_wp2_with fail
 generalize (w.alloc (.cells #[.slice A1 n1 c1,.slice A2 n2 c2,.slice A3 n3 c3,.slice A4 n4 c4] 28)).alloc (.cells #[.slice none 0 0,.slice none 0 0,.slice none 0 0,.slice none 0 0] 28)=w1 at*
 refine wp_region_ord [0,1,3,4,6,7,9,10,2,5,8,11,12,13] [2,5,8,11,13] 14 (fun w'=>B4 w' w.heap.size A1 n1 c1 A2 n2 c2 A3 n3 c3 A4 n4 c4) (by kernel_rfl) (by kernel_rfl) (by kernel_rfl) (by kernel_rfl) (fun _ _ _ _ _ h=>h) (hz.keep (Below.refl _ w1).drew) ?_
 simp only[steps,List.getElem?_cons_zero,List.getElem?_cons_succ]
 repeat(first
  |(refine ord_no rfl ?_;simp only[Act.put,List.setIfInBounds_toArray,List.set_cons_zero,List.set_cons_succ])
  |(refine ord_yes (v:= ?_) rfl rfl ?_ ?_;rotate_left;(focus(rintro w' ⟨hS0,hS1,hS2,hS3⟩;go_simp;try with_reducible rfl));simp only[Act.put,List.setIfInBounds_toArray,List.set_cons_zero,List.set_cons_succ]))
 have hv:Below w1.heap.size w1 w1.drew:=(Below.refl _ _).drew
 replace hz:=hz.keep hv
 replace hy:=hy.keep hv
 have hb2:=HB.out.trans (hv.mono HB.out.size)
 have h2:=H.out.keep hv
 clear HB H hv
 have HB:=Lib.hid hb2
 have H:=Lib.hid h2
 clear hb2 h2
 generalize w1.drew=w2 at*
 refine ord_hard rfl rfl (fun K hK=> ?_)
 go_simp
 refine(twinP_any A1 n1 c1 z.p w2 H.out.rp HN1.out).mono ?_
 rintro e w3 ⟨g1,rfl,t1,hv⟩
 replace hz:=hz.keep hv
 replace hy:=hy.keep hv
 have hb2:=HB.out.trans (hv.mono HB.out.size)
 have h2:=H.out.keep hv
 have hsz1:=HB.out.size
 clear HB H hv
 have HB:=Lib.hid hb2
 have H:=Lib.hid h2
 clear hb2 h2
 refine hK.out _ _ (fun _=>hz) ?_
 clear hK K
 try simp only[Act.put,List.setIfInBounds_toArray,List.set_cons_zero,List.set_cons_succ]
 refine ord_hard rfl rfl (fun K hK=> ?_)
 go_simp
 refine(La.twin_any A2 n2 c2 z.lo w3 H.out.rl (by have:=HN2.out;omega)).mono ?_
 rintro e w4 ⟨g2,rfl,t2,hv⟩
 replace hz:=hz.keep hv
 replace hy:=hy.keep hv
 replace t1:=t1.keep hv
 have hb2:=HB.out.trans (hv.mono HB.out.size)
 have h2:=H.out.keep hv
 have hsz2:=HB.out.size
 clear HB H hv
 have HB:=Lib.hid hb2
 have H:=Lib.hid h2
 clear hb2 h2
 refine hK.out _ _ (fun _=>hz) ?_
 clear hK K
 try simp only[Act.put,List.setIfInBounds_toArray,List.set_cons_zero,List.set_cons_succ]
 refine ord_hard rfl rfl (fun K hK=> ?_)
 go_simp
 refine(La.twin_any A3 n3 c3 z.hi w4 H.out.rh (by have:=HN3.out;omega)).mono ?_
 rintro e w5 ⟨g3,rfl,t3,hv⟩
 have hne:g2≠g3:=by
  have h1:=t2.lt
  have h2:=t3.old
  omega
 replace hz:=hz.keep hv
 replace hy:=hy.keep hv
 replace t1:=t1.keep hv
 replace t2:=t2.keep hv
 have hb2:=HB.out.trans (hv.mono HB.out.size)
 have h2:=H.out.keep hv
 have hsz3:=HB.out.size
 clear HB H hv
 have HB:=Lib.hid hb2
 have H:=Lib.hid h2
 clear hb2 h2
 refine hK.out _ _ (fun _=>hz) ?_
 clear hK K
 try simp only[Act.put,List.setIfInBounds_toArray,List.set_cons_zero,List.set_cons_succ]
 refine ord_hard rfl rfl (fun K hK=> ?_)
 go_simp
 have H4L:=Lib.hid H.out.rb.len
 refine(twinLi_any A4 n4 c4 z.be w5 H.out.rb HN4.out HRR.out).mono ?_
 rintro e w6 ⟨g4,rfl,t4,hv⟩
 replace t4:=t4.mono HB.out.size
 replace hz:=hz.keep hv
 replace hy:=hy.keep hv
 replace t1:=t1.keep hv
 replace t2:=t2.keep hv
 replace t3:=t3.keep hv
 have hb2:=HB.out.trans (hv.mono HB.out.size)
 clear HB H hv
 have HB:=Lib.hid hb2
 clear hb2
 refine hK.out _ _ (fun _=>hz) ?_
 clear hK K
 try simp only[Act.put,List.setIfInBounds_toArray,List.set_cons_zero,List.set_cons_succ]
 repeat(first
  |(refine ord_no rfl ?_;simp only[Act.put,List.setIfInBounds_toArray,List.set_cons_zero,List.set_cons_succ])
  |(refine ord_yes (v:= ?_) rfl rfl ?_ ?_;rotate_left;(focus(rintro w' ⟨hS0,hS1,hS2,hS3⟩;go_simp;try with_reducible rfl));simp only[Act.put,List.setIfInBounds_toArray,List.set_cons_zero,List.set_cons_succ]))
 have HT:Hid (TwSen w w6 g1 g2 g3 g4 z n1 n2 n3 n4):=Lib.hid ⟨⟨t1.len,t1.top,Nat.le_trans hsz1 t1.old,t1.blk⟩,⟨t2.len,t2.top,Nat.le_trans hsz2 t2.old,t2.blk⟩,⟨t3.len,t3.top,Nat.le_trans hsz3 t3.old,t3.blk⟩,t4,H4L.out,hne⟩
 have HG:Hid (g1≠w.heap.size+1∧g2≠w.heap.size+1∧g3≠w.heap.size+1):=Lib.hid (by
  have ht: ∀(g t:Nat) (cs:Array Value),w6.heap[g]?=some (.cells cs t (0,0))→t≠28→g≠w.heap.size+1:=fun g t cs hg hne e=>by
   have hh:=hy
   unfold ZSen at hh
   rw[← e,hg] at hh
   injection hh with hh
   injection hh with _ hh
   exact hne hh
  exact⟨ht _ _ _ t1.blk (by decide),ht _ _ _ t2.blk (by decide),ht _ _ _ t3.blk (by decide)⟩)
 clear hne t1 t2 t3 t4 hsz1 hsz2 hsz3
 have o0:w6.cell? ⟨w.heap.size+1,0,none⟩=some (.slice none 0 0):=by rw[cell_blk hy];rfl
 have o1:w6.cell? ⟨w.heap.size+1,1,none⟩=some (.slice none 0 0):=by rw[cell_blk hy];rfl
 have o2:w6.cell? ⟨w.heap.size+1,2,none⟩=some (.slice none 0 0):=by rw[cell_blk hy];rfl
 have o3:w6.cell? ⟨w.heap.size+1,3,none⟩=some (.slice none 0 0):=by rw[cell_blk hy];rfl
 have fz: ∀i,w6.frozen? ⟨w.heap.size+1,i,none⟩=false:=fun i=>frozen_blk hy
 have f0:=fz 0
 have f1:=fz 1
 have f2:=fz 2
 have f3:=fz 3
 clear fz
 refine ord_hard rfl rfl (fun K hK=> ?_)
 go_simp
 obtain⟨w7,hw7⟩: ∃w7,w7=(((w6.setCell ⟨w.heap.size+1,0,none⟩ (.slice (some ⟨g1,0,none⟩) n1 (n1+1))).setCell ⟨w.heap.size+1,1,none⟩ (.slice (some ⟨g2,0,none⟩) n2 (n2+1))).setCell ⟨w.heap.size+1,2,none⟩ (.slice (some ⟨g3,0,none⟩) n3 (n3+1))).setCell ⟨w.heap.size+1,3,none⟩ (.slice (some ⟨g4,0,none⟩) n4 (n4+1)):=⟨_,rfl⟩
 have hbs:Below (w.heap.size+1) w6 w7:=hw7▸((((Below.refl _ w6).setCell (p:=⟨w.heap.size+1,0,none⟩) (Nat.le_refl _) _).setCell (p:=⟨w.heap.size+1,1,none⟩) (Nat.le_refl _) _).setCell (p:=⟨w.heap.size+1,2,none⟩) (Nat.le_refl _) _).setCell (p:=⟨w.heap.size+1,3,none⟩) (Nat.le_refl _) _
 have hblk:w7.heap[w.heap.size+1]?=some (.cells #[.slice (some ⟨g1,0,none⟩) n1 (n1+1),.slice (some ⟨g2,0,none⟩) n2 (n2+1),.slice (some ⟨g3,0,none⟩) n3 (n3+1),.slice (some ⟨g4,0,none⟩) n4 (n4+1)] 28 (0,0)):=by
  rw[hw7,set_blk (set_blk (set_blk (set_blk hy _) _) _) _]
  rfl
 have hoth: ∀b,b≠w.heap.size+1→w7.heap[b]?=w6.heap[b]?:=fun b hne=>by
  rw[hw7]
  exact(Below.heap_setCell _ _ _ _ hne).trans ((Below.heap_setCell _ _ _ _ hne).trans ((Below.heap_setCell _ _ _ _ hne).trans (Below.heap_setCell _ _ _ _ hne)))
 have hbx:B4 w7 w.heap.size A1 n1 c1 A2 n2 c2 A3 n3 c3 A4 n4 c4:=
  ⟨(hbs.cell (p:=⟨w.heap.size,0,none⟩) (Nat.lt_succ_self _)).trans hz.p0,(hbs.cell (p:=⟨w.heap.size,1,none⟩) (Nat.lt_succ_self _)).trans hz.p1,(hbs.cell (p:=⟨w.heap.size,2,none⟩) (Nat.lt_succ_self _)).trans hz.p2,(hbs.cell (p:=⟨w.heap.size,3,none⟩) (Nat.lt_succ_self _)).trans hz.p3⟩
 have HT2:Hid (TwSen w w7 g1 g2 g3 g4 z n1 n2 n3 n4):=Lib.hid ⟨⟨HT.out.t1.len,HT.out.t1.top,HT.out.t1.old,(hoth _ HG.out.1).trans HT.out.t1.blk⟩,⟨HT.out.t2.len,HT.out.t2.top,HT.out.t2.old,(hoth _ HG.out.2.1).trans HT.out.t2.blk⟩,⟨HT.out.t3.len,HT.out.t3.top,HT.out.t3.old,(hoth _ HG.out.2.2).trans HT.out.t3.blk⟩,HT.out.t4.off hy hoth,HT.out.l4,HT.out.ne⟩
 have HB2:Hid (Below w.heap.size w w7):=Lib.hid (HB.out.trans ⟨hbs.os,hbs.tape,hbs.output,hbs.size,fun b hb=>hbs.block b (by omega)⟩)
 rw[← hw7]
 clear hw7 hoth hbs o0 o1 o2 o3 f0 f1 f2 f3 hy hz HB HT HG
 refine hK.out _ _ (fun _=>hbx) ?_
 clear hK K hbx
 try simp only[Act.put,List.setIfInBounds_toArray,List.set_cons_zero,List.set_cons_succ]
 refine ord_end ?_
 go_wp2_with fail
 exact bodyPost_ret (results_cell_row (P:=Tryz.prog) rfl _ _ (w.heap.size+1) 28 _ (0,0) _ rfl hblk Tryz.underlying28 rfl rfl) rfl ⟨g1,g2,g3,g4,rfl,HT2.out,HB2.out⟩
set_option maxRecDepth 100000 in
set_option maxHeartbeats 2000000 in
theorem leftSen_any (w0:World)(g1 g2 g3 g4:Nat)(A1:Option Addr)(n1 c1:Nat)(A2:Option Addr)(n2 c2:Nat)(A3:Option Addr)(n3 c3:Nat)(A4:Option Addr)(n4 c4:Nat)(z:Sen)(w:World)(ht:TwSen w0 w g1 g2 g3 g4 z n1 n2 n3 n4)(h:SenAt w z A1 n1 c1 A2 n2 c2 A3 n3 c3 A4 n4 c4)(hn:n4≤1000)(hr: ∀r∈z.be,r.length≤1000):
  Calls Tryz.prog 20 #[senV (some ⟨g1,0,none⟩) n1 (n1+1) (some ⟨g2,0,none⟩) n2 (n2+1) (some ⟨g3,0,none⟩) n3 (n3+1) (some ⟨g4,0,none⟩) n4 (n4+1),senV A1 n1 c1 A2 n2 c2 A3 n3 c3 A4 n4 c4] w fun e w'=>e= .returned (.bool true)∧Below w.heap.size w w':=by
 unfold senV
 have h8:=B8.new w (some ⟨g1,0,none⟩) n1 (n1+1) (some ⟨g2,0,none⟩) n2 (n2+1) (some ⟨g3,0,none⟩) n3 (n3+1) (some ⟨g4,0,none⟩) n4 (n4+1) A1 n1 c1 A2 n2 c2 A3 n3 c3 A4 n4 c4
 have hb:=two_bel w (.cells #[.slice (some ⟨g1,0,none⟩) n1 (n1+1),.slice (some ⟨g2,0,none⟩) n2 (n2+1),.slice (some ⟨g3,0,none⟩) n3 (n3+1),.slice (some ⟨g4,0,none⟩) n4 (n4+1)] 28) (.cells #[.slice A1 n1 c1,.slice A2 n2 c2,.slice A3 n3 c3,.slice A4 n4 c4] 28)
 obtain⟨y,hy⟩: ∃y,(w.alloc (.cells #[.slice (some ⟨g1,0,none⟩) n1 (n1+1),.slice (some ⟨g2,0,none⟩) n2 (n2+1),.slice (some ⟨g3,0,none⟩) n3 (n3+1),.slice (some ⟨g4,0,none⟩) n4 (n4+1)] 28)).alloc (.cells #[.slice A1 n1 c1,.slice A2 n2 c2,.slice A3 n3 c3,.slice A4 n4 c4] 28)=y:=⟨_,rfl⟩
 rw[hy] at h8 hb
 have HB:=Lib.hid hb
 have H8:=Lib.hid h8
 have HC1:Hid (∀W,Below w.heap.size w W→Calls Tryz.prog 43 #[.slice (some ⟨g1,0,none⟩) n1 (n1+1),.slice A1 n1 c1] W fun e w'=>e= .returned (.bool true)∧Below W.heap.size W w'):=Lib.hid fun W hW=>leftP_any _ _ A1 g1 n1 c1 z.p W (ht.keep hW).t1 (h.keep hW).rp
 have HC2:Hid (∀W,Below w.heap.size w W→Calls Tryz.prog 44 #[.slice (some ⟨g2,0,none⟩) n2 (n2+1),.slice A2 n2 c2] W fun e w'=>e= .returned (.bool true)∧Below W.heap.size W w'):=Lib.hid fun W hW=>(La.left_any _ _ A2 g2 n2 c2 z.lo W (ht.keep hW).t2 (h.keep hW).rl).mono fun e w' ⟨e1,k,e2⟩=>⟨e1,e2▸La.below_drewN _ _⟩
 have HC3:Hid (∀W,Below w.heap.size w W→Calls Tryz.prog 44 #[.slice (some ⟨g3,0,none⟩) n3 (n3+1),.slice A3 n3 c3] W fun e w'=>e= .returned (.bool true)∧Below W.heap.size W w'):=Lib.hid fun W hW=>(La.left_any _ _ A3 g3 n3 c3 z.hi W (ht.keep hW).t3 (h.keep hW).rh).mono fun e w' ⟨e1,k,e2⟩=>⟨e1,e2▸La.below_drewN _ _⟩
 have HC4:Hid (∀W,Below w.heap.size w W→Calls Tryz.prog 45 #[.slice (some ⟨g4,0,none⟩) n4 (n4+1),.slice A4 n4 c4] W fun e w'=>e= .returned (.bool true)∧Below W.heap.size W w'):=Lib.hid fun W hW=>leftLi_any A4 g4 n4 c4 z.be W (ht.keep hW).t4.tw (h.keep hW).rb (by omega) (fun r k=>by have:=hr r k;omega)
 have p0:=h8.p0
 have q0:=h8.q0
 clear h8 hb h ht hn hr
 go_enter Tryz.func20,Tryz.ntmps20
 go_wp2_with fail
 clear hy
 refine(HC1.out _ HB.out).mono ?_
 rintro e w1 ⟨rfl,hv⟩
 have H8':=Lib.hid (H8.out.keep hv)
 have HB1:=Lib.hid (HB.out.trans (hv.mono HB.out.size))
 have p1:=H8'.out.p1
 have q1:=H8'.out.q1
 clear hv p0 q0
 go_wp2_with fail
 refine(HC2.out _ HB1.out).mono ?_
 rintro e w2 ⟨rfl,hv⟩
 have H9:=Lib.hid (H8'.out.keep hv)
 have HB2:=Lib.hid (HB1.out.trans (hv.mono HB1.out.size))
 have p2:=H9.out.p2
 have q2:=H9.out.q2
 clear hv p1 q1
 go_wp2_with fail
 refine(HC3.out _ HB2.out).mono ?_
 rintro e w3 ⟨rfl,hv⟩
 have H10:=Lib.hid (H9.out.keep hv)
 have HB3:=Lib.hid (HB2.out.trans (hv.mono HB2.out.size))
 have p3:=H10.out.p3
 have q3:=H10.out.q3
 clear hv p2 q2
 go_wp2_with fail
 refine(HC4.out _ HB3.out).mono ?_
 rintro e w4 ⟨rfl,hv⟩
 have HB4:=Lib.hid (HB3.out.trans (hv.mono HB3.out.size))
 clear hv p3 q3
 go_wp2_with fail
 go_ret
 exact⟨rfl,HB4.out⟩
end Go.Proofs.YtphklakjadchmaaGreatDoor.I
namespace Go.Proofs.YtphklakjadchmaaGreatDoor
open Go.RowKit
def RowsE (w:World)(A:Option Addr)(n:Nat)(E:Nat→Ent):Prop:= ∀i,i < n→ ∃g,A=some ⟨g,0,none⟩∧w.cell? ⟨g,i,none⟩=some (.slice (E i).A (E i).n (E i).c)
def entsO (E:Nat→Ent)(k i:Nat):List Ent:=(List.range i).map fun j=>⟨(E j).A,(E j).n,(E j).c,k+j+1⟩
theorem entsO_len (E:Nat→Ent)(k i:Nat):(entsO E k i).length=i:=by simp[entsO]
theorem entsO_next (E:Nat→Ent)(k i:Nat):(entsO E k i).flatMap entc++ [.slice (E i).A (E i).n (E i).c,.slice none 0 0,.int .i64 (((k+i:Nat):Int)+1)]=(entsO E k (i+1)).flatMap entc:=by
 rw[entsO,entsO,List.range_succ,List.map_append,List.flatMap_append]
 simp[entc]
abbrev kx (A:Option Addr)(n c k:Nat):List Value:= [.slice A n c,.slice none 0 0,.int .i64 ((k:Int)+1)]
def KbRel (bk k n:Nat)(E:Nat→Ent)(vI:Value)(kI:Nat)(xI:List Value)(vS:Value)(kS:Nat)(xS:List Value)(vM:Value)(kM:Nat)(xM:List Value)(vO:Value)(kO:Nat)(xO:List Value)(vL:Value)(kL:Nat)(xL:List Value)(w:World)(v4:Value)(wr:World):Prop:=
 ∃(i:Nat) (u:Value),v4= .int .i64 (i:Int)∧i≤n∧BookK wr bk (k+i) vI kI xI vS kS xS vM kM xM u (kO+i) (xO++(entsO E k i).flatMap entc) vL kL xL∧(i=0→u=vO)∧Kept (fun b=>bk≤b) w wr
set_option maxRecDepth 100000 in
set_option maxHeartbeats 2000000 in
theorem boolLists_any (bk k n c:Nat)(E:Nat→Ent)(A:Option Addr)(vI:Value)(kI:Nat)(xI:List Value)(vS:Value)(kS:Nat)(xS:List Value)(vM:Value)(kM:Nat)(xM:List Value)(vO:Value)(kO:Nat)(xO:List Value)(vL:Value)(kL:Nat)(xL:List Value)(w0 w:World)(hbk:bk=w0.heap.size)(hR:RowsE w0 A n E)(h0:Kept (fun b=>bk≤b) w0 w)(hB:BookK w bk k vI kI xI vS kS xS vM kM xM vO kO xO vL kL xL)(hn:n≤256)(hk:k≤700)(hkO:kO≤700)(hkL:kL≤700):
  Calls Tryz.prog 38 #[.pointer (some ⟨bk,0,none⟩),.slice A n c] w fun e w'=>e= .returned (.tuple #[])∧ ∃u v',BookK w' bk (k+n+1) vI kI xI vS kS xS vM kM xM u (kO+n) (xO++(entsO E k n).flatMap entc) v' (kL+1) (xL++kx A n c (k+n))∧(n=0→u=vO)∧Kept (fun b=>bk≤b) w w':=by
 have HR:=Lib.hid hR
 have H0:=Lib.hid h0
 have HBK:=Lib.hid hbk
 have HB:=Lib.hid hB
 clear hR h0 hbk hB
 go_enter Tryz.func38,Tryz.ntmps38
 go_wp2
 go_loopw [4] (fun v4 wr=>KbRel bk k n E vI kI xI vS kS xS vM kM xM vO kO xO vL kL xL w v4 wr) (fun v4 _=>n - (intOf v4).toNat)
 case atStart=>exact⟨0,vO,rfl,Nat.zero_le _,by simpa [entsO] using HB.out,fun _=>rfl,Kept.refl _ _⟩
 case round=>
  obtain⟨i,u,rfl,hi,hBk,hnil,hK⟩:=hrel
  have HBk:=Lib.hid hBk
  have HNIL:=Lib.hid hnil
  have HK:=Lib.hid hK
  clear hBk hnil hK
  by_cases hlt:i < n
  ·obtain⟨g,rfl,c0⟩:=HR.out i hlt
   have hgl:=World.block_lt_of_cell? _ _ c0
   have hne: ¬(fun b=>bk≤b) g:=fun h=>by have h:bk≤g:=h;have:=HBK.out;have hgl:g < w0.heap.size:=hgl;omega
   have c1:wr.cell? ⟨g,i,none⟩=some (.slice (E i).A (E i).n (E i).c):=((H0.out.trans HK.out).cell (p:=⟨g,i,none⟩) hgl hne).trans c0
   clear c0 hgl hne
   obtain⟨a,ha⟩: ∃a,(E i).A=a:=⟨_,rfl⟩
   obtain⟨m,hm⟩: ∃a,(E i).n=a:=⟨_,rfl⟩
   obtain⟨d,hd⟩: ∃a,(E i).c=a:=⟨_,rfl⟩
   rw[ha,hm,hd] at c1
   have HA:=Lib.hid ha
   have HM:=Lib.hid hm
   have HD:=Lib.hid hd
   clear ha hm hd
   go_wp2_with fail
   refine(putO_any bk (k+i) vI kI xI vS kS xS vM kM xM u (kO+i) _ vL kL xL a m d _ HBk.out (by omega) (by omega)).mono ?_
   rintro e w1 ⟨rfl,v1,B1,K1⟩
   have K1':=kept_bk K1 HBk.out.oO
   have HREL:Hid (KbRel bk k n E vI kI xI vS kS xS vM kM xM vO kO xO vL kL xL w (.int .i64 ((i:Int)+1)) w1):=Lib.hid ⟨i+1,v1,by go_num,hlt,by
    rw[← HA.out, ← HM.out, ← HD.out,List.append_assoc,entsO_next] at B1
    exact B1,fun h=>absurd h (Nat.succ_ne_zero i),HK.out.trans K1'⟩
   clear B1 K1 K1' c1
   go_wp2_with fail
   go_roundw
   case rel=>exact HREL.out
   case measure=>simp[intOf];omega
  ·obtain rfl:n=i:=by omega
   go_wp2_with fail
   refine(keepL_any bk (k+n) vI kI xI vS kS xS vM kM xM u (kO+n) _ vL kL xL A n c _ HBk.out (by omega) (by omega)).mono ?_
   rintro e w1 ⟨rfl,v1,B1,K1⟩
   have K1':=kept_bk K1 HBk.out.oL
   go_wp2_with fail
   go_end0
   exact⟨rfl,u,v1,B1,HNIL.out,HK.out.trans K1'⟩
set_option maxRecDepth 100000 in
set_option maxHeartbeats 2000000 in
theorem putSen_any (bk k:Nat)(E:Nat→Ent)(vI:Value)(kI:Nat)(xI:List Value)(vS:Value)(kS:Nat)(xS:List Value)(vM:Value)(kM:Nat)(xM:List Value)(vO:Value)(kO:Nat)(xO:List Value)(vL:Value)(kL:Nat)(xL:List Value)(A1:Option Addr)(n1 c1:Nat)(A2:Option Addr)(n2 c2:Nat)(A3:Option Addr)(n3 c3:Nat)(A4:Option Addr)(n4 c4:Nat)(w0 w:World)(hbk:bk=w0.heap.size)(hR:RowsE w0 A4 n4 E)(h0:Kept (fun b=>bk≤b) w0 w)(hB:BookK w bk k vI kI xI vS kS xS vM kM xM vO kO xO vL kL xL)(hn:n4≤256)(hk:k≤690)(hkS:kS≤700)(hkM:kM≤690)(hkO:kO≤700)(hkL:kL≤700):
  Calls Tryz.prog 12 #[.pointer (some ⟨bk,0,none⟩),senV A1 n1 c1 A2 n2 c2 A3 n3 c3 A4 n4 c4] w fun e w'=>e= .returned (.tuple #[])∧ ∃uS uM uO uL,BookK w' bk (k+1+1+1+n4+1) vI kI xI uS (kS+1) (xS++kx A1 n1 c1 k) uM (kM+1+1) (xM++kx A2 n2 c2 (k+1)++kx A3 n3 c3 (k+1+1)) uO (kO+n4) (xO++(entsO E (k+1+1+1) n4).flatMap entc) uL (kL+1) (xL++kx A4 n4 c4 (k+1+1+1+n4))∧(n4=0→uO=vO)∧Kept (fun b=>bk≤b) w w':=by
 unfold senV
 have HR:=Lib.hid hR
 have H0:=Lib.hid h0
 have HBK:=Lib.hid hbk
 have hlt:=lt_blk hB.blk
 have hal:=heap_alloc_new w (.cells #[.slice A1 n1 c1,.slice A2 n2 c2,.slice A3 n3 c3,.slice A4 n4 c4] 28)
 have hb:Below w.heap.size w (w.alloc (.cells #[.slice A1 n1 c1,.slice A2 n2 c2,.slice A3 n3 c3,.slice A4 n4 c4] 28)):=(Below.refl _ _).alloc (Nat.le_refl _) _
 have hB1:BookK (w.alloc (.cells #[.slice A1 n1 c1,.slice A2 n2 c2,.slice A3 n3 c3,.slice A4 n4 c4] 28)) bk k vI kI xI vS kS xS vM kM xM vO kO xO vL kL xL:=⟨(hb.block bk hlt).trans hB.blk,hB.oI.alloc _,hB.oS.alloc _,hB.oM.alloc _,hB.oO.alloc _,hB.oL.alloc _⟩
 have K0:Kept (fun b=>bk≤b) w (w.alloc (.cells #[.slice A1 n1 c1,.slice A2 n2 c2,.slice A3 n3 c3,.slice A4 n4 c4] 28)):=(Kept.refl _ _).alloc _
 obtain⟨g,hg⟩: ∃g,w.heap.size=g:=⟨_,rfl⟩
 rw[hg] at hal
 have z0:=(cell_blk (i:=0) hal).trans rfl
 clear hb hB hR h0 hbk
 go_enter Tryz.func12,Tryz.ntmps12
 go_wp2_with fail
 generalize w.alloc (.cells #[.slice A1 n1 c1,.slice A2 n2 c2,.slice A3 n3 c3,.slice A4 n4 c4] 28)=wa at*
 refine(putS_any bk k vI kI xI vS kS xS vM kM xM vO kO xO vL kL xL A1 n1 c1 wa hB1 (by omega) (by omega)).mono ?_
 rintro e w1 ⟨rfl,v1,hB2,k1⟩
 replace hal:=kept_type k1 hB1.oS hB1.blk hal (by decide) (by decide)
 have K1:=K0.trans (kept_bk k1 hB1.oS)
 have z1:=(cell_blk (i:=1) hal).trans rfl
 clear K0 k1 hB1 z0
 subst hg
 go_wp2_with fail
 refine(putM_any bk (k+1) vI kI xI v1 (kS+1) _ vM kM xM vO kO xO vL kL xL A2 n2 c2 w1 hB2 (by omega) (by omega)).mono ?_
 rintro e w2 ⟨rfl,v2,hB3,k2⟩
 replace hal:=kept_type k2 hB2.oM hB2.blk hal (by decide) (by decide)
 have K2:=K1.trans (kept_bk k2 hB2.oM)
 have z2:=(cell_blk (i:=2) hal).trans rfl
 clear K1 k2 hB2 z1
 go_wp2_with fail
 refine(putM_any bk (k+1+1) vI kI xI v1 (kS+1) _ v2 (kM+1) _ vO kO xO vL kL xL A3 n3 c3 w2 hB3 (by omega) (by omega)).mono ?_
 rintro e w3 ⟨rfl,v3,hB4,k3⟩
 replace hal:=kept_type k3 hB3.oM hB3.blk hal (by decide) (by decide)
 have K3:=K2.trans (kept_bk k3 hB3.oM)
 have z3:=(cell_blk (i:=3) hal).trans rfl
 clear K2 k3 hB3 z2
 go_wp2_with fail
 refine(boolLists_any bk (k+1+1+1) n4 c4 E A4 vI kI xI v1 (kS+1) _ v3 (kM+1+1) _ vO kO xO vL kL xL w0 w3 HBK.out HR.out (H0.out.trans K3) hB4 hn (by omega) (by omega) (by omega)).mono ?_
 rintro e w4 ⟨rfl,v4,v5,hB5,hnil,K4⟩
 have K5:=K3.trans K4
 clear K3 K4 hB4 z3 hal
 go_wp2_with fail
 go_end0
 exact⟨rfl,v1,v3,v4,v5,hB5,hnil,K5⟩
end Go.Proofs.YtphklakjadchmaaGreatDoor
