import Derived.Test.YtphklakjadchmaaGreatDoorDocD
import Derived.Test.YtphklakjadchmaaGreatDoorKeep
import Derived.Test.YtphklakjadchmaaGreatDoorRfA
import Derived.Test.YtphklakjadchmaaGreatDoorRfO
namespace Go.Proofs.YtphklakjadchmaaGreatDoor
open Go.RowKit
structure RBox (w:World)(g t:Nat)(A:Option Addr)(n c m:Nat):Prop where
 s0:w.cell? ⟨g,0,none⟩=some (.int .i64 (t:Int))
 s1:w.cell? ⟨g,1,none⟩=some (.slice A n c)
 s2:w.cell? ⟨g,2,none⟩=some (.int .i64 (m:Int))
theorem RBox.keep {w W:World}{g t:Nat}{A:Option Addr}{n c m:Nat}(h:RBox w g t A n c m)(hb:Below w.heap.size w W):RBox W g t A n c m:=⟨cell_old h.s0 hb,cell_old h.s1 hb,cell_old h.s2 hb⟩
theorem RBox.of {w:World}{g t:Nat}{A:Option Addr}{n c m:Nat}(h:w.heap[g]?=some (.cells #[.int .i64 (t:Int),.slice A n c,.int .i64 (m:Int)] 36 (0,0))):RBox w g t A n c m:=
 ⟨(cell_blk (i:=0) h).trans rfl,(cell_blk (i:=1) h).trans rfl,(cell_blk (i:=2) h).trans rfl⟩
end Go.Proofs.YtphklakjadchmaaGreatDoor
namespace Go.Proofs.YtphklakjadchmaaGreatDoor.I
open Go.RowKit
def fvN (S:Bo.Sr)(z:Sen)(i:Nat):Nat:=if fixB S z i=true then valF z i else 0
theorem fvN_no {S:Bo.Sr}{z:Sen}{i:Nat}(h:fixB S z i=false):fvN S z i=0:=by
 unfold fvN
 rw[h]
 rfl
theorem fvN_yes {S:Bo.Sr}{z:Sen}{i:Nat}(h:fixB S z i=true):fvN S z i=valF z i:=by
 unfold fvN
 rw[if_pos h]
set_option maxRecDepth 100000 in
set_option maxHeartbeats 8000000 in
theorem fixed1_ref (z:Sen)(n c1 c2 c3 c4 p0 o0 p1 o1 p2 o2 p4 o4:Nat)(S:Bo.Sr)(t:Nat)(B:Option Addr)(m d q:Nat)(i:Nat)(w:World)(hs:Bo.RSrt w.heap.size w t B m d q S)(h:Cl w z n p0 o0 p1 o1 p2 o2 p4 o4)(hL:z.p.length=n)(hsd: ∀i,sd z i≤2)(hfl: ∀i,lw z i < 18446744073709551616)(hfh: ∀i,hg z i < 18446744073709551616)(hn:n≤1000)(hi:i < n):
  Calls Tryz.prog 36 #[Bo.rsV t B m d q,senV (some ⟨p0,o0,none⟩) n c1 (some ⟨p1,o1,none⟩) n c2 (some ⟨p2,o2,none⟩) n c3 (some ⟨p4,o4,none⟩) n c4,.int .i64 (i:Int)] w fun e w'=>e= .returned (.tuple #[.bool (fixB S z i),.int .u64 (fvN S z i:Int)])∧Below w.heap.size w w':=by
 have HRB:Hid (∀W,Below w.heap.size w W→ ∀x y:Nat,x < 18446744073709551616→y < 18446744073709551616→Calls Tryz.prog 107 #[Bo.rsV t B m d q,.int .u64 (x:Int),.int .u64 (y:Int)] W fun e w'=>e= .returned (.bool (S.below x y))∧Below W.heap.size W w'):=Lib.hid fun W hW x y hx hy=>Bo.rbelow_any t B m d q S x y W (hs.keep hW) hx hy
 obtain⟨x,hx⟩: ∃x,w.alloc (.cells #[.int .i64 (t:Int),.slice B m d,.int .i64 (q:Int)] 36)=x:=⟨_,rfl⟩
 obtain⟨y,hy⟩: ∃y,x.alloc (.cells #[.slice (some ⟨p0,o0,none⟩) n c1,.slice (some ⟨p1,o1,none⟩) n c2,.slice (some ⟨p2,o2,none⟩) n c3,.slice (some ⟨p4,o4,none⟩) n c4] 28)=y:=⟨_,rfl⟩
 have b0:Below w.heap.size w x:=hx▸(Below.refl _ _).alloc (Nat.le_refl _) _
 have sx:x.heap.size=w.heap.size+1:=by rw[← hx,World.size_alloc]
 have b1:Below x.heap.size x y:=hy▸(Below.refl _ _).alloc (Nat.le_refl _) _
 have k0:=hx▸heap_alloc_new w (.cells #[.int .i64 (t:Int),.slice B m d,.int .i64 (q:Int)] 36)
 have hrb:RBox y w.heap.size t B m d q:=(RBox.of k0).keep b1
 have hz:ZB y (w.heap.size+1) (some ⟨p0,o0,none⟩) n c1 (some ⟨p1,o1,none⟩) n c2 (some ⟨p2,o2,none⟩) n c3 (some ⟨p4,o4,none⟩) n c4:=by rw[← sx, ← hy];exact ZB.of (heap_alloc_new x _)
 have hb:Below w.heap.size w y:=b0.trans (b1.mono b0.size)
 have hcl:=h.keep hb
 have hs2:=hsd i
 have e1:=hcl.s i hi
 obtain⟨s,hs⟩: ∃x,sd z i=x:=⟨_,rfl⟩
 rw[hs] at e1 hs2
 have HS:=Lib.hid hs
 have HL:=Lib.hid hL
 have HI:=Lib.hid hi
 have HN:=Lib.hid hn
 have HB:=Lib.hid hb
 have HC:=Lib.hid hcl
 have HZ:=Lib.hid hz
 have HQ:=Lib.hid hrb
 have HFL:=Lib.hid hfl
 have HFH:=Lib.hid hfh
 have z0:=hz.p0
 have hin:(i:Int) < (n:Int):=by omega
 have hi9:i≤1000:=by omega
 clear hs hb hcl h hL hsd hn hi b0 b1 sx k0 hz hrb hfl hfh
 unfold senV Bo.rsV
 unfold Bo.rsV at HRB
 rcases side_is hs2 with hs3|hs3|hs3
 ·obtain⟨hx0,h0⟩:=hs3
  have HX:Hid (sd z i=0):=Lib.hid (HS.out.trans hx0)
  clear hx0 hs2
  subst hx
  go_enter Tryz.func36,Tryz.ntmps36
  go_wp2_with fail
  clear hy
  clear z0 e1
  obtain⟨wo,rfl⟩: ∃wo,wo=y:=⟨_,rfl⟩
  go_loopw [8] (fun vk wq=> ∃k:Nat,vk= .int .i64 (k:Int)∧k≤n∧(∀j < k,(!bb z j i||S.below (hg z j) (lw z i))=true)∧Below wo.heap.size wo wq) (fun vk _=>n - (intOf vk).toNat)
  case atStart=>exact⟨0,rfl,Nat.zero_le _,(fun j hj=>absurd hj (Nat.not_lt_zero j)),Below.refl _ _⟩
  case round=>
   obtain⟨k,rfl,hk,hall,hbr⟩:=hrel
   have HALL:=Lib.hid hall
   have HBR:=Lib.hid hbr
   have hz:=HZ.out.keep hbr
   have hrb:=HQ.out.keep hbr
   have hcl:=HC.out.keep hbr
   have z0:=hz.p0
   clear hall hbr
   by_cases hlt:k < n
   ·have HLT:=Lib.hid hlt
    have hkn:(k:Int) < (n:Int):=by omega
    have hk9:k≤1000:=by have:=HN.out;omega
    obtain⟨g,e,y2,r1,hr⟩:=hcl.b k hlt
    have b1:=hr i HI.out
    have f1:=hcl.h k hlt
    have f2:=hcl.l i HI.out
    clear hr hcl hlt hk
    obtain⟨xa,hxa⟩: ∃x,bb z k i=x:=⟨_,rfl⟩
    rw[hxa] at b1
    have Hxa:=Lib.hid hxa
    clear hxa
    obtain⟨u,hu⟩: ∃x,hg z k=x:=⟨_,rfl⟩
    rw[hu] at f1
    have Hu:=Lib.hid hu
    clear hu
    obtain⟨v,hv⟩: ∃x,lw z i=x:=⟨_,rfl⟩
    rw[hv] at f2
    have Hv:=Lib.hid hv
    clear hv
    have HUF:Hid (u < 18446744073709551616∧v < 18446744073709551616):=Lib.hid ⟨by rw[← Hu.out];exact HFH.out _,by rw[← Hv.out];exact HFL.out _⟩
    go_wp2_with fail
    clear z0
    cases xa with
    |false=>
     refine wp_region_ord [0,1,2,3,4,5,6,7,8,9,10,11,12,13,14,15,16,17,18,19,20,21,22] [20] 23 (fun W=>ZB W (w.heap.size+1) (some ⟨p0,o0,none⟩) n c1 (some ⟨p1,o1,none⟩) n c2 (some ⟨p2,o2,none⟩) n c3 (some ⟨p4,o4,none⟩) n c4∧RBox W w.heap.size t B m d q∧W.cell? ⟨p4,o4+k,none⟩=some (.slice (some ⟨g,e,none⟩) n y2)∧W.cell? ⟨g,e+i,none⟩=some (.bool false)∧W.cell? ⟨p2,o2+k,none⟩=some (.int .u64 (u:Int))∧W.cell? ⟨p1,o1+i,none⟩=some (.int .u64 (v:Int))) (by kernel_rfl) (by kernel_rfl) (by kernel_rfl) (by kernel_rfl) (fun _ _ _ _ _ h=>h) ⟨hz.keep (Below.refl _ _).drew,hrb.keep (Below.refl _ _).drew,cell_old r1 (Below.refl _ _).drew,cell_old b1 (Below.refl _ _).drew,cell_old f1 (Below.refl _ _).drew,cell_old f2 (Below.refl _ _).drew⟩ ?_
     simp only[steps,List.getElem?_cons_zero,List.getElem?_cons_succ]
     repeat(first
      |(refine ord_no rfl ?_;simp only[Act.put,List.setIfInBounds_toArray,List.set_cons_zero,List.set_cons_succ])
      |(refine ord_yes (v:= ?_) rfl rfl ?_ ?_;rotate_left;(focus(rintro w' ⟨⟨x0,x1,x2,x3⟩,⟨s0,s1,s2⟩,y0,y1,y2,y3⟩;go_simp;try with_reducible rfl));simp only[Act.put,List.setIfInBounds_toArray,List.set_cons_zero,List.set_cons_succ]))
     have HBR2:=Lib.hid (HBR.out.trans ((Below.refl wr.heap.size wr).drew.mono HBR.out.size))
     refine ord_end ?_
     clear r1 b1 f1 f2 hz hrb HBR
     generalize World.drew _=we at*
     go_wp2_with fail
     go_roundw
     case rel=>exact⟨k+1,by go_num,HLT.out,(fun j hj=>by
      by_cases ej:j=k
      ·subst ej;rw[Hxa.out];rfl
      ·exact HALL.out j (by omega)),HBR2.out⟩
     case measure=>
      have:=HLT.out
      simp[intOf]
      omega
    |true=>
     refine wp_region_ord [0,1,2,3,4,5,6,7,8,9,10,11,12,13,14,15,16,17,18,19,20,21,22] [20] 23 (fun W=>ZB W (w.heap.size+1) (some ⟨p0,o0,none⟩) n c1 (some ⟨p1,o1,none⟩) n c2 (some ⟨p2,o2,none⟩) n c3 (some ⟨p4,o4,none⟩) n c4∧RBox W w.heap.size t B m d q∧W.cell? ⟨p4,o4+k,none⟩=some (.slice (some ⟨g,e,none⟩) n y2)∧W.cell? ⟨g,e+i,none⟩=some (.bool true)∧W.cell? ⟨p2,o2+k,none⟩=some (.int .u64 (u:Int))∧W.cell? ⟨p1,o1+i,none⟩=some (.int .u64 (v:Int))) (by kernel_rfl) (by kernel_rfl) (by kernel_rfl) (by kernel_rfl) (fun _ _ _ _ _ h=>h) ⟨hz.keep (Below.refl _ _).drew,hrb.keep (Below.refl _ _).drew,cell_old r1 (Below.refl _ _).drew,cell_old b1 (Below.refl _ _).drew,cell_old f1 (Below.refl _ _).drew,cell_old f2 (Below.refl _ _).drew⟩ ?_
     simp only[steps,List.getElem?_cons_zero,List.getElem?_cons_succ]
     repeat(first
      |(refine ord_no rfl ?_;simp only[Act.put,List.setIfInBounds_toArray,List.set_cons_zero,List.set_cons_succ])
      |(refine ord_yes (v:= ?_) rfl rfl ?_ ?_;rotate_left;(focus(rintro w' ⟨⟨x0,x1,x2,x3⟩,⟨s0,s1,s2⟩,y0,y1,y2,y3⟩;go_simp;try with_reducible rfl));simp only[Act.put,List.setIfInBounds_toArray,List.set_cons_zero,List.set_cons_succ]))
     have hd1:Below wr.heap.size wr wr.drew:=(Below.refl _ _).drew
     have HBR2:=Lib.hid (HBR.out.trans (hd1.mono HBR.out.size))
     have HF:Hid (∀W,Below wr.heap.size wr W→(ZB W (w.heap.size+1) (some ⟨p0,o0,none⟩) n c1 (some ⟨p1,o1,none⟩) n c2 (some ⟨p2,o2,none⟩) n c3 (some ⟨p4,o4,none⟩) n c4∧RBox W w.heap.size t B m d q∧W.cell? ⟨p4,o4+k,none⟩=some (.slice (some ⟨g,e,none⟩) n y2)∧W.cell? ⟨g,e+i,none⟩=some (.bool true)∧W.cell? ⟨p2,o2+k,none⟩=some (.int .u64 (u:Int))∧W.cell? ⟨p1,o1+i,none⟩=some (.int .u64 (v:Int)))):=Lib.hid fun W hW=>⟨hz.keep hW,hrb.keep hW,cell_old r1 hW,cell_old b1 hW,cell_old f1 hW,cell_old f2 hW⟩
     refine ord_hard rfl rfl (fun K hK=> ?_)
     go_simp
     have hcal:=HRB.out _ (HB.out.trans (HBR2.out.mono HB.out.size)) u v HUF.out.1 HUF.out.2
     obtain⟨rs,hrs⟩: ∃x,S.below u v=x:=⟨_,rfl⟩
     rw[hrs] at hcal
     have HRS:=Lib.hid hrs
     refine hcal.mono ?_
     rintro e w5 ⟨rfl,hv5⟩
     have HB5:=Lib.hid (HBR2.out.trans (hv5.mono HBR2.out.size))
     have hf5:=HF.out _ (hd1.trans (hv5.mono hd1.size))
     refine hK.out _ _ (fun _=>hf5) ?_
     clear hK K hcal hrs hf5 hv5 hd1 r1 b1 f1 f2 hz hrb HBR HBR2 HF
     try simp only[Act.put,List.setIfInBounds_toArray,List.set_cons_zero,List.set_cons_succ]
     cases rs with
     |true=>
      repeat(first
       |(refine ord_no rfl ?_;simp only[Act.put,List.setIfInBounds_toArray,List.set_cons_zero,List.set_cons_succ])
       |(refine ord_yes (v:= ?_) rfl rfl ?_ ?_;rotate_left;(focus(rintro w' ⟨⟨x0,x1,x2,x3⟩,⟨s0,s1,s2⟩,y0,y1,y2,y3⟩;go_simp;try with_reducible rfl));simp only[Act.put,List.setIfInBounds_toArray,List.set_cons_zero,List.set_cons_succ]))
      refine ord_end ?_
      go_wp2_with fail
      go_roundw
      case rel=>exact⟨k+1,by go_num,HLT.out,(fun j hj=>by
       by_cases ej:j=k
       ·subst ej;rw[Hu.out,Hv.out,HRS.out,Bool.or_true]
       ·exact HALL.out j (by omega)),HB5.out⟩
      case measure=>
       have:=HLT.out
       simp[intOf]
       omega
     |false=>
      repeat(first
       |(refine ord_no rfl ?_;simp only[Act.put,List.setIfInBounds_toArray,List.set_cons_zero,List.set_cons_succ])
       |(refine ord_yes (v:= ?_) rfl rfl ?_ ?_;rotate_left;(focus(rintro w' ⟨⟨x0,x1,x2,x3⟩,⟨s0,s1,s2⟩,y0,y1,y2,y3⟩;go_simp;try with_reducible rfl));simp only[Act.put,List.setIfInBounds_toArray,List.set_cons_zero,List.set_cons_succ]))
      refine ord_end ?_
      have HNO:Hid (fixB S z i=false):=Lib.hid (fix0_no (j:=k) HX.out (by rw[HL.out];exact HLT.out) (by rw[Hxa.out,Hu.out,Hv.out,HRS.out];rfl))
      go_wp2_with fail
      go_ret2
      exact⟨by rw[HNO.out,fvN_no HNO.out];rfl,HB.out.trans (HB5.out.mono HB.out.size)⟩
   ·obtain rfl:n=k:=by omega
    have HYES:Hid (fixB S z i=true):=Lib.hid (fix0_yes HX.out (by rw[HL.out];exact HALL.out))
    have f1:=hcl.l i HI.out
    clear hcl hlt hk
    obtain⟨u,hu⟩: ∃x,lw z i=x:=⟨_,rfl⟩
    rw[hu] at f1
    have Hu:=Lib.hid hu
    clear hu
    go_wp2_with fail
    clear z0
    refine wp_region_ord [0,1,2,3,4,5,6] [] 7 (fun W=>ZB W (w.heap.size+1) (some ⟨p0,o0,none⟩) n c1 (some ⟨p1,o1,none⟩) n c2 (some ⟨p2,o2,none⟩) n c3 (some ⟨p4,o4,none⟩) n c4∧W.cell? ⟨p1,o1+i,none⟩=some (.int .u64 (u:Int))) (by kernel_rfl) (by kernel_rfl) (by kernel_rfl) (by kernel_rfl) (fun _ _ _ _ _ h=>h) ⟨hz.keep (Below.refl _ _).drew,cell_old f1 (Below.refl _ _).drew⟩ ?_
    simp only[steps,List.getElem?_cons_zero,List.getElem?_cons_succ]
    repeat(first
     |(refine ord_no rfl ?_;simp only[Act.put,List.setIfInBounds_toArray,List.set_cons_zero,List.set_cons_succ])
     |(refine ord_yes (v:= ?_) rfl rfl ?_ ?_;rotate_left;(focus(rintro w' ⟨⟨x0,x1,x2,x3⟩,y0⟩;go_simp;try with_reducible rfl));simp only[Act.put,List.setIfInBounds_toArray,List.set_cons_zero,List.set_cons_succ]))
    refine ord_end ?_
    have HB5:=Lib.hid (HBR.out.trans ((Below.refl wr.heap.size wr).drew.mono HBR.out.size))
    clear hz hrb f1
    generalize World.drew _=we at*
    go_wp2_with fail
    go_ret2
    exact⟨by rw[HYES.out,fvN_yes HYES.out,val_02 (by rw[HX.out];decide),Hu.out];rfl,HB.out.trans (HB5.out.mono HB.out.size)⟩
 ·obtain⟨hx0,h0,h1⟩:=hs3
  have HX:Hid (sd z i=1):=Lib.hid (HS.out.trans hx0)
  clear hx0 hs2
  subst hx
  go_enter Tryz.func36,Tryz.ntmps36
  go_wp2_with fail
  clear hy
  clear z0 e1
  obtain⟨wo,rfl⟩: ∃wo,wo=y:=⟨_,rfl⟩
  go_loopw [9] (fun vk wq=> ∃k:Nat,vk= .int .i64 (k:Int)∧k≤n∧(∀j < k,(!bb z i j||S.below (hg z i) (lw z j))=true)∧Below wo.heap.size wo wq) (fun vk _=>n - (intOf vk).toNat)
  case atStart=>exact⟨0,rfl,Nat.zero_le _,(fun j hj=>absurd hj (Nat.not_lt_zero j)),Below.refl _ _⟩
  case round=>
   obtain⟨k,rfl,hk,hall,hbr⟩:=hrel
   have HALL:=Lib.hid hall
   have HBR:=Lib.hid hbr
   have hz:=HZ.out.keep hbr
   have hrb:=HQ.out.keep hbr
   have hcl:=HC.out.keep hbr
   have z0:=hz.p0
   clear hall hbr
   by_cases hlt:k < n
   ·have HLT:=Lib.hid hlt
    have hkn:(k:Int) < (n:Int):=by omega
    have hk9:k≤1000:=by have:=HN.out;omega
    obtain⟨g,e,y2,r1,hr⟩:=hcl.b i HI.out
    have b1:=hr k hlt
    have f1:=hcl.h i HI.out
    have f2:=hcl.l k hlt
    clear hr hcl hlt hk
    obtain⟨xa,hxa⟩: ∃x,bb z i k=x:=⟨_,rfl⟩
    rw[hxa] at b1
    have Hxa:=Lib.hid hxa
    clear hxa
    obtain⟨u,hu⟩: ∃x,hg z i=x:=⟨_,rfl⟩
    rw[hu] at f1
    have Hu:=Lib.hid hu
    clear hu
    obtain⟨v,hv⟩: ∃x,lw z k=x:=⟨_,rfl⟩
    rw[hv] at f2
    have Hv:=Lib.hid hv
    clear hv
    have HUF:Hid (u < 18446744073709551616∧v < 18446744073709551616):=Lib.hid ⟨by rw[← Hu.out];exact HFH.out _,by rw[← Hv.out];exact HFL.out _⟩
    go_wp2_with fail
    clear z0
    cases xa with
    |false=>
     refine wp_region_ord [0,1,2,3,4,5,6,7,8,9,10,11,12,13,14,15,16,17,18,19,20,21,22] [20] 23 (fun W=>ZB W (w.heap.size+1) (some ⟨p0,o0,none⟩) n c1 (some ⟨p1,o1,none⟩) n c2 (some ⟨p2,o2,none⟩) n c3 (some ⟨p4,o4,none⟩) n c4∧RBox W w.heap.size t B m d q∧W.cell? ⟨p4,o4+i,none⟩=some (.slice (some ⟨g,e,none⟩) n y2)∧W.cell? ⟨g,e+k,none⟩=some (.bool false)∧W.cell? ⟨p2,o2+i,none⟩=some (.int .u64 (u:Int))∧W.cell? ⟨p1,o1+k,none⟩=some (.int .u64 (v:Int))) (by kernel_rfl) (by kernel_rfl) (by kernel_rfl) (by kernel_rfl) (fun _ _ _ _ _ h=>h) ⟨hz.keep (Below.refl _ _).drew,hrb.keep (Below.refl _ _).drew,cell_old r1 (Below.refl _ _).drew,cell_old b1 (Below.refl _ _).drew,cell_old f1 (Below.refl _ _).drew,cell_old f2 (Below.refl _ _).drew⟩ ?_
     simp only[steps,List.getElem?_cons_zero,List.getElem?_cons_succ]
     repeat(first
      |(refine ord_no rfl ?_;simp only[Act.put,List.setIfInBounds_toArray,List.set_cons_zero,List.set_cons_succ])
      |(refine ord_yes (v:= ?_) rfl rfl ?_ ?_;rotate_left;(focus(rintro w' ⟨⟨x0,x1,x2,x3⟩,⟨s0,s1,s2⟩,y0,y1,y2,y3⟩;go_simp;try with_reducible rfl));simp only[Act.put,List.setIfInBounds_toArray,List.set_cons_zero,List.set_cons_succ]))
     have HBR2:=Lib.hid (HBR.out.trans ((Below.refl wr.heap.size wr).drew.mono HBR.out.size))
     refine ord_end ?_
     clear r1 b1 f1 f2 hz hrb HBR
     generalize World.drew _=we at*
     go_wp2_with fail
     go_roundw
     case rel=>exact⟨k+1,by go_num,HLT.out,(fun j hj=>by
      by_cases ej:j=k
      ·subst ej;rw[Hxa.out];rfl
      ·exact HALL.out j (by omega)),HBR2.out⟩
     case measure=>
      have:=HLT.out
      simp[intOf]
      omega
    |true=>
     refine wp_region_ord [0,1,2,3,4,5,6,7,8,9,10,11,12,13,14,15,16,17,18,19,20,21,22] [20] 23 (fun W=>ZB W (w.heap.size+1) (some ⟨p0,o0,none⟩) n c1 (some ⟨p1,o1,none⟩) n c2 (some ⟨p2,o2,none⟩) n c3 (some ⟨p4,o4,none⟩) n c4∧RBox W w.heap.size t B m d q∧W.cell? ⟨p4,o4+i,none⟩=some (.slice (some ⟨g,e,none⟩) n y2)∧W.cell? ⟨g,e+k,none⟩=some (.bool true)∧W.cell? ⟨p2,o2+i,none⟩=some (.int .u64 (u:Int))∧W.cell? ⟨p1,o1+k,none⟩=some (.int .u64 (v:Int))) (by kernel_rfl) (by kernel_rfl) (by kernel_rfl) (by kernel_rfl) (fun _ _ _ _ _ h=>h) ⟨hz.keep (Below.refl _ _).drew,hrb.keep (Below.refl _ _).drew,cell_old r1 (Below.refl _ _).drew,cell_old b1 (Below.refl _ _).drew,cell_old f1 (Below.refl _ _).drew,cell_old f2 (Below.refl _ _).drew⟩ ?_
     simp only[steps,List.getElem?_cons_zero,List.getElem?_cons_succ]
     repeat(first
      |(refine ord_no rfl ?_;simp only[Act.put,List.setIfInBounds_toArray,List.set_cons_zero,List.set_cons_succ])
      |(refine ord_yes (v:= ?_) rfl rfl ?_ ?_;rotate_left;(focus(rintro w' ⟨⟨x0,x1,x2,x3⟩,⟨s0,s1,s2⟩,y0,y1,y2,y3⟩;go_simp;try with_reducible rfl));simp only[Act.put,List.setIfInBounds_toArray,List.set_cons_zero,List.set_cons_succ]))
     have hd1:Below wr.heap.size wr wr.drew:=(Below.refl _ _).drew
     have HBR2:=Lib.hid (HBR.out.trans (hd1.mono HBR.out.size))
     have HF:Hid (∀W,Below wr.heap.size wr W→(ZB W (w.heap.size+1) (some ⟨p0,o0,none⟩) n c1 (some ⟨p1,o1,none⟩) n c2 (some ⟨p2,o2,none⟩) n c3 (some ⟨p4,o4,none⟩) n c4∧RBox W w.heap.size t B m d q∧W.cell? ⟨p4,o4+i,none⟩=some (.slice (some ⟨g,e,none⟩) n y2)∧W.cell? ⟨g,e+k,none⟩=some (.bool true)∧W.cell? ⟨p2,o2+i,none⟩=some (.int .u64 (u:Int))∧W.cell? ⟨p1,o1+k,none⟩=some (.int .u64 (v:Int)))):=Lib.hid fun W hW=>⟨hz.keep hW,hrb.keep hW,cell_old r1 hW,cell_old b1 hW,cell_old f1 hW,cell_old f2 hW⟩
     refine ord_hard rfl rfl (fun K hK=> ?_)
     go_simp
     have hcal:=HRB.out _ (HB.out.trans (HBR2.out.mono HB.out.size)) u v HUF.out.1 HUF.out.2
     obtain⟨rs,hrs⟩: ∃x,S.below u v=x:=⟨_,rfl⟩
     rw[hrs] at hcal
     have HRS:=Lib.hid hrs
     refine hcal.mono ?_
     rintro e w5 ⟨rfl,hv5⟩
     have HB5:=Lib.hid (HBR2.out.trans (hv5.mono HBR2.out.size))
     have hf5:=HF.out _ (hd1.trans (hv5.mono hd1.size))
     refine hK.out _ _ (fun _=>hf5) ?_
     clear hK K hcal hrs hf5 hv5 hd1 r1 b1 f1 f2 hz hrb HBR HBR2 HF
     try simp only[Act.put,List.setIfInBounds_toArray,List.set_cons_zero,List.set_cons_succ]
     cases rs with
     |true=>
      repeat(first
       |(refine ord_no rfl ?_;simp only[Act.put,List.setIfInBounds_toArray,List.set_cons_zero,List.set_cons_succ])
       |(refine ord_yes (v:= ?_) rfl rfl ?_ ?_;rotate_left;(focus(rintro w' ⟨⟨x0,x1,x2,x3⟩,⟨s0,s1,s2⟩,y0,y1,y2,y3⟩;go_simp;try with_reducible rfl));simp only[Act.put,List.setIfInBounds_toArray,List.set_cons_zero,List.set_cons_succ]))
      refine ord_end ?_
      go_wp2_with fail
      go_roundw
      case rel=>exact⟨k+1,by go_num,HLT.out,(fun j hj=>by
       by_cases ej:j=k
       ·subst ej;rw[Hu.out,Hv.out,HRS.out,Bool.or_true]
       ·exact HALL.out j (by omega)),HB5.out⟩
      case measure=>
       have:=HLT.out
       simp[intOf]
       omega
     |false=>
      repeat(first
       |(refine ord_no rfl ?_;simp only[Act.put,List.setIfInBounds_toArray,List.set_cons_zero,List.set_cons_succ])
       |(refine ord_yes (v:= ?_) rfl rfl ?_ ?_;rotate_left;(focus(rintro w' ⟨⟨x0,x1,x2,x3⟩,⟨s0,s1,s2⟩,y0,y1,y2,y3⟩;go_simp;try with_reducible rfl));simp only[Act.put,List.setIfInBounds_toArray,List.set_cons_zero,List.set_cons_succ]))
      refine ord_end ?_
      have HNO:Hid (fixB S z i=false):=Lib.hid (fix1_no (j:=k) HX.out (by rw[HL.out];exact HLT.out) (by rw[Hxa.out,Hu.out,Hv.out,HRS.out];rfl))
      go_wp2_with fail
      go_ret2
      exact⟨by rw[HNO.out,fvN_no HNO.out];rfl,HB.out.trans (HB5.out.mono HB.out.size)⟩
   ·obtain rfl:n=k:=by omega
    have HYES:Hid (fixB S z i=true):=Lib.hid (fix1_yes HX.out (by rw[HL.out];exact HALL.out))
    have f1:=hcl.h i HI.out
    clear hcl hlt hk
    obtain⟨u,hu⟩: ∃x,hg z i=x:=⟨_,rfl⟩
    rw[hu] at f1
    have Hu:=Lib.hid hu
    clear hu
    go_wp2_with fail
    clear z0
    refine wp_region_ord [0,1,2,3,4,5,6] [] 7 (fun W=>ZB W (w.heap.size+1) (some ⟨p0,o0,none⟩) n c1 (some ⟨p1,o1,none⟩) n c2 (some ⟨p2,o2,none⟩) n c3 (some ⟨p4,o4,none⟩) n c4∧W.cell? ⟨p2,o2+i,none⟩=some (.int .u64 (u:Int))) (by kernel_rfl) (by kernel_rfl) (by kernel_rfl) (by kernel_rfl) (fun _ _ _ _ _ h=>h) ⟨hz.keep (Below.refl _ _).drew,cell_old f1 (Below.refl _ _).drew⟩ ?_
    simp only[steps,List.getElem?_cons_zero,List.getElem?_cons_succ]
    repeat(first
     |(refine ord_no rfl ?_;simp only[Act.put,List.setIfInBounds_toArray,List.set_cons_zero,List.set_cons_succ])
     |(refine ord_yes (v:= ?_) rfl rfl ?_ ?_;rotate_left;(focus(rintro w' ⟨⟨x0,x1,x2,x3⟩,y0⟩;go_simp;try with_reducible rfl));simp only[Act.put,List.setIfInBounds_toArray,List.set_cons_zero,List.set_cons_succ]))
    refine ord_end ?_
    have HB5:=Lib.hid (HBR.out.trans ((Below.refl wr.heap.size wr).drew.mono HBR.out.size))
    clear hz hrb f1
    generalize World.drew _=we at*
    go_wp2_with fail
    go_ret2
    exact⟨by rw[HYES.out,fvN_yes HYES.out,val_1 HX.out,Hu.out];rfl,HB.out.trans (HB5.out.mono HB.out.size)⟩
 ·obtain⟨hx0,h0,h1,h2⟩:=hs3
  have HX:Hid (sd z i=2):=Lib.hid (HS.out.trans hx0)
  clear hx0 hs2
  subst hx
  go_enter Tryz.func36,Tryz.ntmps36
  go_wp2_with fail
  clear hy
  clear z0 e1
  have hz:=HZ.out
  have f1:=HC.out.l i HI.out
  have f2:=HC.out.h i HI.out
  obtain⟨u,hu⟩: ∃x,lw z i=x:=⟨_,rfl⟩
  obtain⟨v,hv⟩: ∃x,hg z i=x:=⟨_,rfl⟩
  rw[hu] at f1
  rw[hv] at f2
  have Hu:=Lib.hid hu
  have Hv:=Lib.hid hv
  clear hu hv
  by_cases huv:u=v
  case neg=>
   have hne:((u:Int) !=(v:Int))=true:=by rw[bne_iff_ne];omega
   have HNO:Hid (fixB S z i=false):=Lib.hid (by rw[fix2_is HX.out,Hu.out,Hv.out];exact decide_eq_false fun e=>huv e.symm)
   refine wp_region_ord [0,1,2,3,4,5,6,7,8,9,10] [] 11 (fun W=>ZB W (w.heap.size+1) (some ⟨p0,o0,none⟩) n c1 (some ⟨p1,o1,none⟩) n c2 (some ⟨p2,o2,none⟩) n c3 (some ⟨p4,o4,none⟩) n c4∧W.cell? ⟨p1,o1+i,none⟩=some (.int .u64 (u:Int))∧W.cell? ⟨p2,o2+i,none⟩=some (.int .u64 (v:Int))) (by kernel_rfl) (by kernel_rfl) (by kernel_rfl) (by kernel_rfl) (fun _ _ _ _ _ h=>h) ⟨hz.keep (Below.refl _ _).drew,cell_old f1 (Below.refl _ _).drew,cell_old f2 (Below.refl _ _).drew⟩ ?_
   simp only[steps,List.getElem?_cons_zero,List.getElem?_cons_succ]
   repeat(first
    |(refine ord_no rfl ?_;simp only[Act.put,List.setIfInBounds_toArray,List.set_cons_zero,List.set_cons_succ])
    |(refine ord_yes (v:= ?_) rfl rfl ?_ ?_;rotate_left;(focus(rintro w' ⟨⟨x0,x1,x2,x3⟩,y0,y1⟩;go_simp;try with_reducible rfl));simp only[Act.put,List.setIfInBounds_toArray,List.set_cons_zero,List.set_cons_succ]))
   refine ord_end ?_
   have HB5:=Lib.hid (HB.out.trans ((Below.refl y.heap.size y).drew.mono HB.out.size))
   clear hz f1 f2
   generalize World.drew _=we at*
   go_wp2_with fail
   go_ret2
   exact⟨by rw[HNO.out,fvN_no HNO.out];rfl,HB5.out⟩
  have hne:((u:Int) !=(v:Int))=false:=by rw[huv];simp
  have HYES:Hid (fixB S z i=true):=Lib.hid (by rw[fix2_is HX.out,Hu.out,Hv.out];exact decide_eq_true huv.symm)
  clear huv
  refine wp_region_ord [0,1,2,3,4,5,6,7,8,9,10] [] 11 (fun W=>ZB W (w.heap.size+1) (some ⟨p0,o0,none⟩) n c1 (some ⟨p1,o1,none⟩) n c2 (some ⟨p2,o2,none⟩) n c3 (some ⟨p4,o4,none⟩) n c4∧W.cell? ⟨p1,o1+i,none⟩=some (.int .u64 (u:Int))∧W.cell? ⟨p2,o2+i,none⟩=some (.int .u64 (v:Int))) (by kernel_rfl) (by kernel_rfl) (by kernel_rfl) (by kernel_rfl) (fun _ _ _ _ _ h=>h) ⟨hz.keep (Below.refl _ _).drew,cell_old f1 (Below.refl _ _).drew,cell_old f2 (Below.refl _ _).drew⟩ ?_
  simp only[steps,List.getElem?_cons_zero,List.getElem?_cons_succ]
  repeat(first
   |(refine ord_no rfl ?_;simp only[Act.put,List.setIfInBounds_toArray,List.set_cons_zero,List.set_cons_succ])
   |(refine ord_yes (v:= ?_) rfl rfl ?_ ?_;rotate_left;(focus(rintro w' ⟨⟨x0,x1,x2,x3⟩,y0,y1⟩;go_simp;try with_reducible rfl));simp only[Act.put,List.setIfInBounds_toArray,List.set_cons_zero,List.set_cons_succ]))
  refine ord_end ?_
  have hd1:Below y.heap.size y y.drew:=(Below.refl _ _).drew
  have HB5:=Lib.hid (HB.out.trans (hd1.mono HB.out.size))
  replace hz:=hz.keep hd1
  replace f1:=cell_old f1 hd1
  clear f2 hd1 hne HZ HC HQ
  generalize World.drew _=we at*
  go_wp2_with fail
  refine wp_region_ord [0,1,2,3,4,5,6] [] 7 (fun W=>ZB W (w.heap.size+1) (some ⟨p0,o0,none⟩) n c1 (some ⟨p1,o1,none⟩) n c2 (some ⟨p2,o2,none⟩) n c3 (some ⟨p4,o4,none⟩) n c4∧W.cell? ⟨p1,o1+i,none⟩=some (.int .u64 (u:Int))) (by kernel_rfl) (by kernel_rfl) (by kernel_rfl) (by kernel_rfl) (fun _ _ _ _ _ h=>h) ⟨hz.keep (Below.refl _ _).drew,cell_old f1 (Below.refl _ _).drew⟩ ?_
  simp only[steps,List.getElem?_cons_zero,List.getElem?_cons_succ]
  repeat(first
   |(refine ord_no rfl ?_;simp only[Act.put,List.setIfInBounds_toArray,List.set_cons_zero,List.set_cons_succ])
   |(refine ord_yes (v:= ?_) rfl rfl ?_ ?_;rotate_left;(focus(rintro w' ⟨⟨x0,x1,x2,x3⟩,y0⟩;go_simp;try with_reducible rfl));simp only[Act.put,List.setIfInBounds_toArray,List.set_cons_zero,List.set_cons_succ]))
  refine ord_end ?_
  have HB6:=Lib.hid (HB5.out.trans ((Below.refl we.heap.size we).drew.mono HB5.out.size))
  clear hz f1
  generalize World.drew _=wf at*
  go_wp2_with fail
  go_ret2
  exact⟨by rw[HYES.out,fvN_yes HYES.out,val_02 (by rw[HX.out];decide),Hu.out];rfl,HB6.out⟩
end Go.Proofs.YtphklakjadchmaaGreatDoor.I
namespace Go.Proofs.YtphklakjadchmaaGreatDoor.I
open Go.RowKit
theorem bo_one (x:Bool):(Value.bool x).oneCell'=true:=rfl
theorem bo_rd1 (w:World)(k:Bool):Rd Value.bool (w.alloc (.cells #[.bool k] 4)) (w.alloc (.cells #[.bool k] 4)).heap.size (some ⟨w.heap.size,0,none⟩) 1 1 [k]:=Rd.new w #[.bool k] 4 1 [k] rfl rfl (by decide)
theorem lw_fit {z:Sen}(h:La.Fit z.lo)(i:Nat):lw z i < 18446744073709551616:=by
 by_cases hi:i < z.lo.length
 ·rw[lw_at hi];exact h.get i hi
 ·unfold lw
  rw[List.getD_eq_getElem?_getD,List.getElem?_eq_none (by omega)]
  exact(by decide)
theorem hg_fit {z:Sen}(h:La.Fit z.hi)(i:Nat):hg z i < 18446744073709551616:=by
 by_cases hi:i < z.hi.length
 ·rw[hg_at hi];exact h.get i hi
 ·unfold hg
  rw[List.getD_eq_getElem?_getD,List.getElem?_eq_none (by omega)]
  exact(by decide)
structure XB (w:World)(g t:Nat)(B:Option Addr)(m d q:Nat)(A1:Option Addr)(n1 c1:Nat)(A2:Option Addr)(n2 c2:Nat)(A3:Option Addr)(n3 c3:Nat)(A4:Option Addr)(n4 c4:Nat):Prop where
 r:w.heap[g]?=some (.cells #[.int .i64 (t:Int),.slice B m d,.int .i64 (q:Int)] 36 (0,0))
 z:w.heap[g+1]?=some (.cells #[.slice A1 n1 c1,.slice A2 n2 c2,.slice A3 n3 c3,.slice A4 n4 c4] 28 (0,0))
section
variable {w W:World} {g t:Nat} {B:Option Addr} {m d q:Nat} {A1:Option Addr} {n1 c1:Nat} {A2:Option Addr} {n2 c2:Nat} {A3:Option Addr} {n3 c3:Nat} {A4:Option Addr} {n4 c4:Nat}
theorem XB.keep (h:XB w g t B m d q A1 n1 c1 A2 n2 c2 A3 n3 c3 A4 n4 c4)(hb:Below w.heap.size w W):XB W g t B m d q A1 n1 c1 A2 n2 c2 A3 n3 c3 A4 n4 c4:=
 ⟨(hb.block _ (lt_blk h.r)).trans h.r,(hb.block _ (lt_blk h.z)).trans h.z⟩
theorem XB.grown (h:XB w g t B m d q A1 n1 c1 A2 n2 c2 A3 n3 c3 A4 n4 c4){base E n sz:Nat}{v:Value}{xs:List Value}(ho:w.ownsRow base E sz v n xs)(hE:E≠36∧E≠28)(hg:w.grownBy W v.ownBlock):XB W g t B m d q A1 n1 c1 A2 n2 c2 A3 n3 c3 A4 n4 c4:=by
 have no: ∀(b F:Nat) (cs:Array Value),w.heap[b]?=some (.cells cs F (0,0))→E≠F→some b≠v.ownBlock:=fun b F cs hb hne e=>by
  obtain⟨cur,hc⟩:=own_ty ho e.symm
  rw[hb] at hc
  injection hc with hc
  injection hc with _ hc
  exact hne hc.symm
 exact⟨(hg.block _ (lt_blk h.r) (no _ _ _ h.r hE.1)).trans h.r,(hg.block _ (lt_blk h.z) (no _ _ _ h.z hE.2)).trans h.z⟩
end
set_option maxRecDepth 100000 in
set_option maxHeartbeats 8000000 in
theorem fixedR_any (t:Nat)(B:Option Addr)(m d q:Nat)(S:Bo.Sr)(z:Sen)(A1:Option Addr)(n1 c1:Nat)(A2:Option Addr)(n2 c2:Nat)(A3:Option Addr)(n3 c3:Nat)(A4:Option Addr)(n4 c4:Nat)(w:World)(hs:Bo.RSrt w.heap.size w t B m d q S)(h:SenAt w z A1 n1 c1 A2 n2 c2 A3 n3 c3 A4 n4 c4)(hn:n1≤1000):
  Calls Tryz.prog 11 #[Bo.rsV t B m d q,senV A1 n1 c1 A2 n2 c2 A3 n3 c3 A4 n4 c4] w fun e w'=> ∃A n c A' n' c',e= .returned (.tuple #[.slice A n c,.slice A' n' c'])∧Rd Value.bool w' w'.heap.size A n c (fixF S z)∧Rd La.nm w' w'.heap.size A' n' c' (fvF S z)∧Below w.heap.size w w':=by
 obtain⟨r,hr⟩: ∃r,wholeS z=r:=⟨_,rfl⟩
 have HR:=Lib.hid hr
 have HSW:Hid (∀W,Below w.heap.size w W→SenAt W z A1 n1 c1 A2 n2 c2 A3 n3 c3 A4 n4 c4):=Lib.hid fun W hW=>h.keep hW
 have HWH:=Lib.hid fun W (hW:Below w.heap.size w W)=>wholeR_any A1 n1 c1 A2 n2 c2 A3 n3 c3 A4 n4 c4 z W (h.keep hW) (by omega) r hr
 have HRS:Hid (∀W,Below w.heap.size w W→Bo.RSrt W.heap.size W t B m d q S):=Lib.hid fun W hW=>hs.keep hW
 have HN:=Lib.hid hn
 have HLEN:=Lib.hid h.rp.len
 have HFL:=Lib.hid (lw_fit h.fl)
 have HFH:=Lib.hid (hg_fit h.fh)
 obtain⟨x,hx⟩: ∃x,w.alloc (.cells #[.int .i64 (t:Int),.slice B m d,.int .i64 (q:Int)] 36)=x:=⟨_,rfl⟩
 obtain⟨y,hy⟩: ∃y,x.alloc (.cells #[.slice A1 n1 c1,.slice A2 n2 c2,.slice A3 n3 c3,.slice A4 n4 c4] 28)=y:=⟨_,rfl⟩
 have b0:Below w.heap.size w x:=hx▸(Below.refl _ _).alloc (Nat.le_refl _) _
 have sx:x.heap.size=w.heap.size+1:=by rw[← hx,World.size_alloc]
 have b1:Below x.heap.size x y:=hy▸(Below.refl _ _).alloc (Nat.le_refl _) _
 have k0:=hx▸heap_alloc_new w (.cells #[.int .i64 (t:Int),.slice B m d,.int .i64 (q:Int)] 36)
 have hxb:XB y w.heap.size t B m d q A1 n1 c1 A2 n2 c2 A3 n3 c3 A4 n4 c4:=⟨(b1.block _ (lt_blk k0)).trans k0,by rw[← sx, ← hy];exact heap_alloc_new x _⟩
 have hb:Below w.heap.size w y:=b0.trans (b1.mono b0.size)
 have hz:=ZB.of hxb.z
 have y0:=hz.p0
 have y1:=hz.p1
 have y2:=hz.p2
 have y3:=hz.p3
 have HXB:=Lib.hid hxb
 have HB:=Lib.hid hb
 clear hr hs h hn b0 sx b1 k0 hxb hb hz
 subst hx
 unfold senV at HWH ⊢
 unfold Bo.rsV
 cases r with
 |false=>
  go_enter Tryz.func11,Tryz.ntmps11
  go_wp2_with fail
  clear hy
  refine(HWH.out _ HB.out).mono ?_
  rintro e w1 ⟨rfl,hv⟩
  have HB1:=Lib.hid (HB.out.trans (hv.mono HB.out.size))
  clear hv HWH y0 y1 y2 y3
  go_wp2_with fail
  go_ret2
  refine⟨none,0,0,none,0,0,rfl,?_,?_,HB1.out⟩
  ·unfold fixF
   rw[HR.out]
   exact Rd.nil _ _
  ·unfold fvF
   rw[HR.out]
   exact Rd.nil _ _
 |true=>
  obtain⟨i0,hi0,hz0,hz1,hz2⟩:=info_parts Re.inf4
  obtain⟨i1,hj0,hj1,hj2,hj3⟩:=info_parts La.nm_inf
  go_enter Tryz.func11,Tryz.ntmps11
  go_wp2_with fail
  clear hy
  refine(HWH.out _ HB.out).mono ?_
  rintro e w1 ⟨rfl,hv⟩
  have HB1:=Lib.hid (HB.out.trans (hv.mono HB.out.size))
  have HX1:=Lib.hid (HXB.out.keep hv)
  clear hv HWH y0 y1 y2 y3 HB HXB
  go_wp2_with fail
  go_loopw [6,7,8] (fun v6 v7 v8 wr=> ∃(i:Nat) (A:Option Addr) (a c:Nat) (A':Option Addr) (a' c':Nat),v8= .int .i64 (i:Int)∧i≤n1∧v6= .slice A a c∧v7= .slice A' a' c'∧Fresh Value.bool 4 w wr A a c ((List.range i).map (fixB S z))∧Fresh La.nm 82 w wr A' a' c' ((List.range i).map (fvN S z))∧XB wr w.heap.size t B m d q A1 n1 c1 A2 n2 c2 A3 n3 c3 A4 n4 c4) (fun _ _ v8 _=>n1 - (intOf v8).toNat)
  case atStart=>exact⟨0,none,0,0,none,0,0,rfl,Nat.zero_le _,rfl,rfl,⟨World.ownsRow_nil _ _ _ _,HB1.out⟩,⟨World.ownsRow_nil _ _ _ _,HB1.out⟩,HX1.out⟩
  case round=>
   clear HB1 HX1
   obtain⟨i,A,a,c,A',a',c',rfl,hi,rfl,rfl,hfr,hfv,hxb⟩:=hrel
   have hzb:=ZB.of hxb.z
   have hrb:=RBox.of hxb.r
   by_cases hlt:i < n1
   ·obtain⟨p0,o0,p1,o1,p2,o2,p4,o4,rfl,rfl,rfl,rfl,q2,q3,q4,hL,hsd,hcl⟩:=cl_of (HSW.out wr hfr.bel) HR.out (by omega)
    obtain rfl:n1=n2:=q2.symm
    obtain rfl:n1=n3:=q3.symm
    obtain rfl:n1=n4:=q4.symm
    have hca:=fixed1_ref z n1 c1 c2 c3 c4 p0 o0 p1 o1 p2 o2 p4 o4 S t B m d q i wr (HRS.out wr hfr.bel) hcl hL hsd HFL.out HFH.out HN.out hlt
    obtain⟨xb,hxv⟩: ∃x,fixB S z i=x:=⟨_,rfl⟩
    obtain⟨xn,hxn⟩: ∃x,fvN S z i=x:=⟨_,rfl⟩
    rw[hxv,hxn] at hca
    have HC:=Lib.hid hca
    have HXV:=Lib.hid hxv
    have HXN:=Lib.hid hxn
    have hlen:=hfr.len
    have hlen2:=hfv.len
    rw[List.length_map,List.length_range] at hlen hlen2
    obtain⟨ks,hks⟩: ∃ks,(List.range i).map (fixB S z)=ks:=⟨_,rfl⟩
    obtain⟨vs,hvs⟩: ∃ks,(List.range i).map (fvN S z)=ks:=⟨_,rfl⟩
    rw[hks] at hfr
    rw[hvs] at hfv
    have HKS:=Lib.hid hks
    have HVS:=Lib.hid hvs
    have HFR:=Lib.hid hfr
    have HFV:=Lib.hid hfv
    have HXB:=Lib.hid hxb
    have HLT:=Lib.hid hlt
    have HM:=Lib.hid (And.intro hlen hlen2)
    have hin:(i:Int) < (n1:Int):=by omega
    have z0:=hzb.p0
    have z1:=hzb.p1
    have z2:=hzb.p2
    have z3:=hzb.p3
    have s0:=hrb.s0
    have s1:=hrb.s1
    have s2:=hrb.s2
    have hi9:i≤1000:=by have:=HN.out;omega
    clear hlen hlen2 hks hvs hfr hfv hxb hzb hrb hlt hi hcl hsd hL hca hxv hxn
    unfold senV Bo.rsV at HC
    go_wp2_with fail
    refine HC.out.mono ?_
    rintro e w5 ⟨rfl,hv⟩
    have hfr:=fresh_bel HFR.out hv
    have HFV5:=Lib.hid (fresh_bel HFV.out hv)
    have HX5:=Lib.hid (HXB.out.keep hv)
    have q1:=bo_rd1 w5 xb
    clear hv HC z0 z1 z2 z3 s0 s1 s2 HFR HFV HXB
    go_wp2_with (first
     |(at_builtin;refine wpList_append_rd _ rfl (.tmp 28) (.tmp 30) 42 rfl w.heap.size 4 i0 (.bool false) 1 Tryz.underlying42 hi0 hz0 hz1 hz2 rfl bo_one (.slice A a c) a ks rfl (hfr.own.alloc _) _ _ 1 1 [xb] rfl q1 (by have:=HM.out;unfold maxLen;omega) (by have:=HM.out;omega) (by have:=hfr.bel.size;simp;omega) ?_;intro A2 k2 d2 w6 hk2 own2 hg2 ha2;have hal:Below w5.heap.size w5 (w5.alloc (.cells #[.bool xb] 4)):=(Below.refl _ _).alloc (Nat.le_refl _) _;have HFV6:Hid (Fresh La.nm 82 w w6 A' a' c' vs):=Lib.hid ⟨row_far (by decide) (HFV5.out.own.alloc _) (hfr.own.alloc _) hg2,(HFV5.out.bel.alloc HFV5.out.bel.size _).grown hg2 (Nat.le_trans hfr.bel.size (by simp)) (fun j hj=>(hfr.own.lt j hj).1)⟩;have HFR6:Hid (Fresh Value.bool 4 w w6 A2 k2 d2 (ks++ [xb])):=Lib.hid ⟨own2,HFV6.out.bel⟩;have HX6:=Lib.hid ((HX5.out.keep hal).grown (hfr.own.alloc _) ⟨by decide,by decide⟩ hg2);clear own2 hg2 ha2 hfr HFV5 HX5 q1 hal;have hfv:=HFV6.out;have q1:=La.nm_rd1 w6 xn)
     |(at_builtin;refine wpList_append_rd _ rfl (.tmp 32) (.tmp 34) 22 rfl w.heap.size 82 i1 (.int .u64 0) 8 Tryz.underlying22 hj0 hj1 hj2 hj3 rfl La.nm_one (.slice A' a' c') a' vs rfl (hfv.own.alloc _) _ _ 1 1 [xn] rfl q1 (by have:=HM.out;unfold maxLen;omega) (by have:=HM.out;omega) (by have:=hfv.bel.size;simp;omega) ?_;intro A3 k3 d3 w7 hk3 own3 hg3 ha3))
    go_roundw
    case rel=>
     have hal:Below w6.heap.size w6 (w6.alloc (.cells #[.int .u64 (xn:Int)] 82)):=(Below.refl _ _).alloc (Nat.le_refl _) _
     refine⟨i+1,A2,k2,d2,A3,k3,d3,by go_num,HLT.out,rfl,rfl,?_,?_,(HX6.out.keep hal).grown (hfv.own.alloc _) ⟨by decide,by decide⟩ hg3⟩
     ·rw[List.range_succ,List.map_append,HKS.out,List.map_singleton,HXV.out]
      exact⟨row_far (by decide) (HFR6.out.own.alloc _) (hfv.own.alloc _) hg3,(HFR6.out.bel.alloc HFR6.out.bel.size _).grown hg3 (Nat.le_trans hfv.bel.size (by simp)) (fun j hj=>(hfv.own.lt j hj).1)⟩
     ·rw[List.range_succ,List.map_append,HVS.out,List.map_singleton,HXN.out]
      exact⟨own3,(hfv.bel.alloc hfv.bel.size _).grown hg3 (Nat.le_trans hfv.bel.size (by simp)) (fun j hj=>(hfv.own.lt j hj).1)⟩
    case measure=>
     have:=HLT.out
     simp[intOf]
     omega
   ·obtain rfl:n1=i:=by omega
    have HFR:=Lib.hid hfr
    have HFV:=Lib.hid hfv
    have z0:=hzb.p0
    clear hfr hfv hzb hrb hxb hlt hi
    go_wp2_with fail
    go_ret2
    refine⟨A,a,c,A',a',c',rfl,?_,?_,HFR.out.bel⟩
    ·unfold fixF
     rw[if_pos HR.out,HLEN.out]
     exact HFR.out.rd
    ·unfold fvF
     rw[if_pos HR.out,HLEN.out]
     exact HFV.out.rd
end Go.Proofs.YtphklakjadchmaaGreatDoor.I
