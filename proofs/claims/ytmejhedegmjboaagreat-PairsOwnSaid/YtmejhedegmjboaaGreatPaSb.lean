/- SameBounds of one list, twice. No condition. -/
import Derived.Test.YtmejhedegmjboaaGreatPaLv
namespace Go.Proofs.YtmejhedegmjboaaGreat.I
open Go.RowKit
set_option maxRecDepth 100000 in
set_option maxHeartbeats 4000000 in
theorem sameB_any (A B:Option Addr)(n c c2:Nat)(l:List Bo.Bd)(w:World)(h:Rs Bo.bdc 4 w w.heap.size A n c l)(h2:Rs Bo.bdc 4 w w.heap.size B n c2 l):
  Calls Tryz.prog 13 #[.slice A n c,.slice B n c2] w fun e w'=>e= .returned (.bool true)∧Below w.heap.size w w':=by
 have HL:=Lib.hid h.len
 have g1:((n:Int) !=(n:Int))=false:=by simp
 have HH:=Lib.hid h
 have HH2:=Lib.hid h2
 have HN:=Lib.hid (show n≤maxLen from Nat.le_trans h.cap h.top)
 clear h h2
 go_enter Tryz.func13,Tryz.ntmps13
 go_wp2
 clear g1
 go_loopw [5] (fun v5 wr=> ∃i:Nat,v5= .int .i64 (i:Int)∧i≤n∧Below w.heap.size w wr) (fun v5 _=>n - (intOf v5).toNat)
 case atStart=>exact⟨0,rfl,Nat.zero_le _,Below.refl _ _⟩
 case round=>
  obtain⟨i,rfl,hi,hb⟩:=hrel
  have hn:=HN.out
  unfold maxLen at hn
  by_cases hlt:i < n
  ·have hil:i < l.length:=by have:=HL.out;omega
   obtain⟨b1,o1,rfl,-,u0,u1,u2,u3⟩:=Bo.bd_at (HH.out.at_size (Nat.le_refl _) hb) hil
   obtain⟨b2,o2,rfl,-,v0,v1,v2,v3⟩:=Bo.bd_at (HH2.out.at_size (Nat.le_refl _) hb) hil
   have HLT:=Lib.hid hlt
   have HB:=Lib.hid hb
   have hin:(i:Int) < (n:Int):=by omega
   clear hi hlt hb
   generalize l[i]=t at*
   obtain⟨a,x,b,y⟩:=t
   simp only at u0 u1 u2 u3 v0 v1 v2 v3
   have ga:(a==a)=true:=by simp
   have gb:(b==b)=true:=by simp
   have gx:((x:Int)==(x:Int))=true:=by simp
   have gy:((y:Int)==(y:Int))=true:=by simp
   go_wp2_with fail
   refine wp_region_ord [0,1,2,3,4,5,6,7,8] [] 9 (fun W=>(W.cell? ⟨b1,o1+i*4,none⟩=some (.bool a)∧W.cell? ⟨b1,o1+i*4+1,none⟩=some (.int .u64 (x:Int))∧W.cell? ⟨b1,o1+i*4+2,none⟩=some (.bool b)∧W.cell? ⟨b1,o1+i*4+3,none⟩=some (.int .u64 (y:Int)))∧W.cell? ⟨b2,o2+i*4,none⟩=some (.bool a)∧W.cell? ⟨b2,o2+i*4+1,none⟩=some (.int .u64 (x:Int))∧W.cell? ⟨b2,o2+i*4+2,none⟩=some (.bool b)∧W.cell? ⟨b2,o2+i*4+3,none⟩=some (.int .u64 (y:Int))) (by kernel_rfl) (by kernel_rfl) (by kernel_rfl) (by kernel_rfl) (fun _ _ _ _ _ h=>h) ⟨⟨u0,u1,u2,u3⟩,v0,v1,v2,v3⟩ ?_
   simp only[steps,List.getElem?_cons_zero,List.getElem?_cons_succ]
   repeat(first
    |(refine ord_no rfl ?_;simp only[Act.put,List.setIfInBounds_toArray,List.set_cons_zero,List.set_cons_succ])
    |(refine ord_yes (v:= ?_) rfl rfl ?_ ?_;rotate_left;(focus(rintro w' ⟨⟨x0,x1,x2,x3⟩,x4,x5,x6,x7⟩;go_simp;try with_reducible rfl));simp only[Act.put,List.setIfInBounds_toArray,List.set_cons_zero,List.set_cons_succ]))
   have HBD:=Lib.hid (HB.out.trans ((Below.refl wr.heap.size wr).drew.mono HB.out.size))
   clear u0 u1 u2 u3 v0 v1 v2 v3 HB
   generalize World.drew _=wd at*
   refine ord_end ?_
   go_wp2_with fail
   go_roundw
   case rel=>exact⟨i+1,by go_num,HLT.out,HBD.out⟩
   case measure=>
    have:=HLT.out
    simp[intOf]
    omega
  ·obtain rfl:n=i:=by omega
   have HB:=Lib.hid hb
   clear hb hlt hi
   go_wp2_with fail
   go_ret
   exact⟨rfl,HB.out⟩
end Go.Proofs.YtmejhedegmjboaaGreat.I
