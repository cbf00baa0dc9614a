import Derived.Test.YtfmpecnkkbpdlaaGreatDoorNdRef
import Derived.Test.YtfmpecnkkbpdlaaGreatDoorTwinNd
set_option maxRecDepth 100000
set_option maxHeartbeats 4000000
namespace Go.Proofs.YtfmpecnkkbpdlaaGreatDoor
open Go.RowKit
def QQ (l:List Nd)(a d:Nat)(nx dp er:Nat):Prop:=
 (er=0∧a < nx∧ ∃(x:Nd) (ks:F),(F.cons x ks .nil).wf∧d+(F.cons x ks .nil).ht≤17∧l.drop a=(F.cons x ks .nil).flat++l.drop nx∧nx≤l.length∧dp+1=d+(F.cons x ks .nil).ht)∨
 (er≠0∧ ∀st,chk (l.drop a) (d::st)=er)
def ZkV (l:List Nd)(a d q n:Nat)(xn:Int)(g:Nat)(w:World)(v1 v10 v11:Value)(wr:World):Prop:= ∃(i p:Nat) (f:F),
 v1= .int .i64 (p:Int)∧v11= .int .i64 (i:Int)∧v10= .int .i64 ((d+f.ht:Nat):Int)∧i≤q∧a < p∧p≤n∧f.num=i∧f.wf∧d+1+f.ht≤17∧l.drop (a+1)=f.flat++l.drop p∧
 wr.cell? ⟨g,3,none⟩=some (.int .i64 xn)∧g < wr.heap.size∧Below w.heap.size w wr
theorem walk_any (A:Option Addr)(n c B:Nat)(l:List Nd)(hf: ∀x∈l,x.Fits): ∀(m a d:Nat) (w:World),n - a≤m→a≤n→n≤1000→d≤17→Ns w B A n c l→B≤w.heap.size→
  Calls Tryz.prog 190 #[.slice A n c,.int .i64 (a:Int),.int .i64 (d:Int)] w fun e w'=> ∃nx dp er:Nat,e= .returned (.tuple #[.int .i64 (nx:Int),.int .i64 (dp:Int),.int .i64 (er:Int)])∧QQ l a d nx dp er∧Below w.heap.size w w':=by
 intro m
 induction m with
 |zero=>
  intro a d w hm ha hn hd h hB
  have HL:=Hd h.len
  obtain rfl:a=n:=by omega
  have HW:Hid (QQ l a d a 0 4):=by
   refine Hd (.inr ⟨by decide,fun st=> ?_⟩)
   rw[List.drop_eq_nil_of_le (by rw[HL.out];exact Nat.le_refl _)]
   rfl
  go_enter Tryz.func190,Tryz.ntmps190
  go_wp2
  exact bodyPost_ret (v:= .tuple #[.int .i64 (a:Int),.int .i64 0,.int .i64 4]) (by simp[results,Tryz.results190,go_sem]) rfl ⟨a,0,4,rfl,HW.out,Below.refl _ _⟩
 |succ m ih=>
  intro a d w hm ha hn hd h hB
  have HL:=Hd h.len
  by_cases hlt:a < n
  case neg=>
   obtain rfl:a=n:=by omega
   exact ih a d w (by omega) ha hn hd h hB
  have ha':a < l.length:=by rw[HL.out];exact hlt
  obtain⟨b,o,rfl,hbb,c0,c1,c2,c3,c4,c5,c6,c7,c8,c9⟩:=h.node ha'
  have hnode:=fun (W:World) (hb:Below w.heap.size w W)=>(h.below (hb.mono hB)).node ha'
  have hdrop:l.drop a=l[a]::l.drop (a+1):=List.drop_eq_getElem_cons ha'
  have hfx:=hf _ (List.getElem_mem ha')
  have hmayx:=fun W=>Zej l[a] W hfx
  have HMK:Hid (l[a].may=true→0≤l[a].n):=Hd Nd.may_kids
  have HC1:Hid (∀st,chk (l.drop a) (d::st)=if l[a].may=true then(if 8 < l[a].n∨16 < d then 3 else chk (l.drop (a+1)) (List.replicate l[a].n.toNat (d+1)++st)) else 4):=Hd fun st=>by rw[hdrop];rfl
  have HDR:=Hd hdrop
  clear hdrop hfx
  generalize l[a]=x at*
  have hld:(a:Int) < (n:Int):=by omega
  have hld': ¬(n:Int)≤(a:Int):=by omega
  have hwr:IntKind.i64.wrap ((a:Int)+1)=(a:Int)+1:=by rw[IntKind.wrap_i64];omega
  have hwd:IntKind.i64.wrap ((d:Int)+1)=(d:Int)+1:=by rw[IntKind.wrap_i64];omega
  obtain⟨xk,xm,xs,xn,xlv,xln,xpv,xpn,xev,xen⟩:=x
  simp only at c0 c1 c2 c3 c4 c5 c6 c7 c8 c9 HMK HC1 hnode
  go_enter Tryz.func190,Tryz.ntmps190
  go_wp2_with fail
  refine(hmayx _).mono ?_
  rintro e w1 ⟨rfl,hb1⟩
  obtain⟨b',o',heq,hbb',d0,d1,d2,d3,d4,d5,d6,d7,d8,d9⟩:=hnode w1 hb1
  injection heq with heq
  injection heq with e1 e2
  subst e1
  subst e2
  have hal:Below w1.heap.size w1 (w1.alloc (.cells #[.int .u8 xk,.int .i64 xm,.string (str xs),.int .i64 xn,.bool xlv,.int .u64 xln,.bool xpv,.int .u64 xpn,.bool xev,.int .u64 xen] 77)):=bA
  have hblk:=heap_alloc_new w1 (.cells #[.int .u8 xk,.int .i64 xm,.string (str xs),.int .i64 xn,.bool xlv,.int .u64 xln,.bool xpv,.int .u64 xpn,.bool xev,.int .u64 xen] 77)
  have hc3:(w1.alloc (.cells #[.int .u8 xk,.int .i64 xm,.string (str xs),.int .i64 xn,.bool xlv,.int .u64 xln,.bool xpv,.int .u64 xpn,.bool xev,.int .u64 xen] 77)).cell? ⟨w1.heap.size,3,none⟩=some (.int .i64 xn):=(Za hblk).trans rfl
  have hgl:=Zd hblk
  have hb2:=hb1.trans (hal.mono hb1.size)
  clear c0 c1 c2 c3 c4 c5 c6 c7 c8 c9 hnode hmayx hal hblk
  generalize hmx:Nd.may ⟨xk,xm,xs,xn,xlv,xln,xpv,xpn,xev,xen⟩=mb at*
  have HMX:=Hd hmx
  clear hmx
  cases mb with
  |false=>
   have HW:Hid (QQ l a d a 0 4):=Hd (.inr ⟨by decide,fun st=>HC1.out st⟩)
   go_wp2_with fail
   exact bodyPost_ret (v:= .tuple #[.int .i64 (a:Int),.int .i64 0,.int .i64 4]) (by simp[results,Tryz.results190,go_sem]) rfl ⟨a,0,4,rfl,HW.out,hb1⟩
  |true=>
   obtain⟨q,rfl⟩:=Int.eq_ofNat_of_zero_le (HMK.out rfl)
   by_cases hq8:8 < q
   ·have HW:Hid (QQ l a d a 0 3):=Hd (.inr ⟨by decide,fun st=>by rw[HC1.out st,if_pos rfl,if_pos (.inl (by omega))]⟩)
    have hq8':(8:Int) < (q:Int):=by omega
    go_wp2_with fail
    exact bodyPost_ret (v:= .tuple #[.int .i64 (a:Int),.int .i64 0,.int .i64 3]) (by simp[results,Tryz.results190,go_sem]) rfl ⟨a,0,3,rfl,HW.out,hb2⟩
   have hq8': ¬(8:Int) < (q:Int):=by omega
   by_cases hd16:16 < d
   ·have HW:Hid (QQ l a d a 0 3):=Hd (.inr ⟨by decide,fun st=>by rw[HC1.out st,if_pos rfl,if_pos (.inr hd16)]⟩)
    have hd16':(16:Int) < (d:Int):=by omega
    go_wp2_with fail
    exact bodyPost_ret (v:= .tuple #[.int .i64 (a:Int),.int .i64 0,.int .i64 3]) (by simp[results,Tryz.results190,go_sem]) rfl ⟨a,0,3,rfl,HW.out,hb2⟩
   have hd16': ¬(16:Int) < (d:Int):=by omega
   have HC2:Hid (∀st,chk (l.drop a) (d::st)=chk (l.drop (a+1)) (List.replicate q (d+1)++st)):=Hd fun st=>by rw[HC1.out st,if_pos rfl,if_neg (by omega),Int.toNat_natCast]
   have hih:=fun p w (h1:n - p≤m) (h2:p≤n) h5 h6=>ih p (d+1) w h1 h2 hn (by omega) h5 h6
   have ed:((d+1:Nat):Int)=(d:Int)+1:=by omega
   rw[ed] at hih
   have HS:=Hd h
   clear HC1 HMK ih ed h
   go_wp2_with fail
   clear d0 d1 d2 d3 d4 d5 d6 d7 d8 d9
   go_loopw [1,10,11] (fun v1 v10 v11 wr=>ZkV l a d q n (q:Int) w1.heap.size w v1 v10 v11 wr) (fun _ _ v11 _=>q - (intOf v11).toNat)
   case atStart=>exact⟨0,a+1,.nil,by go_num,rfl,rfl,by omega,by omega,by omega,rfl,trivial,by simp[F.ht];omega,rfl,hc3,hgl,hb2⟩
   case round=>
    clear hc3 hgl hb2
    obtain⟨i,p,f,rfl,rfl,rfl,hi,hap,hpn,hfn,hfw,hfd,hfl,hc3,hgl,hb2⟩:=hrel
    have HFN:=Hd hfn
    have HFL:=Hd hfl
    have HFW:=Hd hfw
    clear hfn hfl hfw
    by_cases hlt2:i < q
    ·have hlt2':(i:Int) < (q:Int):=by omega
     have HC3:Hid (∀st,chk (l.drop a) (d::st)=chk (l.drop p) ((d+1)::(List.replicate (q - i - 1) (d+1)++st))):=by
      refine Hd fun st=> ?_
      rw[HC2.out,HFL.out]
      have e:List.replicate q (d+1)++st=List.replicate f.num (d+1)++((d+1)::(List.replicate (q - i - 1) (d+1)++st)):=by
       rw[HFN.out, ← List.cons_append, ← List.replicate_succ, ← List.append_assoc,List.replicate_append_replicate]
       congr 2
       omega
      rw[e]
      exact F.KJ f (d+1) _ _ HFW.out hfd
     go_wp2_with fail
     refine(hih p wr (by omega) hpn (HS.out.below (hb2.mono hB)) (Nat.le_trans hB hb2.size)).mono ?_
     rintro e w3 ⟨nx,dp,er,rfl,hW,hb3⟩
     have hc3':=(hb3.cell (p:=⟨w1.heap.size,3,none⟩) hgl).trans hc3
     have hgl':=Nat.lt_of_lt_of_le hgl hb3.size
     have hb4:=hb2.trans (hb3.mono hb2.size)
     clear hc3 hgl hb2 hb3
     rcases hW with⟨rfl,hlt3,y,cs,wft,htt,hfl2,hnx,hdp⟩|⟨hne,hch⟩
     ·have HFL2:=Hd hfl2
      have HWT:=Hd wft
      have HDP:=Hd hdp
      have hnx':nx≤n:=by rw[← HL.out];exact hnx
      have HHT:Hid (max (d+f.ht) dp=d+(f.app (.cons y cs .nil)).ht∧d+1+(f.app (.cons y cs .nil)).ht≤17):=Hd (by rw[F.app_ht];omega)
      clear hfl2 wft hdp hnx htt
      obtain⟨t1,ht1⟩: ∃t1,t1=d+f.ht:=⟨_,rfl⟩
      rw[← ht1] at HHT
      rw[← ht1]
      have hmx:max (t1:Int) (dp:Int)=((max t1 dp:Nat):Int):=by omega
      have HT1:=Hd ht1
      clear ht1
      go_wp2_with fail
      go_roundw
      case rel=>exact⟨i+1,nx,f.app (.cons y cs .nil),rfl,by go_num,by rw[← HHT.out.1];go_num,by omega,by omega,hnx',by rw[F.app_num,HFN.out];rfl,F.app_wf _ _ HFW.out HWT.out,HHT.out.2,by rw[HFL.out,HFL2.out,F.app_flat,List.append_assoc],hc3',hgl',hb4⟩
      case measure=>simp[intOf];omega
     ·have hne':((er:Int) !=0)=true:=by simp;omega
      have HW:Hid (QQ l a d nx 0 er):=Hd (.inr ⟨hne,fun st=>by rw[HC3.out,hch]⟩)
      clear hch
      go_wp2_with fail
      exact bodyPost_ret (v:= .tuple #[.int .i64 (nx:Int),.int .i64 0,.int .i64 (er:Int)]) (by simp[results,Tryz.results190,go_sem]) rfl ⟨nx,0,er,rfl,HW.out,hb4⟩
    ·obtain rfl:i=q:=by omega
     have HW:Hid (QQ l a d p (d+f.ht) 0):=by
      refine Hd (.inl ⟨rfl,hap,_,f,⟨HMX.out,by rw[HFN.out],by rw[HFN.out];omega,HFW.out,trivial⟩,?_,?_,by rw[HL.out];exact hpn,?_⟩)
      ·simp only[F.ht];omega
      ·rw[HDR.out,HFL.out];simp[F.flat]
      ·simp only[F.ht];omega
     obtain⟨t1,ht1⟩: ∃t1,t1=d+f.ht:=⟨_,rfl⟩
     rw[← ht1] at HW
     rw[← ht1]
     clear ht1
     go_wp2
     exact bodyPost_ret (v:= .tuple #[.int .i64 (p:Int),.int .i64 (t1:Int),.int .i64 0]) (by simp[results,Tryz.results190,go_sem]) rfl ⟨p,t1,0,rfl,HW.out,hb2⟩
end Go.Proofs.YtfmpecnkkbpdlaaGreatDoor
namespace Go.Proofs.YtfmpecnkkbpdlaaGreatDoor
open Go.RowKit
theorem VO (A:Option Addr)(n c:Nat)(l:List Nd)(w:World)(h:Ns w w.heap.size A n c l)(hf: ∀x∈l,x.Fits):
  Calls Tryz.prog 114 #[.slice A n c] w fun e w'=>e= .returned (.int .i64 (Zt l:Int))∧Below w.heap.size w w':=by
 have HL:=Hd h.len
 by_cases h0:n=0
 ·have hl:l= []:=List.eq_nil_of_length_eq_zero (by rw[HL.out,h0])
  have HC:Hid (Zt l=1):=by subst hl;exact rfl
  subst h0
  go_enter Tryz.func114,Tryz.ntmps114
  go_wp2
  go_ret
  exact⟨by rw[HC.out];rfl,Below.refl _ _⟩
 have hne:l≠ []:=by
  intro e
  have:=HL.out
  rw[e] at this
  exact h0 this.symm
 have h0':((n:Int)==0)=false:=by simp;omega
 by_cases h128:128 < n
 ·have HC:Hid (Zt l=3):=Hd (by unfold Zt;rw[if_neg hne,if_pos (by rw[HL.out];exact h128)])
  have h128':(128:Int) < (n:Int):=by omega
  go_enter Tryz.func114,Tryz.ntmps114
  go_wp2
  go_ret
  exact⟨by rw[HC.out];rfl,Below.refl _ _⟩
 have h128': ¬(128:Int) < (n:Int):=by omega
 have HC:Hid (Zt l=chk l [1]):=by
  refine Hd ?_
  unfold Zt
  rw[if_neg hne,if_neg (by rw[HL.out];omega)]
 have hw:=walk_any A n c w.heap.size l hf n 0 1 w (by omega) (by omega) (by omega) (by omega) h lR
 clear hf hne
 go_enter Tryz.func114,Tryz.ntmps114
 go_wp2_with fail
 refine hw.mono ?_
 rintro e w1 ⟨nx,dp,er,rfl,hW,hb⟩
 rcases hW with⟨rfl,hlt,y,cs,wy,hy,e2,hle,hdp⟩|⟨hne,hall⟩
 ·have HT:Hid (chk l [1]=chk (l.drop nx) []):=by
   refine Hd ?_
   have:=F.KJ (F.cons y cs .nil) 1 (l.drop nx) [] wy (by omega)
   rw[List.drop_zero] at e2
   rw[← e2] at this
   simpa [F.num] using this
  clear e2 wy hy hdp hw
  by_cases hnx:nx < n
  ·have HE:Hid (Zt l=4):=by
    refine Hd ?_
    rw[HC.out,HT.out,List.drop_eq_getElem_cons (by rw[HL.out];exact hnx)]
    rfl
   go_wp2
   go_ret
   exact⟨by rw[HE.out];rfl,hb⟩
  ·have HE:Hid (Zt l=0):=by
    refine Hd ?_
    rw[HC.out,HT.out,List.drop_eq_nil_of_le (by rw[HL.out];omega)]
    rfl
   go_wp2
   go_ret
   exact⟨by rw[HE.out];rfl,hb⟩
 ·have HE:Hid (Zt l=er):=by
   refine Hd ?_
   have:=hall []
   rw[List.drop_zero] at this
   rw[HC.out,this]
  have hne':((er:Int)==0)=false:=by simp;omega
  clear hall hw
  go_wp2
  go_ret
  exact⟨by rw[HE.out];rfl,hb⟩
end Go.Proofs.YtfmpecnkkbpdlaaGreatDoor
