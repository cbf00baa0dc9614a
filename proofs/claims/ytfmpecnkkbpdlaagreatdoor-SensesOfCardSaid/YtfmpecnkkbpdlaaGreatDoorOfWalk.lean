import Derived.Deep.QuietTactic
import Derived.BigQuiet
import Derived.Test.YtfmpecnkkbpdlaaGreatDoorLieA
import Derived.Test.YtfmpecnkkbpdlaaGreatDoorLiv
import Derived.Test.YtfmpecnkkbpdlaaGreatDoorOfs
import Derived.Test.YtfmpecnkkbpdlaaGreatDoorRefC
set_option maxRecDepth 100000
set_option maxHeartbeats 16000000
namespace Go.Proofs.YtfmpecnkkbpdlaaGreatDoor
open Go.RowKit
def LfB (n:Nat)(w:World)(i5:Value)(wr:World):Prop:= ∃k:Nat,i5= .int .i64 (k:Int)∧k≤n∧Below w.heap.size w wr
theorem Zag (A A2:Option Addr)(n c c2 B B2:Nat)(l:List Sp)(w:World)(h:Rs spc 5 w B A n c l)(h2:Rs spc 5 w B2 A2 n c2 l):
  Calls Tryz.prog 39 #[.slice A n c,.slice A2 n c2] w fun e w'=>e= .returned (.bool true)∧Below w.heap.size w w':=by
 have HL:=Hd h.len
 have HT:=Hd h
 have HR:=Hd h2
 have hn2:((n:Int) !=(n:Int))=false:=by simp
 have htop:=h.top
 have hcap:=h.cap
 unfold maxLen at htop
 clear h h2
 go_enter Tryz.func39,Tryz.ntmps39
 go_wp2
 go_loopw [5] (fun i5 wr=>Zi6 n w i5 wr) (fun i5 _=>n - (intOf i5).toNat)
 case atStart=>exact⟨0,0,rfl,by omega,rfl⟩
 case round=>
  obtain⟨k,q,rfl,hk,rfl⟩:=hrel
  by_cases hlt:k < n
  ·have hk':k < l.length:=by rw[HL.out];exact hlt
   obtain⟨b,o,rfl,-,c0,c1,c2,c3,c4⟩:=Vp HR.out hk'
   obtain⟨b2,o2,rfl,-,d0,d1,d2,d3,d4⟩:=Vp HT.out hk'
   generalize l[k]=x at*
   obtain⟨xn,xp,xs,xv,xz⟩:=x
   simp only at c0 c1 c2 c3 c4 d0 d1 d2 d3 d4
   go_wp2
   go_quiet (fail)
   go_wp2
   go_roundw
   case rel=>exact⟨k+1,_,by go_num,by omega,rfl⟩
   case measure=>simp[intOf];omega
  ·obtain rfl:k=n:=by omega
   have hbW:Below w.heap.size w (w.drewN q):=La.below_drewN w q
   go_wp2
   go_ret
   exact⟨rfl,hbW⟩
theorem YP (A A2:Option Addr)(n c c2 B B2:Nat)(l:List Nat)(w:World)(h:Rd La.nm w B A n c l)(h2:Rd La.nm w B2 A2 n c2 l):
  Calls Tryz.prog 40 #[.slice A n c,.slice A2 n c2] w fun e w'=>e= .returned (.bool true)∧Below w.heap.size w w':=by
 have HL:=Hd h.len
 have HT:=Hd h
 have HR:=Hd h2
 have hn2:((n:Int) !=(n:Int))=false:=by simp
 have htop:=h.top
 have hcap:=h.cap
 unfold maxLen at htop
 clear h h2
 go_enter Tryz.func40,Tryz.ntmps40
 go_wp2
 go_loopw [5] (fun i5 wr=>Zi6 n w i5 wr) (fun i5 _=>n - (intOf i5).toNat)
 case atStart=>exact⟨0,0,rfl,by omega,rfl⟩
 case round=>
  obtain⟨k,q,rfl,hk,rfl⟩:=hrel
  by_cases hlt:k < n
  ·have hk':k < l.length:=by rw[HL.out];exact hlt
   obtain⟨b,o,rfl,-,hc⟩:=HR.out.spot (by omega)
   obtain⟨b2,o2,rfl,-,hd⟩:=HT.out.spot (by omega)
   have e1:w.cell? ⟨b,o+k,none⟩=some (.int .u64 (l[k]:Int)):=hc k hk'
   have e2:w.cell? ⟨b2,o2+k,none⟩=some (.int .u64 (l[k]:Int)):=hd k hk'
   clear hc hd
   generalize l[k]=u at*
   (
    go_wp2
    go_quiet (fail)
    go_wp2
    go_roundw
    case rel=>exact⟨k+1,_,by go_num,by omega,rfl⟩
    case measure=>simp[intOf];omega)
  ·obtain rfl:k=n:=by omega
   have hbW:Below w.heap.size w (w.drewN q):=La.below_drewN w q
   go_wp2
   go_ret
   exact⟨rfl,hbW⟩
theorem Zah (A A2:Option Addr)(n c c2 B B2:Nat)(l:List Bool)(w:World)(h:Rd Value.bool w B A n c l)(h2:Rd Value.bool w B2 A2 n c2 l):
  Calls Tryz.prog 131 #[.slice A n c,.slice A2 n c2] w fun e w'=>e= .returned (.bool true)∧Below w.heap.size w w':=by
 have HL:=Hd h.len
 have HT:=Hd h
 have HR:=Hd h2
 have hn2:((n:Int) !=(n:Int))=false:=by simp
 have htop:=h.top
 have hcap:=h.cap
 unfold maxLen at htop
 clear h h2
 go_enter Tryz.func131,Tryz.ntmps131
 go_wp2
 go_loopw [5] (fun i5 wr=>Zi6 n w i5 wr) (fun i5 _=>n - (intOf i5).toNat)
 case atStart=>exact⟨0,0,rfl,by omega,rfl⟩
 case round=>
  obtain⟨k,q,rfl,hk,rfl⟩:=hrel
  by_cases hlt:k < n
  ·have hk':k < l.length:=by rw[HL.out];exact hlt
   obtain⟨b,o,rfl,-,hc⟩:=HR.out.spot (by omega)
   obtain⟨b2,o2,rfl,-,hd⟩:=HT.out.spot (by omega)
   have e1:w.cell? ⟨b,o+k,none⟩=some (.bool l[k]):=hc k hk'
   have e2:w.cell? ⟨b2,o2+k,none⟩=some (.bool l[k]):=hd k hk'
   clear hc hd
   generalize l[k]=u at*
   cases u
   all_goals(
    go_wp2
    go_quiet (fail)
    go_wp2
    go_roundw
    case rel=>exact⟨k+1,_,by go_num,by omega,rfl⟩
    case measure=>simp[intOf];omega)
  ·obtain rfl:k=n:=by omega
   have hbW:Below w.heap.size w (w.drewN q):=La.below_drewN w q
   go_wp2
   go_ret
   exact⟨rfl,hbW⟩
theorem Zai (A A2:Option Addr)(n c c2:Nat)(l:List (List Bool))(w:World)(h:Z8 w w.heap.size A n c l)(h2:Z8 w w.heap.size A2 n c2 l):
  Calls Tryz.prog 41 #[.slice A n c,.slice A2 n c2] w fun e w'=>e= .returned (.bool true)∧Below w.heap.size w w':=by
 obtain⟨hs,r1,k1,b1⟩:=h.hd
 obtain⟨gs,r2,k2,b2⟩:=h2.hd
 have HN:=Hd k1
 have HM:=Hd k2
 have HL:=Hd r1.len
 have HT:=Hd r1
 have HR:=Hd r2
 have HB1:=Hd b1
 have HB2:=Hd b2
 have hn2:((n:Int) !=(n:Int))=false:=by simp
 have htop:=r1.top
 have hcap:=r1.cap
 unfold maxLen at htop
 clear h h2 r1 r2 b1 b2 k1 k2
 go_enter Tryz.func41,Tryz.ntmps41
 go_wp2
 go_loopw [5] (fun i5 wr=>LfB n w i5 wr) (fun i5 _=>n - (intOf i5).toNat)
 case atStart=>exact⟨0,rfl,by omega,Below.refl _ _⟩
 case round=>
  obtain⟨k,rfl,hk,hb⟩:=hrel
  by_cases hlt:k < n
  ·have hk1:k < hs.length:=by rw[HL.out];exact hlt
   have hk2:k < l.length:=by rw[← HN.out];exact hk1
   have hk3:k < gs.length:=by rw[HM.out];exact hk2
   obtain⟨b,o,rfl,-,hc⟩:=HT.out.spot (by omega)
   obtain⟨b2,o2,rfl,-,hd⟩:=HR.out.spot (by omega)
   have e1:w.cell? ⟨b,o+k,none⟩=some (slc hs[k]):=hc k hk1
   have e2:w.cell? ⟨b2,o2+k,none⟩=some (slc gs[k]):=hd k hk3
   have d1:=HB1.out k hk1 hk2
   have d2:=HB2.out k hk3 hk2
   obtain⟨⟨X1,x1,y1⟩,hx⟩: ∃p,hs[k]=p:=⟨_,rfl⟩
   obtain⟨⟨X2,x2,y2⟩,hy⟩: ∃p,gs[k]=p:=⟨_,rfl⟩
   rw[hx] at e1 d1
   rw[hy] at e2 d2
   have hxl:x1=l[k].length:=d1.len.symm
   have hyl:x2=l[k].length:=d2.len.symm
   unfold slc at e1 e2
   simp only at e1 e2 d1 d2
   subst hxl
   subst hyl
   have HC:Hid (∀W,Below w.heap.size w W→Calls Tryz.prog 131 #[.slice X1 l[k].length y1,.slice X2 l[k].length y2] W fun e w'=>e= .returned (.bool true)∧Below W.heap.size W w'):=Hd fun W hW=>Zah X1 X2 l[k].length y1 y2 _ _ l[k] W (d1.at_size lR hW) (d2.at_size lR hW)
   have e3:=Zc e1 hb
   have e4:=Zc e2 hb
   have HB:=Hd hb
   have HLT:=Hd hlt
   generalize l[k].length=m at*
   clear hc hd d1 d2 hx hy e1 e2 hk1 hk2 hk3 hb
   go_wp2
   refine wro [0,1,2,3,4,5,6,7,8,9] [8] 10 (fun w'=>w'.cell? ⟨b,o+k,none⟩=some (.slice X1 m y1)∧w'.cell? ⟨b2,o2+k,none⟩=some (.slice X2 m y2)) (by kernel_rfl) (fun _ _ _ _ _ h=>h) ⟨e3,e4⟩ ?_
   simp only[steps,sE,sD]
   repeat(first
    |(refine Zf (v:= ?_) rfl rfl ?_ ?_;rotate_left;(focus(rintro w' ⟨c0,c00⟩;go_simp;try with_reducible rfl));simp only[Act.put,sA,sB,sC]))
   refine Ze rfl rfl (fun K hK=> ?_)
   go_simp
   have hdr:=(Below.refl wr.heap.size wr).drew
   have HDR:=Hd hdr
   refine(HC.out wr.drew (HB.out.trans (hdr.mono HB.out.size))).mono ?_
   rintro e w2 ⟨rfl,hb2⟩
   have hv:=HDR.out.trans (hb2.mono HDR.out.size)
   refine hK.out _ _ (fun _=>⟨Zc e3 hv,Zc e4 hv⟩) ?_
   clear hK K
   have HB2:=Hd (HB.out.trans (hv.mono HB.out.size))
   clear e3 e4 hdr hb2 hv HC HB HDR
   repeat(first
    |(refine Zf (v:= ?_) rfl rfl ?_ ?_;rotate_left;(focus(rintro w' ⟨c0,c00⟩;go_simp;try with_reducible rfl));simp only[Act.put,sA,sB,sC]))
   refine Zi ?_
   go_wp2
   go_roundw
   case rel=>exact⟨k+1,by go_num,HLT.out,HB2.out⟩
   case measure=>
    have:=HLT.out
    simp[intOf]
    omega
  ·obtain rfl:k=n:=by omega
   have HB:=Hd hb
   go_wp2
   go_ret
   exact⟨rfl,HB.out⟩
theorem Ye (z:Sen)(p q:Q4)(w:World)(h:YD w z p)(h2:YD w z q):
  Calls Tryz.prog 13 #[p.v,q.v] w fun e w'=>e= .returned (.bool true)∧Below w.heap.size w w':=by
 obtain⟨A1,n1,c1,A2,n2,c2,A3,n3,c3,A4,n4,c4⟩:=p
 obtain⟨B1,m1,d1,B2,m2,d2,B3,m3,d3,B4,m4,d4⟩:=q
 obtain rfl:n1=m1:=h.rp.len.symm.trans h2.rp.len
 obtain rfl:n2=m2:=h.rl.len.symm.trans h2.rl.len
 obtain rfl:n3=m3:=h.rh.len.symm.trans h2.rh.len
 obtain rfl:n4=m4:=by
  obtain⟨hs,r1,k1,-⟩:=h.rb.hd
  obtain⟨gs,r2,k2,-⟩:=h2.rb.hd
  exact r1.len.symm.trans ((k1.trans k2.symm).trans r2.len)
 have H1:=Hd fun W (hW:Below w.heap.size w W)=>Zag A1 B1 n1 c1 d1 _ _ z.p W (h.rp.at_size lR hW) (h2.rp.at_size lR hW)
 have H2:=Hd fun W (hW:Below w.heap.size w W)=>YP A2 B2 n2 c2 d2 _ _ z.lo W (h.rl.at_size lR hW) (h2.rl.at_size lR hW)
 have H3:=Hd fun W (hW:Below w.heap.size w W)=>YP A3 B3 n3 c3 d3 _ _ z.hi W (h.rh.at_size lR hW) (h2.rh.at_size lR hW)
 have H4:=Hd fun W (hW:Below w.heap.size w W)=>Zai A4 B4 n4 c4 d4 z.be W (h.rb.at_size lR hW) (h2.rb.at_size lR hW)
 obtain⟨x1,hx1⟩: ∃x,w.alloc (.cells #[.slice A1 n1 c1,.slice A2 n2 c2,.slice A3 n3 c3,.slice A4 n4 c4] 43)=x:=⟨_,rfl⟩
 obtain⟨x2,hx2⟩: ∃x,x1.alloc (.cells #[.slice B1 n1 d1,.slice B2 n2 d2,.slice B3 n3 d3,.slice B4 n4 d4] 43)=x:=⟨_,rfl⟩
 have b0:Below w.heap.size w x1:=hx1▸bA
 have sx:x1.heap.size=w.heap.size+1:=by rw[← hx1,World.size_alloc]
 have b1:Below x1.heap.size x1 x2:=hx2▸bA
 have k0:x2.heap[w.heap.size]?=some (.cells #[.slice A1 n1 c1,.slice A2 n2 c2,.slice A3 n3 c3,.slice A4 n4 c4] 43 (0,0)):=(b1.block _ (by rw[sx];omega)).trans (hx1▸heap_alloc_new w _)
 have k1:x2.heap[w.heap.size+1]?=some (.cells #[.slice B1 n1 d1,.slice B2 n2 d2,.slice B3 n3 d3,.slice B4 n4 d4] 43 (0,0)):=by rw[← sx, ← hx2];exact heap_alloc_new x1 _
 have hb:Below w.heap.size w x2:=b0.trans (b1.mono b0.size)
 have HB:=Hd hb
 have HK:=Hd (And.intro k0 k1)
 clear h h2 b0 sx b1 hb k0 k1
 unfold Q4.v senV
 subst hx1
 have p0:=(Za (i:=0) HK.out.1).trans rfl
 have q0:=(Za (i:=0) HK.out.2).trans rfl
 replace p0:x2.cell? ⟨w.heap.size,0,none⟩=some (.slice A1 n1 c1):=p0
 replace q0:x2.cell? ⟨w.heap.size+1,0,none⟩=some (.slice B1 n1 d1):=q0
 go_enter Tryz.func13,Tryz.ntmps13
 go_wp2_with fail
 clear hx2
 refine(H1.out _ HB.out).mono ?_
 rintro e w1 ⟨rfl,hv⟩
 have HB2:=Hd (HB.out.trans (hv.mono HB.out.size))
 have HK2:Hid (w1.heap[w.heap.size]?=some (.cells #[.slice A1 n1 c1,.slice A2 n2 c2,.slice A3 n3 c3,.slice A4 n4 c4] 43 (0,0))∧w1.heap[w.heap.size+1]?=some (.cells #[.slice B1 n1 d1,.slice B2 n2 d2,.slice B3 n3 d3,.slice B4 n4 d4] 43 (0,0))):=Hd ⟨(hv.block _ (Zd HK.out.1)).trans HK.out.1,(hv.block _ (Zd HK.out.2)).trans HK.out.2⟩
 have p1:w1.cell? ⟨w.heap.size,1,none⟩=some (.slice A2 n2 c2):=(Za (i:=1) HK2.out.1).trans rfl
 have q1:w1.cell? ⟨w.heap.size+1,1,none⟩=some (.slice B2 n2 d2):=(Za (i:=1) HK2.out.2).trans rfl
 clear p0 q0 hv
 go_wp2_with fail
 refine(H2.out _ HB2.out).mono ?_
 rintro e w2 ⟨rfl,hv⟩
 have HB3:=Hd (HB2.out.trans (hv.mono HB2.out.size))
 have HK3:Hid (w2.heap[w.heap.size]?=some (.cells #[.slice A1 n1 c1,.slice A2 n2 c2,.slice A3 n3 c3,.slice A4 n4 c4] 43 (0,0))∧w2.heap[w.heap.size+1]?=some (.cells #[.slice B1 n1 d1,.slice B2 n2 d2,.slice B3 n3 d3,.slice B4 n4 d4] 43 (0,0))):=Hd ⟨(hv.block _ (Zd HK2.out.1)).trans HK2.out.1,(hv.block _ (Zd HK2.out.2)).trans HK2.out.2⟩
 have p2:w2.cell? ⟨w.heap.size,2,none⟩=some (.slice A3 n3 c3):=(Za (i:=2) HK3.out.1).trans rfl
 have q2:w2.cell? ⟨w.heap.size+1,2,none⟩=some (.slice B3 n3 d3):=(Za (i:=2) HK3.out.2).trans rfl
 clear p1 q1 hv
 go_wp2_with fail
 refine(H3.out _ HB3.out).mono ?_
 rintro e w3 ⟨rfl,hv⟩
 have HB4:=Hd (HB3.out.trans (hv.mono HB3.out.size))
 have HK4:Hid (w3.heap[w.heap.size]?=some (.cells #[.slice A1 n1 c1,.slice A2 n2 c2,.slice A3 n3 c3,.slice A4 n4 c4] 43 (0,0))∧w3.heap[w.heap.size+1]?=some (.cells #[.slice B1 n1 d1,.slice B2 n2 d2,.slice B3 n3 d3,.slice B4 n4 d4] 43 (0,0))):=Hd ⟨(hv.block _ (Zd HK3.out.1)).trans HK3.out.1,(hv.block _ (Zd HK3.out.2)).trans HK3.out.2⟩
 have p3:w3.cell? ⟨w.heap.size,3,none⟩=some (.slice A4 n4 c4):=(Za (i:=3) HK4.out.1).trans rfl
 have q3:w3.cell? ⟨w.heap.size+1,3,none⟩=some (.slice B4 n4 d4):=(Za (i:=3) HK4.out.2).trans rfl
 clear p2 q2 hv
 go_wp2_with fail
 refine(H4.out _ HB4.out).mono ?_
 rintro e w4 ⟨rfl,hv⟩
 have HB5:=Hd (HB4.out.trans (hv.mono HB4.out.size))
 clear p3 q3 hv
 go_wp2_with fail
 go_ret
 exact⟨rfl,HB5.out⟩
theorem ZdD {P:Program}{fn:Func}{p p2:Tmp}{ty:TypeId}(h:fn.results= #[.cell p ty,.cell p2 ty])(tmps:Array Value)(w:World)(g g2:Nat)(t:TypeId)(cs cs2:Array Value)(fr fr2:Nat×Nat)(d:TypeDesc)
  (hp:tmps.getD p undef= .pointer (some ⟨g,0,none⟩)) (hg:w.heap[g]?=some (.cells cs t fr)) (hp2:tmps.getD p2 undef= .pointer (some ⟨g2,0,none⟩)) (hg2:w.heap[g2]?=some (.cells cs2 t fr2))
  (hu:P.underlying ty=some d) (hd:(match d with| .struct _| .array _ _=>true|_=>false)=true) (hi:(P.info? ty).map (·.size)=some cs.size) (hi2:(P.info? ty).map (·.size)=some cs2.size):
  (results fn tmps).run P w= .ok (.tuple #[.agg cs,.agg cs2]) w:=by
 have hp':tmps[p]?.getD undef= .pointer (some ⟨g,0,none⟩):=by simpa using hp
 have hp2':tmps[p2]?.getD undef= .pointer (some ⟨g2,0,none⟩):=by simpa using hp2
 simp[results,h,hp',hp2',asAddr,run_loadVar_row w g t ty cs fr d hg hu hd hi,run_loadVar_row w g2 t ty cs2 fr2 d hg2 hu hd hi2]
theorem ZkY {w:World}{g:Nat}{A:Option Addr}{n c:Nat}{k:Int}(h:w.heap[g]?=some (.cells #[.slice A n c,.int .i64 k] 24 (0,0))):w.cell? ⟨g,0,none⟩=some (.slice A n c)∧w.cell? ⟨g,1,none⟩=some (.int .i64 k):=⟨(Za (i:=0) h).trans rfl,(Za (i:=1) h).trans rfl⟩
theorem st3b {w:World}{g:Nat}{a b c:Value}(h:w.heap[g]?=some (.cells #[a,b,c] 36 (0,0)))(x y z:Value):
  (((w.setCell ⟨g,0,none⟩ x).setCell ⟨g,1,none⟩ y).setCell ⟨g,2,none⟩ z).heap[g]?=some (.cells #[x,y,z] 36 (0,0)):=by
 have h1:=Zj (i:=0) h x
 have h2:=Zj (i:=1) h1 y
 have h3:=Zj (i:=2) h2 z
 simpa using h3
theorem Zem {w:World}{g b:Nat}(h:b≠g)(x y z:Value):(((w.setCell ⟨g,0,none⟩ x).setCell ⟨g,1,none⟩ y).setCell ⟨g,2,none⟩ z).heap[b]?=w.heap[b]?:=
 (Below.heap_setCell _ _ _ _ h).trans ((Below.heap_setCell _ _ _ _ h).trans (Below.heap_setCell _ _ _ _ h))
def ZSo (w:World)(g:Nat):Prop:=w.heap[g]?=some (.cells #[.int .i64 0,.slice none 0 0,.int .i64 0] 36 (0,0))
theorem ZSo.keep {w W:World}{g:Nat}(h:ZSo w g)(hb:Below w.heap.size w W):ZSo W g:=(hb.block g (Zd h)).trans h
theorem ZiB (A:Option Addr)(n c:Nat)(k:Int)(rows:List Nat)(w:World)(h:Rd La.nm w w.heap.size A n c rows)(hf:La.Fit rows):
  Calls Tryz.prog 7 #[zV A n c k] w fun e w'=> ∃t1 B1 m1 d1 e1 t2 B2 m2 d2 e2,e= .returned (.tuple #[Bo.rsV t1 B1 m1 d1 e1,Bo.rsV t2 B2 m2 d2 e2])∧Bo.RSrt w.heap.size w' t1 B1 m1 d1 e1 (laOf rows)∧Bo.RSrt w.heap.size w' t2 B2 m2 d2 e2 (efOf k)∧Below w.heap.size w w':=by
 have HR:=Hd h
 have HF:=Hd hf
 have hzb:Below w.heap.size w (w.alloc (.cells #[.slice A n c,.int .i64 k] 24)):=bA
 have hz:=ZkY (heap_alloc_new w (.cells #[.slice A n c,.int .i64 k] 24))
 obtain⟨wa,hwa⟩: ∃wa,w.alloc (.cells #[.slice A n c,.int .i64 k] 24)=wa:=⟨_,rfl⟩
 rw[hwa] at hz hzb
 have hsa:wa.heap.size=w.heap.size+1:=by rw[← hwa,World.size_alloc]
 have hy1:ZSo (wa.alloc (.cells #[.int .i64 0,.slice none 0 0,.int .i64 0] 36)) wa.heap.size:=heap_alloc_new wa _
 obtain⟨wb,hwb⟩: ∃wb,wa.alloc (.cells #[.int .i64 0,.slice none 0 0,.int .i64 0] 36)=wb:=⟨_,rfl⟩
 have hbb:Below wa.heap.size wa wb:=hwb▸bA
 have hsb:wb.heap.size=w.heap.size+1+1:=by rw[← hwb,World.size_alloc,hsa]
 rw[hwb,hsa] at hy1
 have hy2:ZSo (wb.alloc (.cells #[.int .i64 0,.slice none 0 0,.int .i64 0] 36)) wb.heap.size:=heap_alloc_new wb _
 obtain⟨w1,hw1⟩: ∃w1,wb.alloc (.cells #[.int .i64 0,.slice none 0 0,.int .i64 0] 36)=w1:=⟨_,rfl⟩
 have hbc:Below wb.heap.size wb w1:=hw1▸bA
 rw[hw1,hsb] at hy2
 replace hy1:=hy1.keep hbc
 have hac:=hbb.trans (hbc.mono hbb.size)
 have hz0:=Zc hz.1 hac
 have hz1:=Zc hz.2 hac
 have hb:=hzb.trans (hac.mono hzb.size)
 have HB:=Hd hb
 have hS:Hid (∀W,Below w1.heap.size w1 W→W.cell? ⟨w.heap.size,0,none⟩=some (.slice A n c)∧W.cell? ⟨w.heap.size,1,none⟩=some (.int .i64 k)):=Hd fun W hW=>⟨Zc hz0 hW,Zc hz1 hW⟩
 clear hzb hz hsa hbb hsb hbc hac hz0 hz1 hb h hf
 subst hwa hwb
 unfold zV
 go_enter Tryz.func7,Tryz.ntmps7
 go_wp2_with fail
 try rw[hw1]
 clear hw1
 refine wro [0,1,3,4,2,5,6,7] [2,5,6,7] 8 (fun W=>W.cell? ⟨w.heap.size,0,none⟩=some (.slice A n c)∧W.cell? ⟨w.heap.size,1,none⟩=some (.int .i64 k)) (by kernel_rfl) (fun _ _ _ _ _ h=>h) (hS.out _ (Below.refl _ w1).drew) ?_
 simp only[steps,sE,sD]
 repeat((first|refine Zg rfl ?_|(refine Zf (v:= ?_) rfl rfl ?_ ?_;rotate_left;(focus(rintro w' ⟨x0,x1⟩;go_simp;try with_reducible rfl))));simp only[Act.put,sA,sB,sC])
 have hv:Below w1.heap.size w1 w1.drew:=(Below.refl _ _).drew
 have HV:=Hd hv
 replace hy1:=hy1.keep hv
 replace hy2:=hy2.keep hv
 clear hv
 generalize w1.drew=w2 at*
 refine Ze rfl rfl (fun K hK=> ?_)
 go_simp
 have HB2:=Hd (HB.out.trans (HV.out.mono HB.out.size))
 refine(Bo.Yw A n c rows w2 w.heap.size HB2.out.size (HR.out.below HB2.out) HF.out).mono ?_
 rintro e w3 ⟨t1,B1,m1,d1,e1,rfl,hr1,hv⟩
 have HR1:=Hd hr1
 have HV3:=Hd (HV.out.trans (hv.mono HV.out.size))
 replace hy1:=hy1.keep hv
 replace hy2:=hy2.keep hv
 clear hr1 hv
 refine hK.out _ _ (fun _=>hS.out _ HV3.out) ?_
 clear hK K
 try simp only[Act.put,sA,sB,sC]
 refine Ze rfl rfl (fun K hK=> ?_)
 go_simp
 refine(Bo.Zb8 k w3).mono ?_
 rintro e w4 ⟨t2,B2,m2,d2,e2,rfl,hr2,hv⟩
 have HR2:=Hd (hr2 w.heap.size)
 have HR1':=Hd (HR1.out.below (hv.mono (HB.out.trans (HV3.out.mono HB.out.size)).size))
 have HV4:=Hd (HV3.out.trans (hv.mono HV3.out.size))
 replace hy1:=hy1.keep hv
 replace hy2:=hy2.keep hv
 clear hr2 hv HR1
 refine hK.out _ _ (fun _=>hS.out _ HV4.out) ?_
 clear hK K
 try simp only[Act.put,sA,sB,sC]
 unfold Bo.rsV
 have HB4:=Hd (HB.out.trans (HV4.out.mono HB.out.size))
 have o0:w4.cell? ⟨w.heap.size+1,0,none⟩=some (.int .i64 0):=by rw[Za hy1];rfl
 have o1:w4.cell? ⟨w.heap.size+1,1,none⟩=some (.slice none 0 0):=by rw[Za hy1];rfl
 have o2:w4.cell? ⟨w.heap.size+1,2,none⟩=some (.int .i64 0):=by rw[Za hy1];rfl
 have f0:w4.frozen? ⟨w.heap.size+1,0,none⟩=false:=Zb hy1
 have f1:w4.frozen? ⟨w.heap.size+1,1,none⟩=false:=Zb hy1
 have f2:w4.frozen? ⟨w.heap.size+1,2,none⟩=false:=Zb hy1
 have hz4:=hS.out _ HV4.out
 refine Ze rfl rfl (fun K hK=> ?_)
 go_simp
 obtain⟨w5,hw5⟩: ∃w5,w5=((w4.setCell ⟨w.heap.size+1,0,none⟩ (.int .i64 (t1:Int))).setCell ⟨w.heap.size+1,1,none⟩ (.slice B1 m1 d1)).setCell ⟨w.heap.size+1,2,none⟩ (.int .i64 (e1:Int)):=⟨_,rfl⟩
 have hk1:w5.heap[w.heap.size+1]?=some (.cells #[.int .i64 (t1:Int),.slice B1 m1 d1,.int .i64 (e1:Int)] 36 (0,0)):=hw5▸st3b hy1 _ _ _
 have hk2:ZSo w5 (w.heap.size+1+1):=(hw5▸Zem (by omega) _ _ _:w5.heap[w.heap.size+1+1]?=w4.heap[w.heap.size+1+1]?).trans hy2
 have hb5:Below (w.heap.size+1) w4 w5:=hw5▸(((Below.refl _ w4).setCell (p:=⟨w.heap.size+1,0,none⟩) lR _).setCell (p:=⟨w.heap.size+1,1,none⟩) lR _).setCell (p:=⟨w.heap.size+1,2,none⟩) lR _
 have hz5:w5.cell? ⟨w.heap.size,0,none⟩=some (.slice A n c)∧w5.cell? ⟨w.heap.size,1,none⟩=some (.int .i64 k):=⟨(hb5.cell (p:=⟨w.heap.size,0,none⟩) (Nat.lt_succ_self _)).trans hz4.1,(hb5.cell (p:=⟨w.heap.size,1,none⟩) (Nat.lt_succ_self _)).trans hz4.2⟩
 have hb50:Below w.heap.size w4 w5:=⟨hb5.os,hb5.tape,hb5.output,hb5.size,fun b hb=>hb5.block b (by omega)⟩
 have HR15:=Hd (HR1'.out.below hb50)
 have HR25:=Hd (HR2.out.below hb50)
 have HB5:=Hd (HB4.out.trans hb50)
 rw[← hw5]
 clear hw5 o0 o1 o2 f0 f1 f2 hy1 hy2 hb5 hb50 hz4 HR1' HR2 HV3 HV4 HV HB4
 refine hK.out _ _ (fun _=>hz5) ?_
 clear hK K
 try simp only[Act.put,sA,sB,sC]
 have o0:w5.cell? ⟨w.heap.size+1+1,0,none⟩=some (.int .i64 0):=by rw[Za hk2];rfl
 have o1:w5.cell? ⟨w.heap.size+1+1,1,none⟩=some (.slice none 0 0):=by rw[Za hk2];rfl
 have o2:w5.cell? ⟨w.heap.size+1+1,2,none⟩=some (.int .i64 0):=by rw[Za hk2];rfl
 have f0:w5.frozen? ⟨w.heap.size+1+1,0,none⟩=false:=Zb hk2
 have f1:w5.frozen? ⟨w.heap.size+1+1,1,none⟩=false:=Zb hk2
 have f2:w5.frozen? ⟨w.heap.size+1+1,2,none⟩=false:=Zb hk2
 refine Ze rfl rfl (fun K hK=> ?_)
 go_simp
 obtain⟨w6,hw6⟩: ∃w6,w6=((w5.setCell ⟨w.heap.size+1+1,0,none⟩ (.int .i64 (t2:Int))).setCell ⟨w.heap.size+1+1,1,none⟩ (.slice B2 m2 d2)).setCell ⟨w.heap.size+1+1,2,none⟩ (.int .i64 (e2:Int)):=⟨_,rfl⟩
 have hk62:w6.heap[w.heap.size+1+1]?=some (.cells #[.int .i64 (t2:Int),.slice B2 m2 d2,.int .i64 (e2:Int)] 36 (0,0)):=hw6▸st3b hk2 _ _ _
 have hk61:w6.heap[w.heap.size+1]?=some (.cells #[.int .i64 (t1:Int),.slice B1 m1 d1,.int .i64 (e1:Int)] 36 (0,0)):=(hw6▸Zem (by omega) _ _ _:w6.heap[w.heap.size+1]?=w5.heap[w.heap.size+1]?).trans hk1
 have hb6:Below (w.heap.size+1+1) w5 w6:=hw6▸(((Below.refl _ w5).setCell (p:=⟨w.heap.size+1+1,0,none⟩) lR _).setCell (p:=⟨w.heap.size+1+1,1,none⟩) lR _).setCell (p:=⟨w.heap.size+1+1,2,none⟩) lR _
 have hz6:w6.cell? ⟨w.heap.size,0,none⟩=some (.slice A n c)∧w6.cell? ⟨w.heap.size,1,none⟩=some (.int .i64 k):=⟨(hb6.cell (p:=⟨w.heap.size,0,none⟩) (by show w.heap.size < w.heap.size+1+1;omega)).trans hz5.1,(hb6.cell (p:=⟨w.heap.size,1,none⟩) (by show w.heap.size < w.heap.size+1+1;omega)).trans hz5.2⟩
 have hb60:Below w.heap.size w5 w6:=⟨hb6.os,hb6.tape,hb6.output,hb6.size,fun b hb=>hb6.block b (by omega)⟩
 have HR16:=Hd (HR15.out.below hb60)
 have HR26:=Hd (HR25.out.below hb60)
 have HB6:=Hd (HB5.out.trans hb60)
 rw[← hw6]
 clear hw6 o0 o1 o2 f0 f1 f2 hk1 hk2 hb6 hb60 hz5 HR15 HR25 HB5
 refine hK.out _ _ (fun _=>hz6) ?_
 clear hK K hz6
 try simp only[Act.put,sA,sB,sC]
 refine Zi ?_
 go_wp2_with fail
 exact bodyPost_ret (ZdD (P:=Tryz.prog) rfl _ _ (w.heap.size+1) (w.heap.size+1+1) 36 _ _ (0,0) (0,0) _ rfl hk61 rfl hk62 Tryz.underlying36 rfl rfl rfl) rfl ⟨t1,B1,m1,d1,e1,t2,B2,m2,d2,e2,rfl,HR16.out,HR26.out,HB6.out⟩
theorem ZgX (w:World)(t1:Nat)(B1:Option Addr)(m1 d1 e1 t2:Nat)(B2:Option Addr)(m2 d2 e2:Nat):RBox ((w.alloc (.cells #[.int .i64 (t1:Int),.slice B1 m1 d1,.int .i64 (e1:Int)] 36)).alloc (.cells #[.int .i64 (t2:Int),.slice B2 m2 d2,.int .i64 (e2:Int)] 36)) w.heap.size t1 B1 m1 d1 e1∧RBox ((w.alloc (.cells #[.int .i64 (t1:Int),.slice B1 m1 d1,.int .i64 (e1:Int)] 36)).alloc (.cells #[.int .i64 (t2:Int),.slice B2 m2 d2,.int .i64 (e2:Int)] 36)) (w.heap.size+1) t2 B2 m2 d2 e2:=by
 refine⟨(RBox.new w t1 B1 m1 d1 e1).keep (bA),?_⟩
 have:=RBox.new (w.alloc (.cells #[.int .i64 (t1:Int),.slice B1 m1 d1,.int .i64 (e1:Int)] 36)) t2 B2 m2 d2 e2
 rwa [World.size_alloc] at this
theorem ZdP {w W:World}{bk k:Nat}{vN:Value}{kN:Nat}{xN:List Value}{vB:Value}{kB:Nat}{xB:List Value}{vS:Value}{kS:Nat}{xS:List Value}{vM:Value}{kM:Nat}{xM:List Value}{vO:Value}{kO:Nat}{xO:List Value}{vL:Value}{kL:Nat}{xL:List Value}(h:ZZ w bk k vN kN xN vB kB xB vS kS xS vM kM xM vO kO xO vL kL xL)(hb:Below w.heap.size w W):ZZ W bk k vN kN xN vB kB xB vS kS xS vM kM xM vO kO xO vL kL xL:=by
 have far: ∀{E n:Nat} {v:Value} {xs:List Value},w.ownsRow (bk+1) E 3 v n xs→W.ownsRow (bk+1) E 3 v n xs:=fun h=>Zcf h fun k o _ ho=>(hb.block k (Zd ho)).trans ho
 exact⟨(hb.block bk (Zd h.blk)).trans h.blk,far h.oN,far h.oB,far h.oS,far h.oM,far h.oO,far h.oL⟩
theorem book0 (w:World):ZZ (w.alloc (.cells (Zz 0 (.slice none 0 0) (.slice none 0 0) (.slice none 0 0) (.slice none 0 0) (.slice none 0 0) (.slice none 0 0)) 64)) w.heap.size 0 (.slice none 0 0) 0 [] (.slice none 0 0) 0 [] (.slice none 0 0) 0 [] (.slice none 0 0) 0 [] (.slice none 0 0) 0 [] (.slice none 0 0) 0 []:=
 ⟨heap_alloc_new w _,World.ownsRow_nil _ _ _ _,World.ownsRow_nil _ _ _ _,World.ownsRow_nil _ _ _ _,World.ownsRow_nil _ _ _ _,World.ownsRow_nil _ _ _ _,World.ownsRow_nil _ _ _ _⟩
theorem walk (A3:Option Addr)(n3 c3:Nat)(k:Int)(rows:List Nat)(s:Sch)(A:Option Addr)(n c:Nat)(A1:Option Addr)(n1 c1:Nat)(A2:Option Addr)(n2 c2:Nat)(w:World)(hr:Rd La.nm w w.heap.size A3 n3 c3 rows)(hrf:La.Fit rows)(h:Uo w s A n c A1 n1 c1 A2 n2 c2)(hsum:n1+n2≤9223372036854775807):
  Calls Tryz.prog 3 #[zV A3 n3 c3 k,schV s A n c A1 n1 c1 A2 n2 c2] w fun e w'=>e= .returned (.bool true)∧Below w.heap.size w w':=by
 have HSA:Hid (∀W,Below w.heap.size w W→Uo W s A n c A1 n1 c1 A2 n2 c2):=Hd fun W hW=>h.keep hW
 have HR:Hid (∀W,Below w.heap.size w W→Rd La.nm W W.heap.size A3 n3 c3 rows):=Hd fun W hW=>hr.at_size lR hW
 have HGC:Hid (∀W:World,Calls Tryz.prog 4 #[schV s A n c A1 n1 c1 A2 n2 c2] W fun e w'=>Zdm e (fun r=>r=false→n≤60∧(n1+n2≤9223372036854775807→n1+n2≤80))∧Below W.heap.size W w'):=Hd fun W=>ZfZ s A n c A1 n1 c1 A2 n2 c2 W (by omega) (by omega)
 have HSUM:=Hd hsum
 have okS:=ZaC rows
 have okX:=Zcz k
 obtain⟨S,hS⟩: ∃S,laOf rows=S:=⟨_,rfl⟩
 obtain⟨X,hX⟩: ∃X,efOf k=X:=⟨_,rfl⟩
 have HPC:Hid (∀W,Below w.heap.size w W→Calls Tryz.prog 6 #[zV A3 n3 c3 k] W fun e w'=> ∃a b,e= .returned (.tuple #[.iface 80 (.pointer a),.iface 83 (.pointer b)])∧Both w' a b S X∧Below W.heap.size W w'):=Hd fun W hW=>hS▸hX▸Zdl A3 n3 c3 k rows W (HR.out W hW) hrf
 have HDC:Hid (∀W,Below w.heap.size w W→Calls Tryz.prog 7 #[zV A3 n3 c3 k] W fun e w'=> ∃t1 B1 m1 d1 e1 t2 B2 m2 d2 e2,e= .returned (.tuple #[Bo.rsV t1 B1 m1 d1 e1,Bo.rsV t2 B2 m2 d2 e2])∧Bo.RSrt W.heap.size w' t1 B1 m1 d1 e1 S∧Bo.RSrt W.heap.size w' t2 B2 m2 d2 e2 X∧Below W.heap.size W w'):=Hd fun W hW=>hS▸hX▸ZiB A3 n3 c3 k rows W (HR.out W hW) hrf
 rw[hS] at okS
 rw[hX] at okX
 clear hS hX hsum
 have HOS:=Hd okS
 have HOX:=Hd okX
 obtain⟨x,hx⟩: ∃x,w.alloc (.cells #[.slice A3 n3 c3,.int .i64 k] 24)=x:=⟨_,rfl⟩
 obtain⟨y,hy⟩: ∃y,x.alloc (.cells #[.int .i64 s.lv,.int .i64 s.ev,.slice A n c,.slice A1 n1 c1,.slice A2 n2 c2] 28)=y:=⟨_,rfl⟩
 have b0:Below w.heap.size w x:=hx▸bA
 have sx:x.heap.size=w.heap.size+1:=by rw[← hx,World.size_alloc]
 have b1:Below x.heap.size x y:=hy▸bA
 have k0:y.heap[w.heap.size]?=some (.cells #[.slice A3 n3 c3,.int .i64 k] 24 (0,0)):=(b1.block _ (by rw[sx];omega)).trans (hx▸heap_alloc_new w _)
 have hbx:Box y (w.heap.size+1) s.lv s.ev A n c A1 n1 c1 A2 n2 c2:=by rw[← sx, ← hy];exact Box.new x s.lv s.ev A n c A1 n1 c1 A2 n2 c2
 have hb:Below w.heap.size w y:=b0.trans (b1.mono b0.size)
 have s0:=(Za (i:=0) k0).trans rfl
 have s1:=(Za (i:=1) k0).trans rfl
 have HB:=Hd hb
 have HBX:=Hd hbx
 have HS0:=Hd s0
 have HS1:=Hd s1
 have z0:=hbx.z0
 have z1:=hbx.z1
 have z2:=hbx.z2
 have z3:=hbx.z3
 have z4:=hbx.z4
 clear hbx
 clear b0 b1 sx k0 hb h hr hrf s1 okS okX
 subst hx
 unfold schV at HGC
 unfold schV zV
 unfold zV at HPC HDC
 go_enter Tryz.func3,Tryz.ntmps3
 go_wp2_with fail
 clear hy
 refine(HGC.out _).mono ?_
 rintro e w1 ⟨⟨gr,rfl,hgr⟩,hv⟩
 have HGR:=Hd hgr
 have HV1:=Hd hv
 replace s0:=Zc s0 hv
 clear hv hgr HGC
 clear z0 z1 z2 z3 z4
 cases gr with
 |true=>
  have HBZ:=Hd (HB.out.trans (HV1.out.mono HB.out.size))
  go_wp2_with fail
  refine(QH _).mono ?_
  rintro e wz ⟨rfl,hv⟩
  have HZ:=Hd (HBZ.out.trans (hv.mono HBZ.out.size))
  clear hv
  go_wp2_with fail
  go_ret
  exact⟨rfl,HZ.out⟩
 |false=>
 by_cases hbig:100 < n3
 ·have hbig':(100:Int) < (n3:Int):=by omega
  clear hbig
  have HBZ:=Hd (HB.out.trans (HV1.out.mono HB.out.size))
  go_wp2_with fail
  refine(QH _).mono ?_
  rintro e wz ⟨rfl,hv⟩
  have HZ:=Hd (HBZ.out.trans (hv.mono HBZ.out.size))
  clear hv
  go_wp2_with fail
  go_ret
  exact⟨rfl,HZ.out⟩
 have hbig': ¬(100:Int) < (n3:Int):=by omega
 have s1:=Zc HS1.out HV1.out
 have HCP:=Hd (HPC.out w1 (HB.out.trans (HV1.out.mono HB.out.size)))
 have HN:Hid (n≤60∧n1+n2≤80):=Hd ⟨(HGR.out rfl).1,(HGR.out rfl).2 HSUM.out⟩
 clear hbig HPC HGR HSUM
 go_wp2_with fail
 refine HCP.out.mono ?_
 rintro e w2 ⟨a,b,rfl,hbo,hv⟩
 have HV2:=Hd (HV1.out.trans (hv.mono HV1.out.size))
 have HBO2:=Hd hbo
 clear s0 s1
 have s0:=Zc HS0.out HV2.out
 have s1:=Zc HS1.out HV2.out
 have HCD:=Hd (HDC.out w2 (HB.out.trans (HV2.out.mono HB.out.size)))
 clear hv hbo hbig' HCP HDC HV1
 go_wp2_with fail
 refine HCD.out.mono ?_
 rintro e w3 ⟨t1,B1,m1,d1,e1,t2,B2,m2,d2,e2,rfl,hr1,hr2,hv⟩
 have HV3:=Hd (HV2.out.trans (hv.mono HV2.out.size))
 have hal:=UF w3 (.cells #[.int .i64 (t1:Int),.slice B1 m1 d1,.int .i64 (e1:Int)] 36) (.cells #[.int .i64 (t2:Int),.slice B2 m2 d2,.int .i64 (e2:Int)] 36)
 have hk:=ZgX w3 t1 B1 m1 d1 e1 t2 B2 m2 d2 e2
 obtain⟨wa,hwa⟩: ∃wa,(w3.alloc (.cells #[.int .i64 (t1:Int),.slice B1 m1 d1,.int .i64 (e1:Int)] 36)).alloc (.cells #[.int .i64 (t2:Int),.slice B2 m2 d2,.int .i64 (e2:Int)] 36)=wa:=⟨_,rfl⟩
 rw[hwa] at hal hk
 have HVA:=Hd (HV3.out.trans (hal.mono HV3.out.size))
 have HBA:=Hd (HB.out.trans (HVA.out.mono HB.out.size))
 have HBOA:=Hd ((HBO2.out.keep hv).keep hal)
 have HRA1:=Hd ((hr1.mono hv.size).keep hal)
 have HRA2:=Hd ((hr2.mono hv.size).keep hal)
 have HKA:=Hd hk
 have HCT:=Hd (ZcF s A n c A1 n1 c1 A2 n2 c2 wa (HSA.out wa HBA.out) (by have:=HN.out;omega) (by have:=HN.out;omega) (by have:=HN.out;omega))
 have hbx:=HBX.out.keep HVA.out
 have z0:=hbx.z0
 have z1:=hbx.z1
 have z2:=hbx.z2
 have z3:=hbx.z3
 have z4:=hbx.z4
 clear hbx
 unfold schV at HCT
 simp only[Bo.rsV]
 clear s0 s1 hv hr1 hr2 hal hk HCD HV2 HV3 HBO2
 go_wp2_with fail
 clear hwa
 refine HCT.out.mono ?_
 rintro e w5 ⟨g1,g2,g3,rfl,ht,hv⟩
 clear HCT
 clear z0 z1 z2 z3 z4
 have hbt:=Box.new w5 s.lv s.ev (some ⟨g1,0,none⟩) n (n+1) (some ⟨g2,0,none⟩) n1 (n1+1) (some ⟨g3,0,none⟩) n2 (n2+1)
 have hal:Below w5.heap.size w5 (w5.alloc (.cells #[.int .i64 s.lv,.int .i64 s.ev,.slice (some ⟨g1,0,none⟩) n (n+1),.slice (some ⟨g2,0,none⟩) n1 (n1+1),.slice (some ⟨g3,0,none⟩) n2 (n2+1)] 28)):=bA
 obtain⟨wb,hwb⟩: ∃wb,w5.alloc (.cells #[.int .i64 s.lv,.int .i64 s.ev,.slice (some ⟨g1,0,none⟩) n (n+1),.slice (some ⟨g2,0,none⟩) n1 (n1+1),.slice (some ⟨g3,0,none⟩) n2 (n2+1)] 28)=wb:=⟨_,rfl⟩
 rw[hwb] at hbt hal
 have hv5:=hv.trans (hal.mono hv.size)
 have HVB:=Hd (HVA.out.trans (hv5.mono HVA.out.size))
 have HBB:=Hd (HB.out.trans (HVB.out.mono HB.out.size))
 have HBOB:=Hd (HBOA.out.keep hv5)
 have HRB1:=Hd (HRA1.out.keep hv5)
 have HRB2:=Hd (HRA2.out.keep hv5)
 have HKB:Hid (RBox wb w3.heap.size t1 B1 m1 d1 e1∧RBox wb (w3.heap.size+1) t2 B2 m2 d2 e2):=Hd ⟨HKA.out.1.keep hv5,HKA.out.2.keep hv5⟩
 have HT:=Hd (ht.keep hal)
 have HSB:=HSA.out wb HBB.out
 have HTO:=Hd (And.intro (Nat.le_trans HBA.out.size ht.t1.old) (And.intro (Nat.le_trans HBA.out.size ht.t2.old) (Nat.le_trans HBA.out.size ht.t3.old)))
 have HCO:=Hd (Qd s (some ⟨g1,0,none⟩) n (n+1) (some ⟨g2,0,none⟩) n1 (n1+1) (some ⟨g3,0,none⟩) n2 (n2+1) a b S X wb (HT.out.at HSB.bf HSB.bt HSB.lf HSB.ef) HBOB.out HOS.out HOX.out)
 have HBT:=Hd hbt
 have y0:=hbt.z0
 have y1:=hbt.z1
 have y2:=hbt.z2
 have y3:=hbt.z3
 have y4:=hbt.z4
 unfold schV at HCO
 clear hbt hal hv hv5 ht HSB HVA HBA HBOA HRA1 HRA2 HKA
 go_wp2_with fail
 clear hwb y0 y1 y2 y3 y4
 refine HCO.out.mono ?_
 rintro e w6 ⟨xr,p,q,rfl,hof,hv,hlie⟩
 obtain⟨r,r',hH⟩:=of_held hof hlie
 obtain⟨P1,p1,a1,P2,p2,a2,P3,p3,a3,P4,p4,a4⟩:=p
 obtain⟨J1,q1,b1,J2,q2,b2,J3,q3,b3,J4,q4,b4⟩:=q
 simp only[Q4.v,senV]
 have h8:=B8.new w6 P1 p1 a1 P2 p2 a2 P3 p3 a3 P4 p4 a4 J1 q1 b1 J2 q2 b2 J3 q3 b3 J4 q4 b4
 have hal:=UF w6 (.cells #[.slice P1 p1 a1,.slice P2 p2 a2,.slice P3 p3 a3,.slice P4 p4 a4] 43) (.cells #[.slice J1 q1 b1,.slice J2 q2 b2,.slice J3 q3 b3,.slice J4 q4 b4] 43)
 obtain⟨wc,hwc⟩: ∃wc,(w6.alloc (.cells #[.slice P1 p1 a1,.slice P2 p2 a2,.slice P3 p3 a3,.slice P4 p4 a4] 43)).alloc (.cells #[.slice J1 q1 b1,.slice J2 q2 b2,.slice J3 q3 b3,.slice J4 q4 b4] 43)=wc:=⟨_,rfl⟩
 rw[hwc] at h8 hal
 have hv6:=hv.trans (hal.mono hv.size)
 have HVC:=Hd (HVB.out.trans (hv6.mono HVB.out.size))
 have HBC:=Hd (HB.out.trans (HVC.out.mono HB.out.size))
 have HTC:=Hd (HT.out.keep hv6)
 have HBTC:=Hd (HBT.out.keep hv6)
 have HOF:=Hd hof
 have HVW:=Hd hal
 have HHC:=Hd ((hH.keep hal).since HBB.out.size)
 have H8:=Hd h8
 have HCD:=Hd (Zey s A n c A1 n1 c1 A2 n2 c2 t1 B1 m1 d1 e1 t2 B2 m2 d2 e2 S X wc (HSA.out wc HBC.out) (HRB1.out.keep hv6) (HRB2.out.keep hv6) HOS.out HOX.out)
 have hbx:=HBX.out.keep HVC.out
 have z0:=hbx.z0
 have z1:=hbx.z1
 have z2:=hbx.z2
 have z3:=hbx.z3
 have z4:=hbx.z4
 clear hbx
 have f0:=(HKB.out.1.keep hv6).s0
 have f1:=(HKB.out.1.keep hv6).s1
 have f2:=(HKB.out.1.keep hv6).s2
 have f3:=(HKB.out.2.keep hv6).s0
 have f4:=(HKB.out.2.keep hv6).s1
 have f5:=(HKB.out.2.keep hv6).s2
 unfold schV Bo.rsV at HCD
 clear h8 hal hv hv6 hof hlie hH HCO HT HBT HVB HBB HBOB HRB1 HRB2 HKB
 go_wp2_with fail
 clear hwc f0 f1 f2 f3 f4 f5
 clear z0 z1 z2 z3 z4
 refine HCD.out.mono ?_
 rintro e w7 ⟨xr',p',q',rfl,hof,hv⟩
 obtain⟨hxr,z1,z2,hz1,hz2,hz3,hz4⟩:=of_same HOF.out hof
 subst hxr
 obtain⟨X1,i1,u1,X2,i2,u2,X3,i3,u3,X4,i4,u4⟩:=p'
 obtain⟨Y1,j1,v1,Y2,j2,v2,Y3,j3,v3,Y4,j4,v4⟩:=q'
 simp only[Q4.v,senV]
 have h8:=B8.new w7 X1 i1 u1 X2 i2 u2 X3 i3 u3 X4 i4 u4 Y1 j1 v1 Y2 j2 v2 Y3 j3 v3 Y4 j4 v4
 have hal:=UF w7 (.cells #[.slice X1 i1 u1,.slice X2 i2 u2,.slice X3 i3 u3,.slice X4 i4 u4] 43) (.cells #[.slice Y1 j1 v1,.slice Y2 j2 v2,.slice Y3 j3 v3,.slice Y4 j4 v4] 43)
 obtain⟨wd,hwd⟩: ∃wd,(w7.alloc (.cells #[.slice X1 i1 u1,.slice X2 i2 u2,.slice X3 i3 u3,.slice X4 i4 u4] 43)).alloc (.cells #[.slice Y1 j1 v1,.slice Y2 j2 v2,.slice Y3 j3 v3,.slice Y4 j4 v4] 43)=wd:=⟨_,rfl⟩
 rw[hwd] at h8 hal
 have hv7:=hv.trans (hal.mono hv.size)
 have HVD:=Hd (HVC.out.trans (hv7.mono HVC.out.size))
 have HBD:=Hd (HB.out.trans (HVD.out.mono HB.out.size))
 have HTD:=Hd (HTC.out.keep hv7)
 have HBTD:=Hd (HBTC.out.keep hv7)
 have HHD:=Hd (HHC.out.keep hv7)
 have H8D:=Hd (H8.out.keep hv7)
 have H9D:=Hd h8
 have HZ1:=Hd ((hz1.keep HVW.out).keep hv7)
 have HZ2:=Hd ((hz2.keep HVW.out).keep hv7)
 have HZ3:=Hd (hz3.keep hal)
 have HZ4:=Hd (hz4.keep hal)
 clear h8 hv hv7 hof HOF HVW hz1 hz2 hz3 hz4 HCD HVC HBC HTC HBTC HHC H8
 have hk0:=book0 wd
 have K0:Kept (fun b=>wd.heap.size≤b) wd (wd.alloc (.cells (Zz 0 (.slice none 0 0) (.slice none 0 0) (.slice none 0 0) (.slice none 0 0) (.slice none 0 0) (.slice none 0 0)) 64)):=(Kept.refl _ _).alloc _
 unfold Zz at hk0 K0
 obtain⟨wk,hwk⟩: ∃wk,wd.alloc (.cells #[.int .i64 0,.slice none 0 0,.slice none 0 0,.slice none 0 0,.slice none 0 0,.slice none 0 0,.slice none 0 0,.slice none 0 0,.slice none 0 0,.slice none 0 0,.slice none 0 0,.slice none 0 0,.slice none 0 0,.slice none 0 0,.slice none 0 0,.slice none 0 0] 64)=wk:=⟨_,rfl⟩
 rw[hwk] at hk0 K0
 have hbk:=HBTD.out.keep (K0.below lR fun _ h=>h)
 have y0:=hbk.z0
 have y1:=hbk.z1
 have y2:=hbk.z2
 have y3:=hbk.z3
 have y4:=hbk.z4
 have HK0:=Hd K0
 have HCS:=Hd (ZdU wd.heap.size 0 _ 0 [] _ 0 [] _ 0 [] _ 0 [] _ 0 [] _ 0 [] s (some ⟨g1,0,none⟩) n (n+1) (some ⟨g2,0,none⟩) n1 (n1+1) (some ⟨g3,0,none⟩) n2 (n2+1) wk hk0 (by omega) (by omega) (by omega))
 unfold schV at HCS
 clear hbk K0 hk0 hal
 go_wp2_with fail
 clear hwk hwd y0 y1 y2 y3 y4
 refine HCS.out.mono ?_
 rintro e x1 ⟨rfl,uN,uB,K1,k1⟩
 have HK1:=Hd (HK0.out.trans k1)
 have HBK1:=Hd K1
 have h8:=H8D.out.keep (HK1.out.below lR fun _ h=>h)
 have p0:=h8.p0
 have p1':=h8.p1
 have p2':=h8.p2
 have p3':=h8.p3
 clear K1 k1 HCS HK0 h8
 obtain⟨l0,l1,l2,l3,l4,oa,ob⟩:=HHD.out.two
 have HCA:=Hd (Rh wd.heap.size (0+1+1+1) r _ _ _ _ _ _ _ _ _ _ _ _ _ _ _ _ _ _ P1 p1 a1 P2 p2 a2 P3 p3 a3 P4 p4 a4 wd x1 rfl oa.rows HK1.out HBK1.out oa.n (by omega) (by omega) (by omega) (by omega) (by omega))
 have HNQ:=Hd (And.intro oa.n ob.n)
 have HRQ:=Hd ob.rows
 clear oa ob l3 l4
 unfold senV at HCA
 go_wp2_with fail
 clear p0 p1' p2' p3'
 refine HCA.out.mono ?_
 rintro e x2 ⟨rfl,uS,uM,uO,uL,K2,hnil2,k2⟩
 have HK2:=Hd (HK1.out.trans k2)
 have HBK2:=Hd K2
 have HNIL2:=Hd hnil2
 have h8:=H8D.out.keep (HK2.out.below lR fun _ h=>h)
 have q0:=h8.q0
 have q1':=h8.q1
 have q2':=h8.q2
 have q3':=h8.q3
 have HCB:=Hd (Rh wd.heap.size (0+1+1+1+1+1+1+p4+1) r' _ _ _ _ _ _ _ _ _ _ _ _ _ _ _ _ _ _ J1 q1 b1 J2 q2 b2 J3 q3 b3 J4 q4 b4 wd x2 rfl HRQ.out HK2.out HBK2.out HNQ.out.2 (by have:=HNQ.out;omega) (by omega) (by omega) (by have:=HNQ.out;omega) (by omega))
 unfold senV at HCB
 clear K2 k2 hnil2 h8 HCA HK1 HBK1
 go_wp2_with fail
 clear q0 q1' q2' q3'
 refine HCB.out.mono ?_
 rintro e x3 ⟨rfl,uS2,uM2,uO2,uL2,K3,hnil3,k3⟩
 have HK3:=Hd (HK2.out.trans k3)
 have HBK3:=Hd K3
 have HNIL3:=Hd hnil3
 have HX3:=Hd (HK3.out.below lR fun _ h=>h)
 have hxx:(xr==xr)=true:=by simp
 have h8:=H8D.out.keep HX3.out
 have h9:=H9D.out.keep HX3.out
 have p0:=h8.p0
 have p1':=h8.p1
 have p2':=h8.p2
 have p3':=h8.p3
 have x0:=h9.p0
 have x1':=h9.p1
 have x2':=h9.p2
 have x3':=h9.p3
 have HC1:=Hd (Ye z1 ⟨P1,p1,a1,P2,p2,a2,P3,p3,a3,P4,p4,a4⟩ ⟨X1,i1,u1,X2,i2,u2,X3,i3,u3,X4,i4,u4⟩ x3 (HZ1.out.keep HX3.out) (HZ3.out.keep HX3.out))
 simp only[Q4.v,senV] at HC1
 clear K3 k3 hnil3 h8 h9 HCB HK2 HBK2
 go_wp2_with fail
 clear p0 p1' p2' p3' x0 x1' x2' x3'
 refine HC1.out.mono ?_
 rintro e x4 ⟨rfl,hv⟩
 have HX4:=Hd (HX3.out.trans (hv.mono HX3.out.size))
 have HK4:=Hd hv
 have h8:=H8D.out.keep HX4.out
 have h9:=H9D.out.keep HX4.out
 have q0:=h8.q0
 have q1':=h8.q1
 have q2':=h8.q2
 have q3':=h8.q3
 have y0:=h9.q0
 have y1':=h9.q1
 have y2':=h9.q2
 have y3':=h9.q3
 have HC2:=Hd (Ye z2 ⟨J1,q1,b1,J2,q2,b2,J3,q3,b3,J4,q4,b4⟩ ⟨Y1,j1,v1,Y2,j2,v2,Y3,j3,v3,Y4,j4,v4⟩ x4 (HZ2.out.keep HX4.out) (HZ4.out.keep HX4.out))
 simp only[Q4.v,senV] at HC2
 clear hv h8 h9 HC1
 go_wp2_with fail
 clear q0 q1' q2' q3' y0 y1' y2' y3'
 refine HC2.out.mono ?_
 rintro e x5 ⟨rfl,hv⟩
 have HX5:=Hd (HX4.out.trans (hv.mono HX4.out.size))
 have HK5:=Hd (HK4.out.trans (hv.mono HK4.out.size))
 have hbt:=HBTD.out.keep HX5.out
 have hbx:=HBX.out.keep (HVD.out.trans (HX5.out.mono HVD.out.size))
 have y0:=hbt.z0
 have y1':=hbt.z1
 have y2':=hbt.z2
 have y3':=hbt.z3
 have y4:=hbt.z4
 have z0:=hbx.z0
 have c1z:=hbx.z1
 have c2z:=hbx.z2
 have z3:=hbx.z3
 have z4:=hbx.z4
 clear hbx
 have HC3:=Hd (ZcG _ g1 g2 g3 s A n c A1 n1 c1 A2 n2 c2 x5 (HTD.out.keep HX5.out) (HSA.out x5 (HBD.out.trans (HX5.out.mono HBD.out.size))))
 unfold schV at HC3
 clear hv hbt HC2 HX4 HK4
 go_wp2_with fail
 clear y0 y1' y2' y3' y4 z0 c1z c2z z3 z4
 refine HC3.out.mono ?_
 rintro e x6 ⟨rfl,hv⟩
 have HX6:=Hd (HX5.out.trans (hv.mono HX5.out.size))
 have HK6:=Hd (HK5.out.trans (hv.mono HK5.out.size))
 have HBK6:=Hd (ZdP HBK3.out HK6.out)
 have hfar: ∀b,b < wd.heap.size→ ¬False:=fun _ _=>id
 have hKF:Kept (fun _=>False) wd x6:=Kept.of_below HX6.out
 have HCA:=Hd (ZgW w.heap.size wd.heap.size g1 g2 g3 n n1 n2 r r' ⟨P1,p1,a1,P2,p2,a2,P3,p3,a3,P4,p4,a4⟩ ⟨J1,q1,b1,J2,q2,b2,J3,q3,b3,J4,q4,b4⟩ _ _ _ _ _ _ x6 HBK6.out
  (fun e=>by
   have e1:p4=0:=by
    have e:p4+q4=0:=e
    omega
   have e2:q4=0:=by
    have e:p4+q4=0:=e
    omega
   exact(HNIL3.out e2).trans (HNIL2.out e1))
  ((Zcd HTD.out.t1).keep hKF hfar) ((Q8 HTD.out.t2).keep hKF hfar) ((Q8 HTD.out.t3).keep hKF hfar) HTD.out.ne (HHD.out.keep HX6.out) HTO.out.1 HTO.out.2.1 HTO.out.2.2 HBD.out.size)
 clear hv HC3 HX5 HK5 hfar hKF
 go_wp2_with fail
 refine HCA.out.mono ?_
 rintro e x7 ⟨rfl,hv⟩
 have HE:=Hd ((HBD.out.trans (HX6.out.mono HBD.out.size)).trans hv)
 clear hv HCA
 go_wp2_with fail
 refine(QH _).mono ?_
 rintro e x8 ⟨rfl,hv⟩
 have HF:=Hd (HE.out.trans (hv.mono HE.out.size))
 clear hv
 go_wp2_with fail
 go_ret
 exact⟨rfl,HF.out⟩
end Go.Proofs.YtfmpecnkkbpdlaaGreatDoor
