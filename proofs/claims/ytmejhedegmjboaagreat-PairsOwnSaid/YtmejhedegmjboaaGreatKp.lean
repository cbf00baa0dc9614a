/- SaA; RwI; Liv: merged. -/
/- RowsKeep is true: where fixed spots' terms are constants, the scheme has the same senses. Condition: none but those of the statement. -/
import Derived.Deep.QuietTactic
import Derived.BigQuiet
import Derived.Test.YtmejhedegmjboaaGreatCame
import Derived.Test.YtmejhedegmjboaaGreatOfs
import Derived.Test.YtmejhedegmjboaaGreatRwK
import Derived.Test.YtmejhedegmjboaaGreatRwO
namespace Go.Proofs.YtmejhedegmjboaaGreat
open Go.RowKit
def LfB (n:Nat)(w:World)(i5:Value)(wr:World):Prop:= ∃k:Nat,i5= .int .i64 (k:Int)∧k≤n∧Below w.heap.size w wr
set_option maxRecDepth 100000 in
set_option maxHeartbeats 1000000 in
theorem sameNums_any (A A2:Option Addr)(n c c2 B B2:Nat)(l:List Nat)(w:World)(h:Rd La.nm w B A n c l)(h2:Rd La.nm w B2 A2 n c2 l):
  Calls Tryz.prog 52 #[.slice A n c,.slice A2 n c2] w fun e w'=>e= .returned (.bool true)∧Below w.heap.size w w':=by
 have HL:=Lib.hid h.len
 have HT:=Lib.hid h
 have HR:=Lib.hid h2
 have hn2:((n:Int) !=(n:Int))=false:=by simp
 have htop:=h.top
 have hcap:=h.cap
 unfold maxLen at htop
 clear h h2
 go_enter Tryz.func52,Tryz.ntmps52
 go_wp2
 go_loopw [5] (fun i5 wr=>LfRel n w i5 wr) (fun i5 _=>n - (intOf i5).toNat)
 case atStart=>exact⟨0,0,rfl,by omega,rfl⟩
 case round=>
  obtain⟨k,q,rfl,hk,rfl⟩:=hrel
  by_cases hlt:k < n
  ·have hk':k < l.length:=by rw[HL.out];exact hlt
   obtain⟨b,o,rfl,-,hc⟩:=HR.out.spot (by omega)
   obtain⟨b2,o2,rfl,-,hd⟩:=HT.out.spot (by omega)
   have e1:w.cell? ⟨b,o+k,none⟩=some (.int .u64 (l[k]:Int)):=hc k hk'
   have e2:w.cell? ⟨b2,o2+k,none⟩=some (.int .u64 (l[k]:Int)):=hd k hk'
   clear hc hd
   generalize l[k]=u at*
   (
    go_wp2
    go_quiet (fail)
    go_wp2
    go_roundw
    case rel=>exact⟨k+1,_,by go_num,by omega,rfl⟩
    case measure=>simp[intOf];omega)
  ·obtain rfl:k=n:=by omega
   have hbW:Below w.heap.size w (w.drewN q):=La.below_drewN w q
   go_wp2
   go_ret
   exact⟨rfl,hbW⟩
set_option maxRecDepth 100000 in
set_option maxHeartbeats 1000000 in
theorem sameBools_any (A A2:Option Addr)(n c c2 B B2:Nat)(l:List Bool)(w:World)(h:Rd Value.bool w B A n c l)(h2:Rd Value.bool w B2 A2 n c2 l):
  Calls Tryz.prog 93 #[.slice A n c,.slice A2 n c2] w fun e w'=>e= .returned (.bool true)∧Below w.heap.size w w':=by
 have HL:=Lib.hid h.len
 have HT:=Lib.hid h
 have HR:=Lib.hid h2
 have hn2:((n:Int) !=(n:Int))=false:=by simp
 have htop:=h.top
 have hcap:=h.cap
 unfold maxLen at htop
 clear h h2
 go_enter Tryz.func93,Tryz.ntmps93
 go_wp2
 go_loopw [5] (fun i5 wr=>LfRel n w i5 wr) (fun i5 _=>n - (intOf i5).toNat)
 case atStart=>exact⟨0,0,rfl,by omega,rfl⟩
 case round=>
  obtain⟨k,q,rfl,hk,rfl⟩:=hrel
  by_cases hlt:k < n
  ·have hk':k < l.length:=by rw[HL.out];exact hlt
   obtain⟨b,o,rfl,-,hc⟩:=HR.out.spot (by omega)
   obtain⟨b2,o2,rfl,-,hd⟩:=HT.out.spot (by omega)
   have e1:w.cell? ⟨b,o+k,none⟩=some (.bool l[k]):=hc k hk'
   have e2:w.cell? ⟨b2,o2+k,none⟩=some (.bool l[k]):=hd k hk'
   clear hc hd
   generalize l[k]=u at*
   cases u
   all_goals(
    go_wp2
    go_quiet (fail)
    go_wp2
    go_roundw
    case rel=>exact⟨k+1,_,by go_num,by omega,rfl⟩
    case measure=>simp[intOf];omega)
  ·obtain rfl:k=n:=by omega
   have hbW:Below w.heap.size w (w.drewN q):=La.below_drewN w q
   go_wp2
   go_ret
   exact⟨rfl,hbW⟩
set_option maxRecDepth 100000 in
set_option maxHeartbeats 1000000 in
theorem sameLists_any (A A2:Option Addr)(n c c2:Nat)(l:List (List Bool))(w:World)(h:BRows w w.heap.size A n c l)(h2:BRows w w.heap.size A2 n c2 l):
  Calls Tryz.prog 53 #[.slice A n c,.slice A2 n c2] w fun e w'=>e= .returned (.bool true)∧Below w.heap.size w w':=by
 obtain⟨hs,r1,k1,b1⟩:=h.hd
 obtain⟨gs,r2,k2,b2⟩:=h2.hd
 have HN:=Lib.hid k1
 have HM:=Lib.hid k2
 have HL:=Lib.hid r1.len
 have HT:=Lib.hid r1
 have HR:=Lib.hid r2
 have HB1:=Lib.hid b1
 have HB2:=Lib.hid b2
 have hn2:((n:Int) !=(n:Int))=false:=by simp
 have htop:=r1.top
 have hcap:=r1.cap
 unfold maxLen at htop
 clear h h2 r1 r2 b1 b2 k1 k2
 go_enter Tryz.func53,Tryz.ntmps53
 go_wp2
 go_loopw [5] (fun i5 wr=>LfB n w i5 wr) (fun i5 _=>n - (intOf i5).toNat)
 case atStart=>exact⟨0,rfl,by omega,Below.refl _ _⟩
 case round=>
  obtain⟨k,rfl,hk,hb⟩:=hrel
  by_cases hlt:k < n
  ·have hk1:k < hs.length:=by rw[HL.out];exact hlt
   have hk2:k < l.length:=by rw[← HN.out];exact hk1
   have hk3:k < gs.length:=by rw[HM.out];exact hk2
   obtain⟨b,o,rfl,-,hc⟩:=HT.out.spot (by omega)
   obtain⟨b2,o2,rfl,-,hd⟩:=HR.out.spot (by omega)
   have e1:w.cell? ⟨b,o+k,none⟩=some (slc hs[k]):=hc k hk1
   have e2:w.cell? ⟨b2,o2+k,none⟩=some (slc gs[k]):=hd k hk3
   have d1:=HB1.out k hk1 hk2
   have d2:=HB2.out k hk3 hk2
   obtain⟨⟨X1,x1,y1⟩,hx⟩: ∃p,hs[k]=p:=⟨_,rfl⟩
   obtain⟨⟨X2,x2,y2⟩,hy⟩: ∃p,gs[k]=p:=⟨_,rfl⟩
   rw[hx] at e1 d1
   rw[hy] at e2 d2
   have hxl:x1=l[k].length:=d1.len.symm
   have hyl:x2=l[k].length:=d2.len.symm
   unfold slc at e1 e2
   simp only at e1 e2 d1 d2
   subst hxl
   subst hyl
   have HC:Hid (∀W,Below w.heap.size w W→Calls Tryz.prog 93 #[.slice X1 l[k].length y1,.slice X2 l[k].length y2] W fun e w'=>e= .returned (.bool true)∧Below W.heap.size W w'):=Lib.hid fun W hW=>sameBools_any X1 X2 l[k].length y1 y2 _ _ l[k] W (d1.at_size (Nat.le_refl _) hW) (d2.at_size (Nat.le_refl _) hW)
   have e3:=cell_old e1 hb
   have e4:=cell_old e2 hb
   have HB:=Lib.hid hb
   have HLT:=Lib.hid hlt
   generalize l[k].length=m at*
   clear hc hd d1 d2 hx hy e1 e2 hk1 hk2 hk3 hb
   go_wp2
   refine wp_region_ord [0,1,2,3,4,5,6,7,8,9] [8] 10 (fun w'=>w'.cell? ⟨b,o+k,none⟩=some (.slice X1 m y1)∧w'.cell? ⟨b2,o2+k,none⟩=some (.slice X2 m y2)) (by kernel_rfl) (by kernel_rfl) (by kernel_rfl) (by kernel_rfl) (fun _ _ _ _ _ h=>h) ⟨e3,e4⟩ ?_
   simp only[steps,List.getElem?_cons_zero,List.getElem?_cons_succ]
   repeat(first
    |(refine ord_yes (v:= ?_) rfl rfl ?_ ?_;rotate_left;(focus(rintro w' ⟨c0,c00⟩;go_simp;try with_reducible rfl));simp only[Act.put,List.setIfInBounds_toArray,List.set_cons_zero,List.set_cons_succ]))
   refine ord_hard rfl rfl (fun K hK=> ?_)
   go_simp
   have hdr:=(Below.refl wr.heap.size wr).drew
   have HDR:=Lib.hid hdr
   refine(HC.out wr.drew (HB.out.trans (hdr.mono HB.out.size))).mono ?_
   rintro e w2 ⟨rfl,hb2⟩
   have hv:=HDR.out.trans (hb2.mono HDR.out.size)
   refine hK.out _ _ (fun _=>⟨cell_old e3 hv,cell_old e4 hv⟩) ?_
   clear hK K
   have HB2:=Lib.hid (HB.out.trans (hv.mono HB.out.size))
   clear e3 e4 hdr hb2 hv HC HB HDR
   repeat(first
    |(refine ord_yes (v:= ?_) rfl rfl ?_ ?_;rotate_left;(focus(rintro w' ⟨c0,c00⟩;go_simp;try with_reducible rfl));simp only[Act.put,List.setIfInBounds_toArray,List.set_cons_zero,List.set_cons_succ]))
   refine ord_end ?_
   go_wp2
   go_roundw
   case rel=>exact⟨k+1,by go_num,HLT.out,HB2.out⟩
   case measure=>
    have:=HLT.out
    simp[intOf]
    omega
  ·obtain rfl:k=n:=by omega
   have HB:=Lib.hid hb
   go_wp2
   go_ret
   exact⟨rfl,HB.out⟩
end Go.Proofs.YtmejhedegmjboaaGreat
namespace Go.Proofs.YtmejhedegmjboaaGreat
open Go.RowKit
end Go.Proofs.YtmejhedegmjboaaGreat
namespace Go.Proofs.YtmejhedegmjboaaGreat
open Go.RowKit
def nI (v:Bool)(x:Nat):Nd:=⟨1,0,[105,110,116],0,v,(x:Int),false,0,false,0⟩
theorem fits_I (v:Bool)(x:Nat):(nI v x).Fits:=⟨fits_int.k0,fits_int.k1,fits_int.m0,fits_int.m1,fits_int.n0,fits_int.n1,fits_int.s1⟩
theorem tfits_I {v:Bool}{x:Nat}(h:x < 18446744073709551616):(nI v x).TFits:=⟨⟨by simp[nI],by simp[nI];omega⟩,⟨by simp[nI],by simp[nI]⟩,⟨by simp[nI],by simp[nI]⟩⟩
theorem tfits_F:nFun.TFits:=⟨⟨by simp[nFun],by simp[nFun]⟩,⟨by simp[nFun],by simp[nFun]⟩,⟨by simp[nFun],by simp[nFun]⟩⟩
def sE2:Sch:=⟨1,0,[nFun,nI true 0,nI true 0],[],[]⟩
abbrev lS:Bo.Sr:=laOf [3,2]
abbrev xS:Bo.Sr:=efOf 1
def z2:Sen:=senS lS [0] [1] (rcB 1 []) (labB sE2.b)
theorem ex_c2:sE2.check lS xS=0:=by decide+kernel
theorem ex_bot:lS.bot=0:=by decide+kernel
theorem ex_top:lS.top=1:=by decide+kernel
theorem ex_has:lS.has 0=true:=by decide+kernel
theorem low_nil {S:Bo.Sr}(hS:S.Ok){v:List Nat}(h:Bo.IsLow S 1 [] v)(hb:S.has S.bot=true):v= [S.bot]:=
 Bo.low_uniq hS h ⟨Bo.Under.start hS fun _=>hb,fun b hb=>by cases hb⟩
theorem of_ex {s:Sch}{w:World}{x:Int}{p q:Q4}(h:OfIs lS xS s w x p q)(hc:s.check lS xS=0)(h1:s.lv=1)(h2:s.ev=0)(hl:s.l= [])(he:s.e= []):x=0∧SenIn w (senS lS [0] [1] (rcB 1 []) (labB s.b)) p:=by
 rcases h with⟨hx,-,-,h|⟨-,-,h⟩⟩|⟨hx,ql,qe,lo,hi,lo',hi',hok,hp,-⟩
 ·exact absurd (h.symm.trans hc) hx
 ·exfalso
  rcases h with⟨k,e,hn⟩|⟨k,e,hn⟩
  ·have hk:k=1:=by omega
   subst hk
   have:=hn [0] ⟨rfl,fun i hi=>by
    obtain rfl:i=0:=by omega
    exact ex_has⟩
   rw[hl] at this
   cases this
  ·have hk:k=0:=by omega
   subst hk
   have:=hn [] ⟨rfl,fun i hi=>absurd hi (Nat.not_lt_zero i)⟩
   rw[he] at this
   cases this
 ·obtain rfl:ql=1:=by have:=hok.lv;omega
  have hS:=laOf_ok [3,2]
  have g1:=hok.gl.low
  have g2:=hok.gl.high
  rw[hl] at g1 g2
  have hbb:lS.has lS.bot=true:=by rw[ex_bot];exact ex_has
  have e1:=low_nil hS g1 hbb
  have e2:=low_nil hS.turn g2 (hS.sub _ _ (hS.topl _ ex_has)).2
  rw[ex_bot] at e1
  replace e2:hi= [lS.top]:=e2
  rw[ex_top] at e2
  rw[e1,e2,hl] at hp
  exact⟨hx,hp⟩
set_option maxRecDepth 100000 in
theorem chain_any (w:World):Calls Tryz.prog 24 #[] w fun e w'=> ∃g,e= .returned (zV (some ⟨g,0,none⟩) 2 2 1)∧Rd La.nm w' w'.heap.size (some ⟨g,0,none⟩) 2 2 [3,2]∧Below w.heap.size w w':=by
 obtain⟨x,hx⟩: ∃x,w.alloc (.cells #[.slice none 0 0,.int .i64 0] 24)=x:=⟨_,rfl⟩
 have b0:Below w.heap.size w x:=hx▸(Below.refl _ _).alloc (Nat.le_refl _) _
 have sx:x.heap.size=w.heap.size+1:=by rw[← hx,World.size_alloc]
 have k0:x.heap[w.heap.size]?=some (.cells #[.slice none 0 0,.int .i64 0] 24 (0,0)):=hx▸heap_alloc_new w _
 obtain⟨y,hy⟩: ∃y,x.alloc (.cells #[.int .u64 3,.int .u64 2] 60)=y:=⟨_,rfl⟩
 have b1:Below x.heap.size x y:=hy▸(Below.refl _ _).alloc (Nat.le_refl _) _
 have k1:y.heap[w.heap.size]?=some (.cells #[.slice none 0 0,.int .i64 0] 24 (0,0)):=(b1.block _ (by rw[sx];omega)).trans k0
 have k2:y.heap[x.heap.size]?=some (.cells #[.int .u64 3,.int .u64 2] 60 (0,0)):=hy▸heap_alloc_new x _
 have p0:=(cell_blk (i:=0) k1).trans rfl
 have p1:=(cell_blk (i:=1) k1).trans rfl
 have f0:y.frozen? ⟨w.heap.size,0,none⟩=false:=frozen_blk k1
 have f1:y.frozen? ⟨w.heap.size,1,none⟩=false:=frozen_blk k1
 have HK1:=Lib.hid k1
 have HK2:=Lib.hid k2
 have HB:=Lib.hid (b0.trans (b1.mono b0.size))
 have HSX:=Lib.hid sx
 clear b0 b1 k0 k1 k2 sx
 go_enter Tryz.func24,Tryz.ntmps24
 go_wp2_with fail
 clear hx hy
 refine bodyPost_ret (v:=zV (some ⟨x.heap.size,0,none⟩) 2 2 1) ?_ rfl ⟨x.heap.size,rfl,?_,?_⟩
 ·exact results_cell_row (P:=Tryz.prog) rfl _ _ w.heap.size 24 _ (0,0) _ rfl (set_blk (set_blk HK1.out _) _) Tryz.underlying24 rfl rfl
 ·have hne:x.heap.size≠w.heap.size:=by have:=HSX.out;omega
  have k2:((y.setCell ⟨w.heap.size,0,none⟩ (.slice (some ⟨x.heap.size,0,none⟩) 2 2)).setCell ⟨w.heap.size,1,none⟩ (.int .i64 1)).heap[x.heap.size]?=some (.cells #[.int .u64 3,.int .u64 2] 60 (0,0)):=(Below.heap_setCell _ _ _ _ hne).trans ((Below.heap_setCell _ _ _ _ hne).trans HK2.out)
  exact La.rd_blk (l:= [3,2]) k2 rfl (by decide)
 ·exact below_set (below_set HB.out (Nat.le_refl _) _) (Nat.le_refl _) _
structure B8 (w:World)(g:Nat)(A1:Option Addr)(n1 c1:Nat)(A2:Option Addr)(n2 c2:Nat)(A3:Option Addr)(n3 c3:Nat)(A4:Option Addr)(n4 c4:Nat)(B1:Option Addr)(m1 d1:Nat)(B2:Option Addr)(m2 d2:Nat)(B3:Option Addr)(m3 d3:Nat)(B4:Option Addr)(m4 d4:Nat):Prop where
 p0:w.cell? ⟨g,0,none⟩=some (.slice A1 n1 c1)
 p1:w.cell? ⟨g,1,none⟩=some (.slice A2 n2 c2)
 p2:w.cell? ⟨g,2,none⟩=some (.slice A3 n3 c3)
 p3:w.cell? ⟨g,3,none⟩=some (.slice A4 n4 c4)
 q0:w.cell? ⟨g+1,0,none⟩=some (.slice B1 m1 d1)
 q1:w.cell? ⟨g+1,1,none⟩=some (.slice B2 m2 d2)
 q2:w.cell? ⟨g+1,2,none⟩=some (.slice B3 m3 d3)
 q3:w.cell? ⟨g+1,3,none⟩=some (.slice B4 m4 d4)
theorem B8.keep {w W:World}{g:Nat}{A1:Option Addr}{n1 c1:Nat}{A2:Option Addr}{n2 c2:Nat}{A3:Option Addr}{n3 c3:Nat}{A4:Option Addr}{n4 c4:Nat}{B1:Option Addr}{m1 d1:Nat}{B2:Option Addr}{m2 d2:Nat}{B3:Option Addr}{m3 d3:Nat}{B4:Option Addr}{m4 d4:Nat}(h:B8 w g A1 n1 c1 A2 n2 c2 A3 n3 c3 A4 n4 c4 B1 m1 d1 B2 m2 d2 B3 m3 d3 B4 m4 d4)(hb:Below w.heap.size w W):B8 W g A1 n1 c1 A2 n2 c2 A3 n3 c3 A4 n4 c4 B1 m1 d1 B2 m2 d2 B3 m3 d3 B4 m4 d4:=
 ⟨cell_old h.p0 hb,cell_old h.p1 hb,cell_old h.p2 hb,cell_old h.p3 hb,cell_old h.q0 hb,cell_old h.q1 hb,cell_old h.q2 hb,cell_old h.q3 hb⟩
theorem B8.new (w:World)(A1:Option Addr)(n1 c1:Nat)(A2:Option Addr)(n2 c2:Nat)(A3:Option Addr)(n3 c3:Nat)(A4:Option Addr)(n4 c4:Nat)(B1:Option Addr)(m1 d1:Nat)(B2:Option Addr)(m2 d2:Nat)(B3:Option Addr)(m3 d3:Nat)(B4:Option Addr)(m4 d4:Nat):
  B8 ((w.alloc (.cells #[.slice A1 n1 c1,.slice A2 n2 c2,.slice A3 n3 c3,.slice A4 n4 c4] 28)).alloc (.cells #[.slice B1 m1 d1,.slice B2 m2 d2,.slice B3 m3 d3,.slice B4 m4 d4] 28)) w.heap.size A1 n1 c1 A2 n2 c2 A3 n3 c3 A4 n4 c4 B1 m1 d1 B2 m2 d2 B3 m3 d3 B4 m4 d4:=by
 obtain⟨x,hx⟩: ∃x,w.alloc (.cells #[.slice A1 n1 c1,.slice A2 n2 c2,.slice A3 n3 c3,.slice A4 n4 c4] 28)=x:=⟨_,rfl⟩
 have sx:x.heap.size=w.heap.size+1:=by rw[← hx,World.size_alloc]
 have b1:Below x.heap.size x (x.alloc (.cells #[.slice B1 m1 d1,.slice B2 m2 d2,.slice B3 m3 d3,.slice B4 m4 d4] 28)):=(Below.refl _ _).alloc (Nat.le_refl _) _
 have k0:=(b1.block w.heap.size (by rw[sx];omega)).trans (hx▸heap_alloc_new w (.cells #[.slice A1 n1 c1,.slice A2 n2 c2,.slice A3 n3 c3,.slice A4 n4 c4] 28))
 have k1:=heap_alloc_new x (.cells #[.slice B1 m1 d1,.slice B2 m2 d2,.slice B3 m3 d3,.slice B4 m4 d4] 28)
 rw[sx] at k1
 rw[hx]
 exact⟨(cell_blk (i:=0) k0).trans rfl,(cell_blk (i:=1) k0).trans rfl,(cell_blk (i:=2) k0).trans rfl,(cell_blk (i:=3) k0).trans rfl,(cell_blk (i:=0) k1).trans rfl,(cell_blk (i:=1) k1).trans rfl,(cell_blk (i:=2) k1).trans rfl,(cell_blk (i:=3) k1).trans rfl⟩
theorem two_below (w:World)(o o':Obj):Below w.heap.size w ((w.alloc o).alloc o'):=((Below.refl _ _).alloc (Nat.le_refl _) _).alloc (by simp) _
theorem fits_e2: ∀x∈sE2.b,x.Fits:=fits_cons fits_fun (fits_cons (fits_I _ _) (fits_cons (fits_I _ _) fits_nil))
theorem tfits_e2: ∀x∈sE2.b,x.TFits:=fun x hx=>by
 simp only[sE2,List.mem_cons,List.not_mem_nil,or_false] at hx
 rcases hx with rfl|rfl|rfl
 ·exact tfits_F
 ·exact tfits_I (by decide)
 ·exact tfits_I (by decide)
abbrev oE2:Obj:= .cells #[.int .u8 5,.int .i64 0,.string (str []),.int .i64 2,.bool false,.int .u64 0,.bool false,.int .u64 0,.bool false,.int .u64 0,.int .u8 1,.int .i64 0,.string (str [105,110,116]),.int .i64 0,.bool true,.int .u64 0,.bool false,.int .u64 0,.bool false,.int .u64 0,.int .u8 1,.int .i64 0,.string (str [105,110,116]),.int .i64 0,.bool true,.int .u64 0,.bool false,.int .u64 0,.bool false,.int .u64 0] 116
theorem at_e2 (w:World):SchAt (w.alloc oE2) sE2 (some ⟨w.heap.size,0,none⟩) 3 3 none 0 0 none 0 0:=
 ⟨Rs.of_own ndc_len (by decide) (own_of_blk (l:= [nFun,nI true 0,nI true 0]) (n:=3) (heap_alloc_new w oE2) (Nat.zero_le _) rfl rfl (by unfold maxLen;omega)),fits_e2,tfits_e2,Rs.nil _ _,(fun _ h=>by cases h),Rs.nil _ _,fun _ h=>by cases h⟩
def lookC (z:I.Sen)(i j:Nat):Bool:=decide (I.sd z i=I.sd z j) &&
 ((decide (I.sd z i=1)||(decide (I.lw z i=I.lw z j) && (List.range z.p.length).all fun k=>I.bb z k i==I.bb z k j)) &&
  (decide (I.sd z i=0)||(decide (I.hg z i=I.hg z j) && (List.range z.p.length).all fun k=>I.bb z i k==I.bb z j k)))
theorem look_C {z:I.Sen}{i j:Nat}(h:lookC z i j=false): ¬I.Look z i j:=by
 intro hl
 obtain⟨h1,h2,h3⟩:=hl
 have:lookC z i j=true:=by
  unfold lookC
  rw[Bool.and_eq_true,Bool.and_eq_true,Bool.or_eq_true,Bool.or_eq_true]
  refine⟨decide_eq_true h1,?_,?_⟩
  ·by_cases e:I.sd z i=1
   ·exact .inl (decide_eq_true e)
   ·refine .inr ?_
    rw[Bool.and_eq_true,List.all_eq_true]
    exact⟨decide_eq_true (h2 e).1,fun k hk=>beq_iff_eq.2 ((h2 e).2 k (List.mem_range.1 hk))⟩
  ·by_cases e:I.sd z i=0
   ·exact .inl (decide_eq_true e)
   ·refine .inr ?_
    rw[Bool.and_eq_true,List.all_eq_true]
    exact⟨decide_eq_true (h3 e).1,fun k hk=>beq_iff_eq.2 ((h3 e).2 k (List.mem_range.1 hk))⟩
 rw[h] at this
 cases this
abbrev zL:I.Sen:=toI z2
theorem zL_len:zL.p.length=4:=by decide+kernel
theorem zL_no:(List.range 4).all (fun i=>(List.range i).all fun j=> !lookC zL j i)=true:=by decide+kernel
theorem zL_first {i:Nat}(h:i < 4):I.first zL i=i:=I.first_self fun j hj _=>look_C (by
 have h1:=List.all_eq_true.1 zL_no i (List.mem_range.2 h)
 have h2:=List.all_eq_true.1 h1 j (List.mem_range.2 hj)
 simpa using h2)
set_option maxRecDepth 100000 in
theorem simple_any (w:World):Calls Tryz.prog 25 #[] w fun e w'=> ∃g,e= .returned (schV sE2 (some ⟨g,0,none⟩) 3 3 none 0 0 none 0 0)∧SchAt w' sE2 (some ⟨g,0,none⟩) 3 3 none 0 0 none 0 0∧Below w.heap.size w w':=by
 obtain⟨x,hx⟩: ∃x,w.alloc (.cells #[.int .i64 1,.int .i64 0,.slice (some ⟨w.heap.size+1+1,0,none⟩) 3 3,.slice none 0 0,.slice none 0 0] 49)=x:=⟨_,rfl⟩
 obtain⟨y,hy⟩: ∃y,x.alloc (.cells #[.bool true,.int .u64 0] 62)=y:=⟨_,rfl⟩
 have b0:Below w.heap.size w x:=hx▸(Below.refl _ _).alloc (Nat.le_refl _) _
 have sx:x.heap.size=w.heap.size+1:=by rw[← hx,World.size_alloc]
 have b1:Below x.heap.size x y:=hy▸(Below.refl _ _).alloc (Nat.le_refl _) _
 have sy:y.heap.size=w.heap.size+1+1:=by rw[← hy,World.size_alloc,sx]
 have b2:Below y.heap.size y (y.alloc oE2):=(Below.refl _ _).alloc (Nat.le_refl _) _
 have k0:(y.alloc oE2).heap[w.heap.size]?=some (.cells #[.int .i64 1,.int .i64 0,.slice (some ⟨w.heap.size+1+1,0,none⟩) 3 3,.slice none 0 0,.slice none 0 0] 49 (0,0)):=(b2.block _ (by rw[sy];omega)).trans ((b1.block _ (by rw[sx];omega)).trans (hx▸heap_alloc_new w _))
 have hs:=at_e2 y
 rw[sy] at hs
 have hb:Below w.heap.size w (y.alloc oE2):=b0.trans ((b1.trans (b2.mono b1.size)).mono b0.size)
 have HK:=Lib.hid k0
 have HS:=Lib.hid hs
 have HB:=Lib.hid hb
 clear b0 b1 b2 sx sy k0 hs hb
 subst hx hy
 unfold schV
 go_enter Tryz.func25,Tryz.ntmps25
 go_wp2_with fail
 refine bodyPost_ret (v:=schV sE2 (some ⟨w.heap.size+1+1,0,none⟩) 3 3 none 0 0 none 0 0) ?_ rfl ⟨_,rfl,HS.out,HB.out⟩
 exact results_cell_row (P:=Tryz.prog) rfl _ _ w.heap.size 49 _ (0,0) _ rfl HK.out Tryz.underlying49 rfl rfl
end Go.Proofs.YtmejhedegmjboaaGreat
namespace Go.Proofs.YtmejhedegmjboaaGreat
open Go.RowKit
open I (sd bb lw hg fixB valF)
theorem wh_toI {z:Sen}(h:wholeS z=true):I.wholeS (toI z)=true:=by
 obtain⟨a1,a2,a3,a4,a5⟩:=whole_iff.1 h
 refine I.whole_iff.2 ⟨by simpa [toI] using a1,by simpa [toI] using a2,by simpa [toI] using a3,?_,by simpa [toI] using a5⟩
 intro p hp
 simp only[toI,List.mem_map] at hp
 obtain⟨x,hx,rfl⟩:=hp
 exact a4 x hx
set_option maxRecDepth 100000 in
set_option maxHeartbeats 2000000 in
theorem sameZ_any (lo hi:List Nat)(be:List (List Bool))(A1:Option Addr)(n1 c1:Nat)(A2:Option Addr)(n2 c2:Nat)(A3:Option Addr)(n3 c3:Nat)(A4:Option Addr)(n4 c4:Nat)(B1:Option Addr)(m1 d1:Nat)(B2:Option Addr)(d2:Nat)(B3:Option Addr)(d3:Nat)(B4:Option Addr)(d4:Nat)(w:World)
  (h2:Rd La.nm w w.heap.size A2 n2 c2 lo) (h3:Rd La.nm w w.heap.size A3 n3 c3 hi) (h4:BRows w w.heap.size A4 n4 c4 be) (k2:Rd La.nm w w.heap.size B2 n2 d2 lo) (k3:Rd La.nm w w.heap.size B3 n3 d3 hi) (k4:BRows w w.heap.size B4 n4 d4 be):
  Calls Tryz.prog 21 #[senV A1 n1 c1 A2 n2 c2 A3 n3 c3 A4 n4 c4,senV B1 m1 d1 B2 n2 d2 B3 n3 d3 B4 n4 d4] w fun e w'=>e= .returned (.bool true)∧Below w.heap.size w w':=by
 have h8:=B8.new w A1 n1 c1 A2 n2 c2 A3 n3 c3 A4 n4 c4 B1 m1 d1 B2 n2 d2 B3 n3 d3 B4 n4 d4
 have hal:=two_below w (.cells #[.slice A1 n1 c1,.slice A2 n2 c2,.slice A3 n3 c3,.slice A4 n4 c4] 28) (.cells #[.slice B1 m1 d1,.slice B2 n2 d2,.slice B3 n3 d3,.slice B4 n4 d4] 28)
 obtain⟨wa,hwa⟩: ∃wa,(w.alloc (.cells #[.slice A1 n1 c1,.slice A2 n2 c2,.slice A3 n3 c3,.slice A4 n4 c4] 28)).alloc (.cells #[.slice B1 m1 d1,.slice B2 n2 d2,.slice B3 n3 d3,.slice B4 n4 d4] 28)=wa:=⟨_,rfl⟩
 rw[hwa] at h8 hal
 have HB:=Lib.hid hal
 have H8:=Lib.hid h8
 have HC2:Hid (∀W,Below wa.heap.size wa W→Calls Tryz.prog 52 #[.slice A2 n2 c2,.slice B2 n2 d2] W fun e w'=>e= .returned (.bool true)∧Below W.heap.size W w'):=Lib.hid fun W hW=>sameNums_any A2 B2 n2 c2 d2 _ _ lo W (h2.below (hal.trans (hW.mono hal.size))) (k2.below (hal.trans (hW.mono hal.size)))
 have HC3:Hid (∀W,Below wa.heap.size wa W→Calls Tryz.prog 52 #[.slice A3 n3 c3,.slice B3 n3 d3] W fun e w'=>e= .returned (.bool true)∧Below W.heap.size W w'):=Lib.hid fun W hW=>sameNums_any A3 B3 n3 c3 d3 _ _ hi W (h3.below (hal.trans (hW.mono hal.size))) (k3.below (hal.trans (hW.mono hal.size)))
 have HC4:Hid (∀W,Below wa.heap.size wa W→Calls Tryz.prog 53 #[.slice A4 n4 c4,.slice B4 n4 d4] W fun e w'=>e= .returned (.bool true)∧Below W.heap.size W w'):=Lib.hid fun W hW=>sameLists_any A4 B4 n4 c4 d4 be W (h4.at_size (Nat.le_refl _) (hal.trans (hW.mono hal.size))) (k4.at_size (Nat.le_refl _) (hal.trans (hW.mono hal.size)))
 have p1:=h8.p1
 have q1:=h8.q1
 clear h2 h3 h4 k2 k3 k4 hal h8
 unfold senV
 go_enter Tryz.func21,Tryz.ntmps21
 go_wp2_with fail
 clear hwa
 refine(HC2.out wa (Below.refl _ _)).mono ?_
 rintro e w1 ⟨rfl,hv⟩
 have HV1:=Lib.hid hv
 have p2:=(H8.out.keep hv).p2
 have q2:=(H8.out.keep hv).q2
 clear hv p1 q1 HC2
 go_wp2_with fail
 refine(HC3.out w1 HV1.out).mono ?_
 rintro e w2 ⟨rfl,hv⟩
 have HV2:=Lib.hid (HV1.out.trans (hv.mono HV1.out.size))
 have p3:=(H8.out.keep HV2.out).p3
 have q3:=(H8.out.keep HV2.out).q3
 clear hv p2 q2 HC3 HV1
 go_wp2_with fail
 refine(HC4.out w2 HV2.out).mono ?_
 rintro e w3 ⟨rfl,hv⟩
 have HV3:=Lib.hid (HB.out.trans ((HV2.out.trans (hv.mono HV2.out.size)).mono HB.out.size))
 clear hv p3 q3 HC4 HV2
 go_wp2_with fail
 go_ret
 exact⟨rfl,HV3.out⟩
theorem put_rs (A A1 A2:Option Addr)(n c n1 c1 n2 c2:Nat)(l:List Nd)(ts us:List Tm)(W:World)(hr:Ns W W.heap.size A n c l)(hf: ∀x∈l,x.Fits)(h1:Rs tmc 2 W W.heap.size A1 n1 c1 ts)(h2:Rs tmc 2 W W.heap.size A2 n2 c2 us)
  (hc:checkB l=0) (e1:ts.length=(labB l).length) (e2:us.length=(effB l).length):
  Calls Tryz.prog 20 #[.slice A n c,.slice A1 n1 c1,.slice A2 n2 c2] W fun e w'=> ∃A' k c',e= .returned (.tuple #[.slice A' k c',.int .i64 0])∧w'.ownsRow W.heap.size 116 10 (.slice A' k c') k ((putB l ts us).flatMap ndc)∧Below W.heap.size W w':=by
 have h4:putR l ts us=0:=by unfold putR;rw[if_neg (by simp[hc]),if_pos ⟨e1,e2⟩]
 have h5:putV l ts us=putB l ts us:=by unfold putV;rw[h4,if_pos rfl]
 have:=put_any A A1 A2 n c n1 c1 n2 c2 l ts us W hr hf h1 h2
 rw[h4,h5] at this
 refine this.mono ?_
 rintro e w' ⟨A',k,c',rfl,ho,hb⟩
 exact⟨A',k,c',rfl,ho,hb⟩
structure KpR (w:World)(g gs:Nat)(A1:Option Addr)(n1 c1:Nat)(A2:Option Addr)(n2 c2:Nat)(A3:Option Addr)(n3 c3:Nat)(A4:Option Addr)(n4 c4:Nat)(B1:Option Addr)(m1 d1:Nat)(B2:Option Addr)(m2 d2:Nat)(B3:Option Addr)(m3 d3:Nat)(B4:Option Addr)(m4 d4:Nat)(A:Option Addr)(n c:Nat):Prop where
 p0:w.cell? ⟨g,0,none⟩=some (.slice A1 n1 c1)
 p1:w.cell? ⟨g,1,none⟩=some (.slice A2 n2 c2)
 p2:w.cell? ⟨g,2,none⟩=some (.slice A3 n3 c3)
 p3:w.cell? ⟨g,3,none⟩=some (.slice A4 n4 c4)
 q0:w.cell? ⟨g+1,0,none⟩=some (.slice B1 m1 d1)
 q1:w.cell? ⟨g+1,1,none⟩=some (.slice B2 m2 d2)
 q2:w.cell? ⟨g+1,2,none⟩=some (.slice B3 m3 d3)
 q3:w.cell? ⟨g+1,3,none⟩=some (.slice B4 m4 d4)
 s:w.cell? ⟨gs,2,none⟩=some (.slice A n c)
end Go.Proofs.YtmejhedegmjboaaGreat
