import Derived.Deep.QuietTactic
import Derived.BigQuiet
import Derived.Test.YtphklakjadchmaaGreatDoorLaw2
import Derived.Test.YtphklakjadchmaaGreatDoorOfs
import Derived.Test.YtphklakjadchmaaGreatDoorOpd
import Derived.Test.YtphklakjadchmaaGreatDoorRwB
import Derived.Test.YtphklakjadchmaaGreatDoorRwO
namespace Go.Proofs.YtphklakjadchmaaGreatDoor
end Go.Proofs.YtphklakjadchmaaGreatDoor
namespace Go.Proofs.YtphklakjadchmaaGreatDoor
end Go.Proofs.YtphklakjadchmaaGreatDoor
namespace Go.Proofs.YtphklakjadchmaaGreatDoor
open Go.RowKit
open I (sd bb lw hg fixB valF)
def toI (z:Sen):I.Sen:=⟨z.p.map fun p=>⟨(p.n:Int),p.p,p.s,p.v,p.z⟩,z.lo,z.hi,z.be⟩
theorem Rs.mapped {α β:Type}{enc:α→List Value}{enc':β→List Value}{f:α→β}(he: ∀x,enc' (f x)=enc x){sz:Nat}{w:World}{B:Nat}{A:Option Addr}{n c:Nat}{l:List α}(h:Rs enc sz w B A n c l):Rs enc' sz w B A n c (l.map f):=
 ⟨by rw[List.length_map];exact h.len,h.cap,h.top,h.none0,fun hn=>by
  obtain⟨b,o,e,hb,hc⟩:=h.spot hn
  exact⟨b,o,e,hb,fun j hj i u hu=>hc j (by simpa using hj) i u (by rw[List.getElem_map,he] at hu;exact hu)⟩⟩
theorem SenAt.toI {w:World}{z:Sen}{A1:Option Addr}{n1 c1:Nat}{A2:Option Addr}{n2 c2:Nat}{A3:Option Addr}{n3 c3:Nat}{A4:Option Addr}{n4 c4:Nat}(h:SenAt w z A1 n1 c1 A2 n2 c2 A3 n3 c3 A4 n4 c4):I.SenAt w (toI z) A1 n1 c1 A2 n2 c2 A3 n3 c3 A4 n4 c4:=
 ⟨h.rp.mapped (f:=fun p:Sp=>(⟨(p.n:Int),p.p,p.s,p.v,p.z⟩:I.Sp)) fun _=>rfl,h.rl,h.rh,h.rb,h.fl,h.fh⟩
section
variable {S:Bo.Sr} {lo hi:List Nat} {rc:Nat→Nat→Bool} {l:List Sp}
end
section
variable {S:Bo.Sr} {q:Nat} {b:List Bo.Bd} {lo hi:List Nat} {l:List Sp}
end
end Go.Proofs.YtphklakjadchmaaGreatDoor
namespace Go.Proofs.YtphklakjadchmaaGreatDoor
open Go.RowKit
set_option maxRecDepth 100000 in
set_option maxHeartbeats 1000000 in
theorem sameNums_any (A A2:Option Addr)(n c c2 B B2:Nat)(l:List Nat)(w:World)(h:Rd La.nm w B A n c l)(h2:Rd La.nm w B2 A2 n c2 l):
  Calls Tryz.prog 19 #[.slice A n c,.slice A2 n c2] w fun e w'=>e= .returned (.bool true)∧Below w.heap.size w w':=by
 have HL:=Lib.hid h.len
 have HT:=Lib.hid h
 have HR:=Lib.hid h2
 have hn2:((n:Int) !=(n:Int))=false:=by simp
 have htop:=h.top
 have hcap:=h.cap
 unfold maxLen at htop
 clear h h2
 go_enter Tryz.func19,Tryz.ntmps19
 go_wp2
 go_loopw [5] (fun i5 wr=>LfRel n w i5 wr) (fun i5 _=>n - (intOf i5).toNat)
 case atStart=>exact⟨0,0,rfl,by omega,rfl⟩
 case round=>
  obtain⟨k,q,rfl,hk,rfl⟩:=hrel
  by_cases hlt:k < n
  ·have hk':k < l.length:=by rw[HL.out];exact hlt
   obtain⟨b,o,rfl,-,hc⟩:=HR.out.spot (by omega)
   obtain⟨b2,o2,rfl,-,hd⟩:=HT.out.spot (by omega)
   have e1:w.cell? ⟨b,o+k,none⟩=some (.int .u64 (l[k]:Int)):=hc k hk'
   have e2:w.cell? ⟨b2,o2+k,none⟩=some (.int .u64 (l[k]:Int)):=hd k hk'
   clear hc hd
   generalize l[k]=u at*
   (
    go_wp2
    go_quiet (fail)
    go_wp2
    go_roundw
    case rel=>exact⟨k+1,_,by go_num,by omega,rfl⟩
    case measure=>simp[intOf];omega)
  ·obtain rfl:k=n:=by omega
   have hbW:Below w.heap.size w (w.drewN q):=La.below_drewN w q
   go_wp2
   go_ret
   exact⟨rfl,hbW⟩
set_option maxRecDepth 100000 in
set_option maxHeartbeats 1000000 in
theorem sameBools_any (A A2:Option Addr)(n c c2 B B2:Nat)(l:List Bool)(w:World)(h:Rd Value.bool w B A n c l)(h2:Rd Value.bool w B2 A2 n c2 l):
  Calls Tryz.prog 18 #[.slice A n c,.slice A2 n c2] w fun e w'=>e= .returned (.bool true)∧Below w.heap.size w w':=by
 have HL:=Lib.hid h.len
 have HT:=Lib.hid h
 have HR:=Lib.hid h2
 have hn2:((n:Int) !=(n:Int))=false:=by simp
 have htop:=h.top
 have hcap:=h.cap
 unfold maxLen at htop
 clear h h2
 go_enter Tryz.func18,Tryz.ntmps18
 go_wp2
 go_loopw [5] (fun i5 wr=>LfRel n w i5 wr) (fun i5 _=>n - (intOf i5).toNat)
 case atStart=>exact⟨0,0,rfl,by omega,rfl⟩
 case round=>
  obtain⟨k,q,rfl,hk,rfl⟩:=hrel
  by_cases hlt:k < n
  ·have hk':k < l.length:=by rw[HL.out];exact hlt
   obtain⟨b,o,rfl,-,hc⟩:=HR.out.spot (by omega)
   obtain⟨b2,o2,rfl,-,hd⟩:=HT.out.spot (by omega)
   have e1:w.cell? ⟨b,o+k,none⟩=some (.bool l[k]):=hc k hk'
   have e2:w.cell? ⟨b2,o2+k,none⟩=some (.bool l[k]):=hd k hk'
   clear hc hd
   generalize l[k]=u at*
   cases u
   all_goals(
    go_wp2
    go_quiet (fail)
    go_wp2
    go_roundw
    case rel=>exact⟨k+1,_,by go_num,by omega,rfl⟩
    case measure=>simp[intOf];omega)
  ·obtain rfl:k=n:=by omega
   have hbW:Below w.heap.size w (w.drewN q):=La.below_drewN w q
   go_wp2
   go_ret
   exact⟨rfl,hbW⟩
end Go.Proofs.YtphklakjadchmaaGreatDoor
namespace Go.Proofs.YtphklakjadchmaaGreatDoor
open Go.RowKit
set_option maxRecDepth 100000 in
set_option maxHeartbeats 1000000 in
theorem sameInts_any (A A2:Option Addr)(n c c2 B B2:Nat)(l:List Nat)(w:World)(h:Rd I.nmI w B A n c l)(h2:Rd I.nmI w B2 A2 n c2 l):
  Calls Tryz.prog 16 #[.slice A n c,.slice A2 n c2] w fun e w'=>e= .returned (.bool true)∧Below w.heap.size w w':=by
 have HL:=Lib.hid h.len
 have HT:=Lib.hid h
 have HR:=Lib.hid h2
 have hn2:((n:Int) !=(n:Int))=false:=by simp
 have htop:=h.top
 have hcap:=h.cap
 unfold maxLen at htop
 clear h h2
 go_enter Tryz.func16,Tryz.ntmps16
 go_wp2
 go_loopw [5] (fun i5 wr=>LfRel n w i5 wr) (fun i5 _=>n - (intOf i5).toNat)
 case atStart=>exact⟨0,0,rfl,by omega,rfl⟩
 case round=>
  obtain⟨k,q,rfl,hk,rfl⟩:=hrel
  by_cases hlt:k < n
  ·have hk':k < l.length:=by rw[HL.out];exact hlt
   obtain⟨b,o,rfl,-,hc⟩:=HR.out.spot (by omega)
   obtain⟨b2,o2,rfl,-,hd⟩:=HT.out.spot (by omega)
   have e1:w.cell? ⟨b,o+k,none⟩=some (.int .i64 (l[k]:Int)):=hc k hk'
   have e2:w.cell? ⟨b2,o2+k,none⟩=some (.int .i64 (l[k]:Int)):=hd k hk'
   clear hc hd
   generalize l[k]=u at*
   (
    go_wp2
    go_quiet (fail)
    go_wp2
    go_roundw
    case rel=>exact⟨k+1,_,by go_num,by omega,rfl⟩
    case measure=>simp[intOf];omega)
  ·obtain rfl:k=n:=by omega
   have hbW:Below w.heap.size w (w.drewN q):=La.below_drewN w q
   go_wp2
   go_ret
   exact⟨rfl,hbW⟩
end Go.Proofs.YtphklakjadchmaaGreatDoor
namespace Go.Proofs.YtphklakjadchmaaGreatDoor
open Go.RowKit
def nI (v:Bool)(x:Nat):Nd:=⟨1,0,[105,110,116],0,v,(x:Int),false,0,false,0⟩
theorem fits_I (v:Bool)(x:Nat):(nI v x).Fits:=⟨fits_int.k0,fits_int.k1,fits_int.m0,fits_int.m1,fits_int.n0,fits_int.n1,fits_int.s1⟩
theorem tfits_I {v:Bool}{x:Nat}(h:x < 18446744073709551616):(nI v x).TFits:=⟨⟨by simp[nI],by simp[nI];omega⟩,⟨by simp[nI],by simp[nI]⟩,⟨by simp[nI],by simp[nI]⟩⟩
theorem tfits_F:nFun.TFits:=⟨⟨by simp[nFun],by simp[nFun]⟩,⟨by simp[nFun],by simp[nFun]⟩,⟨by simp[nFun],by simp[nFun]⟩⟩
def sE2:Sch:=⟨1,0,[nFun,nI true 0,nI true 0],[],[]⟩
abbrev lS:Bo.Sr:=laOf [3,2]
abbrev xS:Bo.Sr:=efOf 1
def z2:Sen:=senS lS [0] [1] (rcB 1 []) (labB sE2.b)
theorem ex_c2:sE2.check lS xS=0:=by decide+kernel
theorem ex_bot:lS.bot=0:=by decide+kernel
theorem ex_top:lS.top=1:=by decide+kernel
theorem ex_has:lS.has 0=true:=by decide+kernel
theorem low_nil {S:Bo.Sr}(hS:S.Ok){v:List Nat}(h:Bo.IsLow S 1 [] v)(hb:S.has S.bot=true):v= [S.bot]:=
 Bo.low_uniq hS h ⟨Bo.Under.start hS fun _=>hb,fun b hb=>by cases hb⟩
theorem of_ex {s:Sch}{w:World}{x:Int}{p q:Q4}(h:OfIs lS xS s w x p q)(hc:s.check lS xS=0)(h1:s.lv=1)(h2:s.ev=0)(hl:s.l= [])(he:s.e= []):x=0∧SenIn w (senS lS [0] [1] (rcB 1 []) (labB s.b)) p:=by
 rcases h with⟨hx,-,-,h|⟨-,-,h⟩⟩|⟨hx,ql,qe,lo,hi,lo',hi',hok,hp,-⟩
 ·exact absurd (h.symm.trans hc) hx
 ·exfalso
  rcases h with⟨k,e,hn⟩|⟨k,e,hn⟩
  ·have hk:k=1:=by omega
   subst hk
   have:=hn [0] ⟨rfl,fun i hi=>by
    obtain rfl:i=0:=by omega
    exact ex_has⟩
   rw[hl] at this
   cases this
  ·have hk:k=0:=by omega
   subst hk
   have:=hn [] ⟨rfl,fun i hi=>absurd hi (Nat.not_lt_zero i)⟩
   rw[he] at this
   cases this
 ·obtain rfl:ql=1:=by have:=hok.lv;omega
  have hS:=laOf_ok [3,2]
  have g1:=hok.gl.low
  have g2:=hok.gl.high
  rw[hl] at g1 g2
  have hbb:lS.has lS.bot=true:=by rw[ex_bot];exact ex_has
  have e1:=low_nil hS g1 hbb
  have e2:=low_nil hS.turn g2 (hS.sub _ _ (hS.topl _ ex_has)).2
  rw[ex_bot] at e1
  replace e2:hi= [lS.top]:=e2
  rw[ex_top] at e2
  rw[e1,e2,hl] at hp
  exact⟨hx,hp⟩
set_option maxRecDepth 100000 in
theorem chain_any (w:World):Calls Tryz.prog 22 #[] w fun e w'=> ∃g,e= .returned (zV (some ⟨g,0,none⟩) 2 2 1)∧Rd La.nm w' w'.heap.size (some ⟨g,0,none⟩) 2 2 [3,2]∧Below w.heap.size w w':=by
 obtain⟨x,hx⟩: ∃x,w.alloc (.cells #[.slice none 0 0,.int .i64 0] 24)=x:=⟨_,rfl⟩
 have b0:Below w.heap.size w x:=hx▸(Below.refl _ _).alloc (Nat.le_refl _) _
 have sx:x.heap.size=w.heap.size+1:=by rw[← hx,World.size_alloc]
 have k0:x.heap[w.heap.size]?=some (.cells #[.slice none 0 0,.int .i64 0] 24 (0,0)):=hx▸heap_alloc_new w _
 obtain⟨y,hy⟩: ∃y,x.alloc (.cells #[.int .u64 3,.int .u64 2] 82)=y:=⟨_,rfl⟩
 have b1:Below x.heap.size x y:=hy▸(Below.refl _ _).alloc (Nat.le_refl _) _
 have k1:y.heap[w.heap.size]?=some (.cells #[.slice none 0 0,.int .i64 0] 24 (0,0)):=(b1.block _ (by rw[sx];omega)).trans k0
 have k2:y.heap[x.heap.size]?=some (.cells #[.int .u64 3,.int .u64 2] 82 (0,0)):=hy▸heap_alloc_new x _
 have p0:=(cell_blk (i:=0) k1).trans rfl
 have p1:=(cell_blk (i:=1) k1).trans rfl
 have f0:y.frozen? ⟨w.heap.size,0,none⟩=false:=frozen_blk k1
 have f1:y.frozen? ⟨w.heap.size,1,none⟩=false:=frozen_blk k1
 have HK1:=Lib.hid k1
 have HK2:=Lib.hid k2
 have HB:=Lib.hid (b0.trans (b1.mono b0.size))
 have HSX:=Lib.hid sx
 clear b0 b1 k0 k1 k2 sx
 go_enter Tryz.func22,Tryz.ntmps22
 go_wp2_with fail
 clear hx hy
 refine bodyPost_ret (v:=zV (some ⟨x.heap.size,0,none⟩) 2 2 1) ?_ rfl ⟨x.heap.size,rfl,?_,?_⟩
 ·exact results_cell_row (P:=Tryz.prog) rfl _ _ w.heap.size 24 _ (0,0) _ rfl (set_blk (set_blk HK1.out _) _) Tryz.underlying24 rfl rfl
 ·have hne:x.heap.size≠w.heap.size:=by have:=HSX.out;omega
  have k2:((y.setCell ⟨w.heap.size,0,none⟩ (.slice (some ⟨x.heap.size,0,none⟩) 2 2)).setCell ⟨w.heap.size,1,none⟩ (.int .i64 1)).heap[x.heap.size]?=some (.cells #[.int .u64 3,.int .u64 2] 82 (0,0)):=(Below.heap_setCell _ _ _ _ hne).trans ((Below.heap_setCell _ _ _ _ hne).trans HK2.out)
  exact La.rd_blk (l:= [3,2]) k2 rfl (by decide)
 ·exact below_set (below_set HB.out (Nat.le_refl _) _) (Nat.le_refl _) _
structure B8 (w:World)(g:Nat)(A1:Option Addr)(n1 c1:Nat)(A2:Option Addr)(n2 c2:Nat)(A3:Option Addr)(n3 c3:Nat)(A4:Option Addr)(n4 c4:Nat)(B1:Option Addr)(m1 d1:Nat)(B2:Option Addr)(m2 d2:Nat)(B3:Option Addr)(m3 d3:Nat)(B4:Option Addr)(m4 d4:Nat):Prop where
 p0:w.cell? ⟨g,0,none⟩=some (.slice A1 n1 c1)
 p1:w.cell? ⟨g,1,none⟩=some (.slice A2 n2 c2)
 p2:w.cell? ⟨g,2,none⟩=some (.slice A3 n3 c3)
 p3:w.cell? ⟨g,3,none⟩=some (.slice A4 n4 c4)
 q0:w.cell? ⟨g+1,0,none⟩=some (.slice B1 m1 d1)
 q1:w.cell? ⟨g+1,1,none⟩=some (.slice B2 m2 d2)
 q2:w.cell? ⟨g+1,2,none⟩=some (.slice B3 m3 d3)
 q3:w.cell? ⟨g+1,3,none⟩=some (.slice B4 m4 d4)
theorem B8.keep {w W:World}{g:Nat}{A1:Option Addr}{n1 c1:Nat}{A2:Option Addr}{n2 c2:Nat}{A3:Option Addr}{n3 c3:Nat}{A4:Option Addr}{n4 c4:Nat}{B1:Option Addr}{m1 d1:Nat}{B2:Option Addr}{m2 d2:Nat}{B3:Option Addr}{m3 d3:Nat}{B4:Option Addr}{m4 d4:Nat}(h:B8 w g A1 n1 c1 A2 n2 c2 A3 n3 c3 A4 n4 c4 B1 m1 d1 B2 m2 d2 B3 m3 d3 B4 m4 d4)(hb:Below w.heap.size w W):B8 W g A1 n1 c1 A2 n2 c2 A3 n3 c3 A4 n4 c4 B1 m1 d1 B2 m2 d2 B3 m3 d3 B4 m4 d4:=
 ⟨cell_old h.p0 hb,cell_old h.p1 hb,cell_old h.p2 hb,cell_old h.p3 hb,cell_old h.q0 hb,cell_old h.q1 hb,cell_old h.q2 hb,cell_old h.q3 hb⟩
theorem B8.new (w:World)(A1:Option Addr)(n1 c1:Nat)(A2:Option Addr)(n2 c2:Nat)(A3:Option Addr)(n3 c3:Nat)(A4:Option Addr)(n4 c4:Nat)(B1:Option Addr)(m1 d1:Nat)(B2:Option Addr)(m2 d2:Nat)(B3:Option Addr)(m3 d3:Nat)(B4:Option Addr)(m4 d4:Nat):
  B8 ((w.alloc (.cells #[.slice A1 n1 c1,.slice A2 n2 c2,.slice A3 n3 c3,.slice A4 n4 c4] 28)).alloc (.cells #[.slice B1 m1 d1,.slice B2 m2 d2,.slice B3 m3 d3,.slice B4 m4 d4] 28)) w.heap.size A1 n1 c1 A2 n2 c2 A3 n3 c3 A4 n4 c4 B1 m1 d1 B2 m2 d2 B3 m3 d3 B4 m4 d4:=by
 obtain⟨x,hx⟩: ∃x,w.alloc (.cells #[.slice A1 n1 c1,.slice A2 n2 c2,.slice A3 n3 c3,.slice A4 n4 c4] 28)=x:=⟨_,rfl⟩
 have sx:x.heap.size=w.heap.size+1:=by rw[← hx,World.size_alloc]
 have b1:Below x.heap.size x (x.alloc (.cells #[.slice B1 m1 d1,.slice B2 m2 d2,.slice B3 m3 d3,.slice B4 m4 d4] 28)):=(Below.refl _ _).alloc (Nat.le_refl _) _
 have k0:=(b1.block w.heap.size (by rw[sx];omega)).trans (hx▸heap_alloc_new w (.cells #[.slice A1 n1 c1,.slice A2 n2 c2,.slice A3 n3 c3,.slice A4 n4 c4] 28))
 have k1:=heap_alloc_new x (.cells #[.slice B1 m1 d1,.slice B2 m2 d2,.slice B3 m3 d3,.slice B4 m4 d4] 28)
 rw[sx] at k1
 rw[hx]
 exact⟨(cell_blk (i:=0) k0).trans rfl,(cell_blk (i:=1) k0).trans rfl,(cell_blk (i:=2) k0).trans rfl,(cell_blk (i:=3) k0).trans rfl,(cell_blk (i:=0) k1).trans rfl,(cell_blk (i:=1) k1).trans rfl,(cell_blk (i:=2) k1).trans rfl,(cell_blk (i:=3) k1).trans rfl⟩
theorem two_below (w:World)(o o':Obj):Below w.heap.size w ((w.alloc o).alloc o'):=((Below.refl _ _).alloc (Nat.le_refl _) _).alloc (by simp) _
theorem fits_e2: ∀x∈sE2.b,x.Fits:=fits_cons fits_fun (fits_cons (fits_I _ _) (fits_cons (fits_I _ _) fits_nil))
theorem tfits_e2: ∀x∈sE2.b,x.TFits:=fun x hx=>by
 simp only[sE2,List.mem_cons,List.not_mem_nil,or_false] at hx
 rcases hx with rfl|rfl|rfl
 ·exact tfits_F
 ·exact tfits_I (by decide)
 ·exact tfits_I (by decide)
abbrev oE2:Obj:= .cells #[.int .u8 5,.int .i64 0,.string (str []),.int .i64 2,.bool false,.int .u64 0,.bool false,.int .u64 0,.bool false,.int .u64 0,.int .u8 1,.int .i64 0,.string (str [105,110,116]),.int .i64 0,.bool true,.int .u64 0,.bool false,.int .u64 0,.bool false,.int .u64 0,.int .u8 1,.int .i64 0,.string (str [105,110,116]),.int .i64 0,.bool true,.int .u64 0,.bool false,.int .u64 0,.bool false,.int .u64 0] 127
theorem at_e2 (w:World):SchAt (w.alloc oE2) sE2 (some ⟨w.heap.size,0,none⟩) 3 3 none 0 0 none 0 0:=
 ⟨Rs.of_own ndc_len (by decide) (own_of_blk (l:= [nFun,nI true 0,nI true 0]) (n:=3) (heap_alloc_new w oE2) (Nat.zero_le _) rfl rfl (by unfold maxLen;omega)),fits_e2,tfits_e2,Rs.nil _ _,(fun _ h=>by cases h),Rs.nil _ _,fun _ h=>by cases h⟩
def lookC (z:I.Sen)(i j:Nat):Bool:=decide (I.sd z i=I.sd z j) &&
 ((decide (I.sd z i=1)||(decide (I.lw z i=I.lw z j) && (List.range z.p.length).all fun k=>I.bb z k i==I.bb z k j)) &&
  (decide (I.sd z i=0)||(decide (I.hg z i=I.hg z j) && (List.range z.p.length).all fun k=>I.bb z i k==I.bb z j k)))
theorem look_C {z:I.Sen}{i j:Nat}(h:lookC z i j=false): ¬I.Look z i j:=by
 intro hl
 obtain⟨h1,h2,h3⟩:=hl
 have:lookC z i j=true:=by
  unfold lookC
  rw[Bool.and_eq_true,Bool.and_eq_true,Bool.or_eq_true,Bool.or_eq_true]
  refine⟨decide_eq_true h1,?_,?_⟩
  ·by_cases e:I.sd z i=1
   ·exact .inl (decide_eq_true e)
   ·refine .inr ?_
    rw[Bool.and_eq_true,List.all_eq_true]
    exact⟨decide_eq_true (h2 e).1,fun k hk=>beq_iff_eq.2 ((h2 e).2 k (List.mem_range.1 hk))⟩
  ·by_cases e:I.sd z i=0
   ·exact .inl (decide_eq_true e)
   ·refine .inr ?_
    rw[Bool.and_eq_true,List.all_eq_true]
    exact⟨decide_eq_true (h3 e).1,fun k hk=>beq_iff_eq.2 ((h3 e).2 k (List.mem_range.1 hk))⟩
 rw[h] at this
 cases this
abbrev zL:I.Sen:=toI z2
theorem zL_whole:I.wholeS zL=true:=by decide+kernel
theorem zL_len:zL.p.length=4:=by decide+kernel
theorem zL_no:(List.range 4).all (fun i=>(List.range i).all fun j=> !lookC zL j i)=true:=by decide+kernel
theorem zL_first {i:Nat}(h:i < 4):I.first zL i=i:=I.first_self fun j hj _=>look_C (by
 have h1:=List.all_eq_true.1 zL_no i (List.mem_range.2 h)
 have h2:=List.all_eq_true.1 h1 j (List.mem_range.2 hj)
 simpa using h2)
theorem zL_al:I.alF zL= [0,1,2,3]:=by
 unfold I.alF
 rw[if_pos zL_whole,zL_len]
 show [I.first zL 0,I.first zL 1,I.first zL 2,I.first zL 3]=_
 rw[zL_first (by decide),zL_first (by decide),zL_first (by decide),zL_first (by decide)]
theorem zL_fix:I.fixF lS zL= [true,true,false,false]:=by decide+kernel
theorem zL_fv:I.fvF lS zL= [0,0,0,0]:=by decide+kernel
set_option maxRecDepth 100000 in
theorem simple_any (w:World):Calls Tryz.prog 24 #[] w fun e w'=> ∃g,e= .returned (schV sE2 (some ⟨g,0,none⟩) 3 3 none 0 0 none 0 0)∧SchAt w' sE2 (some ⟨g,0,none⟩) 3 3 none 0 0 none 0 0∧Below w.heap.size w w':=by
 obtain⟨x,hx⟩: ∃x,w.alloc (.cells #[.int .i64 1,.int .i64 0,.slice (some ⟨w.heap.size+1+1,0,none⟩) 3 3,.slice none 0 0,.slice none 0 0] 80)=x:=⟨_,rfl⟩
 obtain⟨y,hy⟩: ∃y,x.alloc (.cells #[.bool true,.int .u64 0] 100)=y:=⟨_,rfl⟩
 have b0:Below w.heap.size w x:=hx▸(Below.refl _ _).alloc (Nat.le_refl _) _
 have sx:x.heap.size=w.heap.size+1:=by rw[← hx,World.size_alloc]
 have b1:Below x.heap.size x y:=hy▸(Below.refl _ _).alloc (Nat.le_refl _) _
 have sy:y.heap.size=w.heap.size+1+1:=by rw[← hy,World.size_alloc,sx]
 have b2:Below y.heap.size y (y.alloc oE2):=(Below.refl _ _).alloc (Nat.le_refl _) _
 have k0:(y.alloc oE2).heap[w.heap.size]?=some (.cells #[.int .i64 1,.int .i64 0,.slice (some ⟨w.heap.size+1+1,0,none⟩) 3 3,.slice none 0 0,.slice none 0 0] 80 (0,0)):=(b2.block _ (by rw[sy];omega)).trans ((b1.block _ (by rw[sx];omega)).trans (hx▸heap_alloc_new w _))
 have hs:=at_e2 y
 rw[sy] at hs
 have hb:Below w.heap.size w (y.alloc oE2):=b0.trans ((b1.trans (b2.mono b1.size)).mono b0.size)
 have HK:=Lib.hid k0
 have HS:=Lib.hid hs
 have HB:=Lib.hid hb
 clear b0 b1 b2 sx sy k0 hs hb
 subst hx hy
 unfold schV
 go_enter Tryz.func24,Tryz.ntmps24
 go_wp2_with fail
 refine bodyPost_ret (v:=schV sE2 (some ⟨w.heap.size+1+1,0,none⟩) 3 3 none 0 0 none 0 0) ?_ rfl ⟨_,rfl,HS.out,HB.out⟩
 exact results_cell_row (P:=Tryz.prog) rfl _ _ w.heap.size 80 _ (0,0) _ rfl HK.out Tryz.underlying80 rfl rfl
theorem rd_i4 (w:World):Rd I.nmI (w.alloc (.cells #[.int .i64 0,.int .i64 1,.int .i64 2,.int .i64 3] 3)) (w.heap.size+1) (some ⟨w.heap.size,0,none⟩) 4 4 [0,1,2,3]:=by
 have h:(w.alloc (.cells #[.int .i64 0,.int .i64 1,.int .i64 2,.int .i64 3] 3)).heap[w.heap.size]?=some (.cells (I.icl [0,1,2,3]) 3 (0,0)):=heap_alloc_new w _
 have:=I.rd_in h rfl (by decide)
 rwa [World.size_alloc] at this
theorem rd_b4 (w:World):Rd Value.bool (w.alloc (.cells #[.bool true,.bool true,.bool false,.bool false] 4)) (w.heap.size+1) (some ⟨w.heap.size,0,none⟩) 4 4 [true,true,false,false]:=by
 have h:(w.alloc (.cells #[.bool true,.bool true,.bool false,.bool false] 4)).heap[w.heap.size]?=some (.cells (I.bcl [true,true,false,false]) 4 (0,0)):=heap_alloc_new w _
 have:=I.rd_bo h rfl (by decide)
 rwa [World.size_alloc] at this
set_option maxRecDepth 100000 in
set_option maxHeartbeats 4000000 in
theorem lives_any (w:World):Calls Tryz.prog 5 #[] w fun e w'=>e= .returned (.bool true)∧Below w.heap.size w w':=by
 go_enter Tryz.func5,Tryz.ntmps5
 go_wp2_with fail
 refine(chain_any w).mono ?_
 rintro e w1 ⟨g0,rfl,hr,hb1⟩
 have HB1:=Lib.hid hb1
 have hcall:=of_sorts (some ⟨g0,0,none⟩) 2 2 1 [3,2] w1 hr (by intro x hx;simp only[List.mem_cons,List.not_mem_nil,or_false] at hx;omega)
 clear hr hb1
 have HC:=Lib.hid hcall
 clear hcall
 go_wp2_with fail
 refine HC.out.mono ?_
 rintro e w2 ⟨a,b,rfl,hbo,hv⟩
 have HB2:=Lib.hid (HB1.out.trans (hv.mono HB1.out.size))
 have HBO:=Lib.hid hbo
 clear hbo hv HC HB1
 go_wp2_with fail
 refine(simple_any w2).mono ?_
 rintro e w3 ⟨gs,rfl,hs,hv⟩
 have HB3:=Lib.hid (HB2.out.trans (hv.mono HB2.out.size))
 have HBO3:=Lib.hid (HBO.out.keep hv)
 have HC:=Lib.hid (senOf_any sE2 _ _ _ _ _ _ _ _ _ a b lS xS _ hs HBO3.out (laOf_ok _) (efOf_ok _))
 clear hv HBO HB2 hs
 unfold schV at HC ⊢
 go_wp2_with fail
 refine HC.out.mono ?_
 rintro e w4 ⟨x1,p1,q1,rfl,hof,hv⟩
 obtain⟨hx1,hp1⟩:=of_ex hof ex_c2 rfl rfl rfl rfl
 obtain⟨A1,n1,c1,A2,n2,c2,A3,n3,c3,A4,n4,c4⟩:=p1
 obtain⟨B1,m1,d1,B2,m2,d2,B3,m3,d3,B4,m4,d4⟩:=q1
 replace hp1:SenAt w4 z2 A1 n1 c1 A2 n2 c2 A3 n3 c3 A4 n4 c4:=hp1
 simp only[Q4.v,senV]
 have HB4:=Lib.hid (HB3.out.trans (hv.mono HB3.out.size))
 have HBO4:=Lib.hid (HBO3.out.keep hv)
 have HP1:=Lib.hid hp1.toI
 clear hof hp1 hv HC HBO3 HB3
 subst hx1
 have h8:=B8.new w4 A1 n1 c1 A2 n2 c2 A3 n3 c3 A4 n4 c4 B1 m1 d1 B2 m2 d2 B3 m3 d3 B4 m4 d4
 have hal:=two_below w4 (.cells #[.slice A1 n1 c1,.slice A2 n2 c2,.slice A3 n3 c3,.slice A4 n4 c4] 28) (.cells #[.slice B1 m1 d1,.slice B2 m2 d2,.slice B3 m3 d3,.slice B4 m4 d4] 28)
 have HBA:=Lib.hid (HB4.out.trans (hal.mono HB4.out.size))
 have HBOA:=Lib.hid (HBO4.out.keep hal)
 have HPA:=Lib.hid (HP1.out.keep hal)
 have H8:=Lib.hid h8
 have t0:=h8.p0
 have t1:=h8.p1
 have t2:=h8.p2
 have t3:=h8.p3
 clear h8 hal HB4 HBO4 HP1
 go_wp2_with fail
 generalize (w4.alloc (.cells #[.slice A1 n1 c1,.slice A2 n2 c2,.slice A3 n3 c3,.slice A4 n4 c4] 28)).alloc (.cells #[.slice B1 m1 d1,.slice B2 m2 d2,.slice B3 m3 d3,.slice B4 m4 d4] 28)=wa at*
 generalize w4.heap.size=g3 at*
 have hn1:n1=4:=by rw[← HPA.out.rp.len,zL_len]
 have HFX:=Lib.hid (I.fixed_any (.iface 83 (.pointer a)) lS zL A1 n1 c1 A2 n2 c2 A3 n3 c3 A4 n4 c4 wa HBOA.out.sl.into HPA.out (by omega))
 clear hn1
 unfold senV at HFX
 refine HFX.out.mono ?_
 rintro e w5 ⟨E1,k1,f1,E2,k2,f2,rfl,hfx⟩
 have hv:=hfx.1
 obtain⟨rb,rv⟩:=hfx.rd (by rw[zL_len];decide)
 rw[zL_fix] at rb
 rw[zL_fv] at rv
 obtain rfl:k1=4:=rb.len.symm
 obtain rfl:k2=4:=rv.len.symm
 have hr4:=rv
 obtain⟨ev,eo,rfl,-,hev⟩:=rv.spot (by decide)
 have hv0:=hev 0 (by decide)
 have HB5:=Lib.hid (HBA.out.trans (hv.mono HBA.out.size))
 have HP5:=Lib.hid (HPA.out.keep hv)
 have H85:=Lib.hid (H8.out.keep hv)
 have h8:=H85.out
 have t0:=h8.p0
 have t1:=h8.p1
 have t2:=h8.p2
 have t3:=h8.p3
 have HRB:=Lib.hid rb
 replace hv0:_=some (Value.int .u64 0):=hv0
 have HV0:=Lib.hid hv0
 have hn1:n1=4:=by rw[← HPA.out.rp.len,zL_len]
 have HOF:=Lib.hid (I.rowsOf_any (.iface 83 (.pointer a)) zL A1 n1 c1 A2 n2 c2 A3 n3 c3 A4 n4 c4 w5 HP5.out (by omega))
 clear hn1 hfx hv rb rv hr4 hev hv0 h8 HFX HBA HPA H8 HBOA
 unfold senV at HOF
 go_wp2_with fail
 refine HOF.out.mono ?_
 rintro e w6 ⟨F1,k3,f3,rfl,hof⟩
 have hv:=hof.1
 have ri:=hof.rd (by rw[zL_len];decide)
 rw[zL_al] at ri
 obtain rfl:k3=4:=ri.len.symm
 have HB6:=Lib.hid (HB5.out.trans (hv.mono HB5.out.size))
 have HRI:=Lib.hid ri
 have HRB6:=Lib.hid (HRB.out.at_size (Nat.le_refl _) hv)
 have HV6:=Lib.hid (cell_old HV0.out hv)
 clear hof hv ri HOF HRB HV0 HP5 H85 t0 t1 t2 t3 HB5
 go_wp2_with fail
 have hal:Below w6.heap.size w6 (w6.alloc (.cells #[.int .i64 0,.int .i64 1,.int .i64 2,.int .i64 3] 3)):=(Below.refl _ _).alloc (Nat.le_refl _) _
 have HS:=Lib.hid (sameInts_any F1 (some ⟨w6.heap.size,0,none⟩) 4 f3 4 _ _ [0,1,2,3] (w6.alloc (.cells #[.int .i64 0,.int .i64 1,.int .i64 2,.int .i64 3] 3)) (HRI.out.below hal) (rd_i4 w6))
 refine HS.out.mono ?_
 rintro e w7 ⟨rfl,hv⟩
 have hv7:=hal.trans (hv.mono hal.size)
 have HB7:=Lib.hid (HB6.out.trans (hv7.mono HB6.out.size))
 have HRB7:=Lib.hid (HRB6.out.at_size (Nat.le_refl _) hv7)
 have HV7:=Lib.hid (cell_old HV6.out hv7)
 clear hv hv7 hal HS HRI HRB6 HV6 HB6
 go_wp2_with fail
 have hal:Below w7.heap.size w7 (w7.alloc (.cells #[.bool true,.bool true,.bool false,.bool false] 4)):=(Below.refl _ _).alloc (Nat.le_refl _) _
 have HS:=Lib.hid (sameBools_any E1 (some ⟨w7.heap.size,0,none⟩) 4 f1 4 _ _ [true,true,false,false] (w7.alloc (.cells #[.bool true,.bool true,.bool false,.bool false] 4)) (HRB7.out.below hal) (rd_b4 w7))
 refine HS.out.mono ?_
 rintro e w8 ⟨rfl,hv⟩
 have hv8:=hal.trans (hv.mono hal.size)
 have HB8:=Lib.hid (HB7.out.trans (hv8.mono HB7.out.size))
 have hv0:=cell_old HV7.out hv8
 simp only[Nat.add_zero] at hv0
 clear hv hv8 hal HS HRB7 HV7 HB7
 go_wp2_with fail
 go_ret
 exact⟨rfl,HB8.out⟩
end Go.Proofs.YtphklakjadchmaaGreatDoor
