import Derived.Test.YtmejhedegmjboaaGreatSlv2
set_option maxRecDepth 100000
set_option maxHeartbeats 8000000
namespace Go.Proofs.YtmejhedegmjboaaGreat
open Go.RowKit
structure Q4 where
 A1:Option Addr
 n1:Nat
 c1:Nat
 A2:Option Addr
 n2:Nat
 c2:Nat
 A3:Option Addr
 n3:Nat
 c3:Nat
 A4:Option Addr
 n4:Nat
 c4:Nat
def Q4.v (p:Q4):Value:=senV p.A1 p.n1 p.c1 p.A2 p.n2 p.c2 p.A3 p.n3 p.c3 p.A4 p.n4 p.c4
def Q4.nil:Q4:=⟨none,0,0,none,0,0,none,0,0,none,0,0⟩
abbrev ZkT (w:World)(z:Sen)(p:Q4):Prop:=Zx w z p.A1 p.n1 p.c1 p.A2 p.n2 p.c2 p.A3 p.n3 p.c3 p.A4 p.n4 p.c4
structure Both (w:World)(a b:Option Addr)(S X:Bo.Sr):Prop where
 l:Bo.Ans w 192 190 193 194 191 195 (.pointer a) S
 x:Bo.Ans w 203 201 204 205 202 206 (.pointer b) X
theorem Both.keep {w W:World}{a b:Option Addr}{S X:Bo.Sr}(h:Both w a b S X)(hb:Below w.heap.size w W):Both W a b S X:=⟨h.l.keep hb,h.x.keep hb⟩
theorem Both.sl {w:World}{a b:Option Addr}{S X:Bo.Sr}(h:Both w a b S X):Srt3 w (.iface 74 (.pointer a)) S:= .inl ⟨a,rfl,h.l⟩
theorem Both.sx {w:World}{a b:Option Addr}{S X:Bo.Sr}(h:Both w a b S X):Srt3 w (.iface 77 (.pointer b)) X:= .inr ⟨b,rfl,h.x⟩
structure OfOk (S X:Bo.Sr)(s:Sch)(ql qe:Nat)(lo hi lo' hi':List Nat):Prop where
 chk:s.check S X=0
 lv:s.lv=(ql:Int)
 ev:s.ev=(qe:Int)
 gl:Got S ql s.l lo hi
 ge:Got X qe s.e lo' hi'
def OfIs (S X:Bo.Sr)(s:Sch)(w:World)(x:Int)(p q:Q4):Prop:=
 (x≠0∧p=Q4.nil∧q=Q4.nil∧(s.check S X=x∨(s.check S X=0∧x=10∧(Qg S s.lv s.l∨Qg X s.ev s.e))))∨
 (x=0∧ ∃(ql qe:Nat) (lo hi lo' hi':List Nat),OfOk S X s ql qe lo hi lo' hi'∧ZkT w (senS S lo hi (rcB ql s.l) (labB s.b)) p∧ZkT w (senS X lo' hi' (rcB qe s.e) (effB s.b)) q)
theorem Made.move {S:Bo.Sr}{lo hi:List Nat}{rc:Nat→Nat→Bool}{l:List Sp}{w0 w v0 v:World}{A1:Option Addr}{n1 c1:Nat}{A2:Option Addr}{n2 c2:Nat}{A3:Option Addr}{n3 c3:Nat}{A4:Option Addr}{n4 c4:Nat}(h:Made S lo hi rc l w0 w A1 n1 c1 A2 n2 c2 A3 n3 c3 A4 n4 c4)
  (hk: ∀k o,w0.heap.size≤k→w.heap[k]?=some o→v.heap[k]?=some o) (hb:Below v0.heap.size v0 v) (hle:v0.heap.size≤w0.heap.size) (hr:l≠ []→Rs spc 5 v v.heap.size A1 n1 c1 l):Made S lo hi rc l v0 v A1 n1 c1 A2 n2 c2 A3 n3 c3 A4 n4 c4:=by
 rcases h with h|⟨g1,g2,g3,r,e1,e2,e3,e4,e5,e6,e7,e8,e9,rs,hl,hh,hw,b1,b2,hne,hn⟩
 ·exact .inl h
 ·(
 by_cases hl0:l= []
 ·subst hl0
  have hn0:n1=0:=rs.len.symm
  exact .inr ⟨g1,g2,g3,r,e1,e2,e3,e4,e5,e6,e7,e8,e9,⟨rs.len,rs.cap,rs.top,rs.none0,fun h0=>absurd hn0 (by omega)⟩,hk _ _ b1 hl,hk _ _ b2 hh,⟨hk _ _ hw.gb hw.hd,hk _ _ hw.rb hw.rm,Nat.le_trans hle hw.gb,Nat.le_trans hle hw.rb,hw.ne,hb⟩,Nat.le_trans hle b1,Nat.le_trans hle b2,hne,hn⟩
 ·exact .inr ⟨g1,g2,g3,r,e1,e2,e3,e4,e5,e6,e7,e8,e9,hr hl0,hk _ _ b1 hl,hk _ _ b2 hh,⟨hk _ _ hw.gb hw.hd,hk _ _ hw.rb hw.rm,Nat.le_trans hle hw.gb,Nat.le_trans hle hw.rb,hw.ne,hb⟩,Nat.le_trans hle b1,Nat.le_trans hle b2,hne,hn⟩)
theorem Rs.off2 {w w':World}{A:Option Addr}{n c g g2:Nat}{l:List Sp}(h:Rs spc 5 w w.heap.size A n c l)(hg: ∀o v,w.cell? ⟨g,o,none⟩=some v→ ∃A n c,v= .slice A n c)(hg2: ∀o v,w.cell? ⟨g2,o,none⟩=some v→ ∃A n c,v= .slice A n c)
  (hk: ∀k,k < w.heap.size→k≠g→k≠g2→w'.heap[k]?=w.heap[k]?) (hs:w.heap.size≤w'.heap.size):Rs spc 5 w' w'.heap.size A n c l:=by
 refine⟨h.len,h.cap,h.top,h.none0,fun h0=> ?_⟩
 obtain⟨b,o,e,hb,hc⟩:=h.spot h0
 have h1:0 < l.length:=by rw[h.len];exact h0
 have hf:=hc 0 h1 0 _ rfl
 have n1:b≠g:=by(
 rintro rfl
 obtain⟨_,_,_,e⟩:=hg _ _ hf
 cases e)
 have n2:b≠g2:=by(
 rintro rfl
 obtain⟨_,_,_,e⟩:=hg2 _ _ hf
 cases e)
 exact⟨b,o,e,Nat.lt_of_lt_of_le hb hs,fun j hj i u hu=>(World.cell?_of_block (hk b hb n1 n2)).trans (hc j hj i u hu)⟩
theorem UX {w:World}{g T:Nat}{x0 x1 x2 x3:Option Addr×Nat×Nat}(h:w.heap[g]?=some (.cells #[slc x0,slc x1,slc x2,slc x3] T (0,0))): ∀o v,w.cell? ⟨g,o,none⟩=some v→ ∃A n c,v= .slice A n c:=fun o v hv=>by
 rw[Zb h] at hv
 have ho:o=0∨o=1∨o=2∨o=3:=by(
 have:=(Array.getElem?_eq_some_iff.1 hv).1
 simp at this
 omega)
 rcases ho with rfl|rfl|rfl|rfl
 all_goals(simp only[List.getElem?_toArray,sE,sD,Option.some.injEq] at hv;exact⟨_,_,_,hv.symm⟩)
theorem Yc {P:Program}{fn:Func}{p p2 q:Tmp}{ty:TypeId}(h:fn.results= #[.cell p ty,.cell p2 ty,.tmp q])(tmps:Array Value)(w:World)(g g2:Nat)(t:TypeId)(cs cs2:Array Value)(fr fr2:Nat×Nat)(d:TypeDesc)
  (hp:tmps.getD p undef= .pointer (some ⟨g,0,none⟩)) (hg:w.heap[g]?=some (.cells cs t fr)) (hp2:tmps.getD p2 undef= .pointer (some ⟨g2,0,none⟩)) (hg2:w.heap[g2]?=some (.cells cs2 t fr2))
  (hu:P.underlying ty=some d) (hd:(match d with| .struct _| .array _ _=>true|_=>false)=true) (hi:(P.info? ty).map (·.size)=some cs.size) (hi2:(P.info? ty).map (·.size)=some cs2.size) (v:Value) (hv:tmps.getD q undef=v):
  (results fn tmps).run P w= .ok (.tuple #[.agg cs,.agg cs2,v]) w:=by
 have hp':tmps[p]?.getD undef= .pointer (some ⟨g,0,none⟩):=by simpa using hp
 have hp2':tmps[p2]?.getD undef= .pointer (some ⟨g2,0,none⟩):=by simpa using hp2
 have hv':tmps[q]?.getD undef=v:=by simpa using hv
 simp[results,h,hp',hp2',hv',asAddr,run_loadVar_row w g t ty cs fr d hg hu hd hi,run_loadVar_row w g2 t ty cs2 fr2 d hg2 hu hd hi2]
theorem Srt3.lab {w:World}{v:Value}{S:Bo.Sr}{lv:Int}{l:List Sp}(_:Srt3 w v S){q:Nat}(hk:lv=(q:Int))(h: ∀p∈l,may1 S lv p=true): ∀p∈l,okT q p.v p.z.toNat:=fun p hp hv=>by
 have:=h p hp
 unfold may1 Bo.mayT at this
 rw[hk,Int.toNat_natCast,hv] at this
 exact of_decide_eq_true this
theorem Zgx (s:Sch)(A:Option Addr)(n c:Nat)(A1:Option Addr)(n1 c1:Nat)(A2:Option Addr)(n2 c2:Nat)(a b:Option Addr)(S X:Bo.Sr)(w:World)(h:Zcn w s A n c A1 n1 c1 A2 n2 c2)(hBo:Both w a b S X)(okS:S.Ok)(okX:X.Ok):
  Calls Tryz.prog 18 #[schV s A n c A1 n1 c1 A2 n2 c2,.iface 74 (.pointer a),.iface 77 (.pointer b)] w fun e w'=> ∃x p q,e= .returned (.tuple #[Q4.v p,Q4.v q,.int .i64 x])∧OfIs S X s w' x p q∧Below w.heap.size w w':=by
 obtain⟨ec,hec⟩: ∃x,s.check S X=x:=⟨_,rfl⟩
 have HEC:=Hd hec
 have HSA:=Hd h
 have HBO:=Hd hBo
 have HOS:=Hd okS
 have HOX:=Hd okX
 have HCHK:Hid (∀W,Below w.heap.size w W→Calls Tryz.prog 42 #[schV s A n c A1 n1 c1 A2 n2 c2,.iface 74 (.pointer a),.iface 77 (.pointer b)] W fun e w'=>e= .returned (.int .i64 ec)∧Below W.heap.size W w'):=Hd fun W hW=>ZbF s A n c A1 n1 c1 A2 n2 c2 _ _ S X W (h.keep hW) (hBo.sl.into.keep hW) (hBo.sx.into.keep hW) ec hec
 obtain⟨x,hx⟩: ∃x,w.alloc (.cells #[.int .i64 s.lv,.int .i64 s.ev,.slice A n c,.slice A1 n1 c1,.slice A2 n2 c2] 49)=x:=⟨_,rfl⟩
 obtain⟨y,hy⟩: ∃y,x.alloc (.cells #[.slice none 0 0,.slice none 0 0,.slice none 0 0,.slice none 0 0] 28)=y:=⟨_,rfl⟩
 obtain⟨u,hu⟩: ∃u,y.alloc (.cells #[.slice none 0 0,.slice none 0 0,.slice none 0 0,.slice none 0 0] 28)=u:=⟨_,rfl⟩
 have b0:Below w.heap.size w x:=hx▸bA
 have sx:x.heap.size=w.heap.size+1:=by rw[← hx,World.size_alloc]
 have b1:Below x.heap.size x y:=hy▸bA
 have sy:y.heap.size=w.heap.size+1+1:=by rw[← hy,World.size_alloc,sx]
 have b2:Below y.heap.size y u:=hu▸bA
 have su:u.heap.size=w.heap.size+1+1+1:=by rw[← hu,World.size_alloc,sy]
 have hz0:Box x w.heap.size s.lv s.ev A n c A1 n1 c1 A2 n2 c2:=hx▸Box.new w s.lv s.ev A n c A1 n1 c1 A2 n2 c2
 have hz:Box u w.heap.size s.lv s.ev A n c A1 n1 c1 A2 n2 c2:=hz0.keep (b1.trans (b2.mono b1.size))
 have k1:u.heap[w.heap.size+1]?=some (.cells #[.slice none 0 0,.slice none 0 0,.slice none 0 0,.slice none 0 0] 28 (0,0)):=(b2.block _ (by rw[sy];omega)).trans (by rw[← sx, ← hy];exact heap_alloc_new x _)
 have k2:u.heap[w.heap.size+1+1]?=some (.cells #[.slice none 0 0,.slice none 0 0,.slice none 0 0,.slice none 0 0] 28 (0,0)):=by rw[← sy, ← hu];exact heap_alloc_new y _
 have hb:Below w.heap.size w u:=b0.trans ((b1.trans (b2.mono b1.size)).mono b0.size)
 have HK1:=Hd k1
 have HK2:=Hd k2
 have HB:=Hd hb
 have HSU:=Hd su
 have HZ:=Hd hz
 have hcall:=HCHK.out u hb
 have hz0:=hz.z0
 have hz1:=hz.z1
 have hz2:=hz.z2
 have hz3:=hz.z3
 have hz4:=hz.z4
 clear b0 b1 b2 sx sy su k1 k2 hb h hBo okS okX hec hz
 subst hx hy
 clear HCHK
 unfold schV at hcall ⊢
 have HCALL:=Hd hcall
 clear hcall
 go_enter Tryz.func18,Tryz.ntmps18
 go_wp2_with fail
 clear hu
 refine HCALL.out.mono ?_
 rintro e w1 ⟨rfl,hv⟩
 clear HCALL hz0 hz1 hz2 hz3 hz4
 have HV:=Hd hv
 clear hv
 have k1:=(HV.out.block _ (Zh HK1.out)).trans HK1.out
 have k2:=(HV.out.block _ (Zh HK2.out)).trans HK2.out
 have p0:=(Zb (i:=0) k1).trans rfl
 have p1:=(Zb (i:=1) k1).trans rfl
 have p2:=(Zb (i:=2) k1).trans rfl
 have p3:=(Zb (i:=3) k1).trans rfl
 have q0:=(Zb (i:=0) k2).trans rfl
 have q1:=(Zb (i:=1) k2).trans rfl
 have q2:=(Zb (i:=2) k2).trans rfl
 have q3:=(Zb (i:=3) k2).trans rfl
 have fp: ∀i,w1.frozen? ⟨w.heap.size+1,i,none⟩=false:=fun i=>Zc k1
 have fq: ∀i,w1.frozen? ⟨w.heap.size+1+1,i,none⟩=false:=fun i=>Zc k2
 by_cases h0:ec=0
 case neg=>(
 have hne:(ec !=0)=true:=by simpa using h0
 have fp0:=fp 0
 have fp1:=fp 1
 have fp2:=fp 2
 have fp3:=fp 3
 have fq0:=fq 0
 have fq1:=fq 1
 have fq2:=fq 2
 have fq3:=fq 3
 have HH:=Hd h0
 clear fp fq h0
 have HKK:=Hd (And.intro k1 k2)
 clear k1 k2
 go_wp2_with fail
 refine bodyPost_ret (v:= .tuple #[Q4.v Q4.nil,Q4.v Q4.nil,.int .i64 ec]) ?_ rfl ⟨ec,Q4.nil,Q4.nil,rfl,.inl ⟨HH.out,rfl,rfl,.inl HEC.out⟩,?_⟩
 ·exact Yc (P:=Tryz.prog) rfl _ _ (w.heap.size+1) (w.heap.size+1+1) 28 _ _ (0,0) (0,0) _ rfl ((Zw (by omega) _ _ _ _).trans (Vs HKK.out.1 _ _ _ _)) rfl (Vs ((Zw (by omega) _ _ _ _).trans HKK.out.2) _ _ _ _) Tryz.underlying28 rfl rfl rfl _ rfl
 ·exact ZL (ZL (HB.out.trans (HV.out.mono HB.out.size)) (by omega) _ _ _ _) (by omega) _ _ _ _)
 subst h0
 clear fp fq p0 p1 p2 p3 q0 q1 q2 q3 k1 k2
 obtain⟨-,hcl,hce,hml,hme⟩:=Sch.check_is.1 HEC.out
 have HV1:=Hd (HB.out.trans (HV.out.mono HB.out.size))
 have HSL:Hid (∀W,Below w.heap.size w W→Calls Tryz.prog 43 #[.iface 74 (.pointer a),.int .i64 s.lv,.slice A1 n1 c1] W fun e w'=> ∃A1 n1 c1 A2 n2 c2 A3 n3 c3 x,e= .returned (.tuple #[slvV (.iface 74 (.pointer a)) A1 n1 c1 A2 n2 c2 A3 n3 c3,.int .i64 x])∧Below W.heap.size W w'∧
    ((x=10∧Qg S s.lv s.l)∨(x=0∧ ∃(q:Nat) (lo hi:List Nat),s.lv=(q:Int)∧Got S q s.l lo hi∧Ut w' S q lo hi (rcB q s.l) (.iface 74 (.pointer a)) A1 n1 c1 A2 n2 c2 A3 n3 c3))):=Hd fun W hW=>
  Rq _ s.lv A1 n1 c1 s.l S W HOS.out (HBO.out.sl.keep hW) (HSA.out.keep hW).l HSA.out.lf hcl
 have HSE:Hid (∀W,Below w.heap.size w W→Calls Tryz.prog 43 #[.iface 77 (.pointer b),.int .i64 s.ev,.slice A2 n2 c2] W fun e w'=> ∃A1 n1 c1 A2 n2 c2 A3 n3 c3 x,e= .returned (.tuple #[slvV (.iface 77 (.pointer b)) A1 n1 c1 A2 n2 c2 A3 n3 c3,.int .i64 x])∧Below W.heap.size W w'∧
    ((x=10∧Qg X s.ev s.e)∨(x=0∧ ∃(q:Nat) (lo hi:List Nat),s.ev=(q:Int)∧Got X q s.e lo hi∧Ut w' X q lo hi (rcB q s.e) (.iface 77 (.pointer b)) A1 n1 c1 A2 n2 c2 A3 n3 c3))):=Hd fun W hW=>
  Rq _ s.ev A2 n2 c2 s.e X W HOX.out (HBO.out.sx.keep hW) (HSA.out.keep hW).e HSA.out.ef hce
 have HML:=Hd hml
 have HME:=Hd hme
 clear hcl hce hml hme HB
 have hz:=HZ.out.keep HV.out
 have hz0:=hz.z0
 have hz3:=hz.z3
 clear hz
 go_wp2_with fail
 refine(HSL.out _ HV1.out).mono ?_
 rintro e w2 ⟨B1,m1,d1,B2,m2,d2,B3,m3,d3,xl,rfl,hv,hrl⟩
 have HRL:=Hd hrl
 have HV2:=Hd (HV.out.trans (hv.mono HV.out.size))
 have HW2:=Hd (HV1.out.trans (hv.mono HV1.out.size))
 have HUW2:=Hd HV2.out.size
 clear hrl hv hz0 hz3 HSL
 have hal:Below w2.heap.size w2 (w2.alloc (.cells #[.iface 74 (.pointer a),.slice B1 m1 d1,.slice B2 m2 d2,.slice B3 m3 d3] 100)):=bA
 have hnew:=heap_alloc_new w2 (.cells #[.iface 74 (.pointer a),.slice B1 m1 d1,.slice B2 m2 d2,.slice B3 m3 d3] 100)
 have HVA:=Hd (HV2.out.trans (hal.mono HV2.out.size))
 have HWA:=Hd (HW2.out.trans (hal.mono HW2.out.size))
 have hz:=HZ.out.keep HVA.out
 have hz1:=hz.z1
 have hz4:=hz.z4
 have HAL:=Hd hal
 have HNEW:=Hd hnew
 have hcall:=HSE.out _ HWA.out
 have HCALL:=Hd hcall
 clear hz hal hnew hcall HSE HV HV1 HV2 HW2
 unfold slvV
 go_wp2_with fail
 refine HCALL.out.mono ?_
 rintro e w3 ⟨C1,k1',f1,C2,k2',f2,C3,k3,f3,xe,rfl,hv,hre⟩
 clear HCALL hz1 hz4
 have HRE:=Hd hre
 have HV3:=Hd (HVA.out.trans (hv.mono HVA.out.size))
 have HW3:=Hd (HWA.out.trans (hv.mono HWA.out.size))
 have HN3:=Hd ((hv.block _ (Zh HNEW.out)).trans HNEW.out)
 have HL3:Hid (Below w2.heap.size w2 w3):=Hd (HAL.out.trans (hv.mono HAL.out.size))
 clear hre hv HVA HWA HNEW HAL
 have hal:Below w3.heap.size w3 (w3.alloc (.cells #[.iface 77 (.pointer b),.slice C1 k1' f1,.slice C2 k2' f2,.slice C3 k3 f3] 100)):=bA
 have hnew:=heap_alloc_new w3 (.cells #[.iface 77 (.pointer b),.slice C1 k1' f1,.slice C2 k2' f2,.slice C3 k3 f3] 100)
 obtain⟨wc,hwc⟩: ∃wc,w3.alloc (.cells #[.iface 77 (.pointer b),.slice C1 k1' f1,.slice C2 k2' f2,.slice C3 k3 f3] 100)=wc:=⟨_,rfl⟩
 rw[hwc] at hal hnew
 have hal2:Below wc.heap.size wc (wc.alloc (.cells #[.int .i64 xl,.int .i64 xe] 51)):=bA
 have hn:=heap_alloc_new wc (.cells #[.int .i64 xl,.int .i64 xe] 51)
 have hor:=Zfm wc.heap.size xl xe _ ((Zb (i:=0) hn).trans rfl) ((Zb (i:=1) hn).trans rfl)
 obtain⟨wd,hwd⟩: ∃wd,wc.alloc (.cells #[.int .i64 xl,.int .i64 xe] 51)=wd:=⟨_,rfl⟩
 rw[hwd] at hal2 hn hor
 have hall:=hal.trans (hal2.mono hal.size)
 have HVD:=Hd (HV3.out.trans (hall.mono HV3.out.size))
 have HWD:=Hd (HW3.out.trans (hall.mono HW3.out.size))
 have HND:=Hd ((hall.block _ (Zh HN3.out)).trans HN3.out)
 have HNE:=Hd ((hal2.block _ (Zh hnew)).trans hnew)
 have HD3:=Hd hall
 have HD2:=Hd (HL3.out.trans (hall.mono HL3.out.size))
 have HSLT:Hid (w2.heap.size < w3.heap.size):=Hd (Zh HN3.out)
 have HWS:Hid (wc.heap.size=w3.heap.size+1):=Hd (by rw[← hwc,World.size_alloc])
 clear hal hnew hal2 hn hall HV3 HW3 HN3
 have HOR:=Hd hor
 clear hor
 obtain⟨r,hr⟩: ∃r,orE xl xe=r:=⟨_,rfl⟩
 rw[hr] at HOR
 have hcase:(r=10∧(Qg S s.lv s.l∨Qg X s.ev s.e))∨(r=0∧(∃(q:Nat) (lo hi:List Nat),s.lv=(q:Int)∧Got S q s.l lo hi∧Ut w2 S q lo hi (rcB q s.l) (.iface 74 (.pointer a)) B1 m1 d1 B2 m2 d2 B3 m3 d3)∧(∃(q:Nat) (lo hi:List Nat),s.ev=(q:Int)∧Got X q s.e lo hi∧Ut w3 X q lo hi (rcB q s.e) (.iface 77 (.pointer b)) C1 k1' f1 C2 k2' f2 C3 k3 f3)):=by(
 subst hr
 rcases HRL.out with⟨rfl,h1⟩|⟨rfl,h1⟩
 ·exact .inl ⟨rfl,.inl h1⟩
 ·rcases HRE.out with⟨rfl,h2⟩|⟨rfl,h2⟩
  ·exact .inl ⟨rfl,.inr h2⟩
  ·exact .inr ⟨rfl,h1,h2⟩)
 have HCASE:=Hd hcase
 clear hcase hr HRL HRE
 unfold slvV
 go_wp2_with fail
 clear hwc hwd
 refine HOR.out.mono ?_
 rintro e w5 ⟨rfl,rfl⟩
 clear HOR
 have k1:=(HVD.out.block _ (Zh HK1.out)).trans HK1.out
 have k2:=(HVD.out.block _ (Zh HK2.out)).trans HK2.out
 rcases HCASE.out with⟨rfl,hno⟩|⟨rfl,⟨ql,lo,hi,hkl,hgl,hsl⟩,qe,lo',hi',hke,hge,hse⟩
 ·(
 have p0:=(Zb (i:=0) k1).trans rfl
 have p1:=(Zb (i:=1) k1).trans rfl
 have p2:=(Zb (i:=2) k1).trans rfl
 have p3:=(Zb (i:=3) k1).trans rfl
 have q0:=(Zb (i:=0) k2).trans rfl
 have q1:=(Zb (i:=1) k2).trans rfl
 have q2:=(Zb (i:=2) k2).trans rfl
 have q3:=(Zb (i:=3) k2).trans rfl
 have fp0:wd.frozen? ⟨w.heap.size+1,0,none⟩=false:=Zc k1
 have fp1:wd.frozen? ⟨w.heap.size+1,1,none⟩=false:=Zc k1
 have fp2:wd.frozen? ⟨w.heap.size+1,2,none⟩=false:=Zc k1
 have fp3:wd.frozen? ⟨w.heap.size+1,3,none⟩=false:=Zc k1
 have fq0:wd.frozen? ⟨w.heap.size+1+1,0,none⟩=false:=Zc k2
 have fq1:wd.frozen? ⟨w.heap.size+1+1,1,none⟩=false:=Zc k2
 have fq2:wd.frozen? ⟨w.heap.size+1+1,2,none⟩=false:=Zc k2
 have fq3:wd.frozen? ⟨w.heap.size+1+1,3,none⟩=false:=Zc k2
 have HKK:=Hd (And.intro k1 k2)
 have HNO:=Hd hno
 clear k1 k2 hno HCASE
 go_wp2_with fail
 refine bodyPost_ret (v:= .tuple #[Q4.v Q4.nil,Q4.v Q4.nil,.int .i64 10]) ?_ rfl ⟨10,Q4.nil,Q4.nil,rfl,.inl ⟨by decide,rfl,rfl,.inr ⟨HEC.out,rfl,HNO.out⟩⟩,?_⟩
 ·exact Yc (P:=Tryz.prog) rfl _ _ (w.heap.size+1) (w.heap.size+1+1) 28 _ _ (0,0) (0,0) _ rfl ((Zw (by omega) _ _ _ _).trans (Vs HKK.out.1 _ _ _ _)) rfl (Vs ((Zw (by omega) _ _ _ _).trans HKK.out.2) _ _ _ _) Tryz.underlying28 rfl rfl rfl _ rfl
 ·exact ZL (ZL HWD.out (by omega) _ _ _ _) (by omega) _ _ _ _)
 have HKK:=Hd (And.intro k1 k2)
 have HGL:=Hd (show OfOk S X s ql qe lo hi lo' hi' from⟨HEC.out,hkl,hke,hgl,hge⟩)
 have HSVL:Hid (∀W,Below wd.heap.size wd W→Ut W S ql lo hi (rcB ql s.l) (.iface 74 (.pointer a)) B1 m1 d1 B2 m2 d2 B3 m3 d3):=Hd fun W hW=>hsl.keep (HD2.out.trans (hW.mono HD2.out.size))
 have HSVE:Hid (∀W,Below wd.heap.size wd W→Ut W X qe lo' hi' (rcB qe s.e) (.iface 77 (.pointer b)) C1 k1' f1 C2 k2' f2 C3 k3 f3):=Hd fun W hW=>hse.keep (HD3.out.trans (hW.mono HD3.out.size))
 obtain⟨kl,hkl'⟩: ∃k,(labB s.b).length=k:=⟨_,rfl⟩
 obtain⟨ke,hke'⟩: ∃k,(effB s.b).length=k:=⟨_,rfl⟩
 have HKL:=Hd (show kl≤256 by rw[← hkl'];exact Zae s.b)
 have HKE:=Hd (show ke≤256 by rw[← hke'];exact Nat.le_trans (Zaf s.b) (by decide))
 have hcall:=Zjo A n c s.b _ _ kl ke wd (HSA.out.keep HWD.out).b HSA.out.bf rfl rfl hkl' hke'
 have HUL:=Hd (ZdA HSA.out.bt)
 have HUE:=Hd (ZdB HSA.out.bt)
 have HOKL:=Hd (HBO.out.sl.lab hkl HML.out)
 have HOKE:=Hd (HBO.out.sx.lab hke HME.out)
 have hz2:=(HZ.out.keep HVD.out).z2
 clear k1 k2 HCASE hkl hke hgl hge hsl hse hkl' hke'
 have HCALL:=Hd hcall
 clear hcall
 go_wp2_with fail
 refine HCALL.out.mono ?_
 rintro e w6 ⟨E1,g1,E2,g2,rfl,hT⟩
 clear HCALL hz2
 have HT:=Hd hT
 have hv:=hT.bel
 have HV6:=Hd (HVD.out.trans (hv.mono HVD.out.size))
 have HW6:=Hd (HWD.out.trans (hv.mono HWD.out.size))
 have HX6:=Hd hv
 have HS6:Hid (w6.heap[w2.heap.size]?=some (.cells #[.iface 74 (.pointer a),.slice B1 m1 d1,.slice B2 m2 d2,.slice B3 m3 d3] 100 (0,0))∧w6.heap[w3.heap.size]?=some (.cells #[.iface 77 (.pointer b),.slice C1 k1' f1,.slice C2 k2' f2,.slice C3 k3 f3] 100 (0,0))):=Hd ⟨(hv.block _ (Zh HND.out)).trans HND.out,(hv.block _ (Zh HNE.out)).trans HNE.out⟩
 have HKP:Hid (∀W W',Below W.heap.size W W'→W.heap[w2.heap.size]?=some (.cells #[.iface 74 (.pointer a),.slice B1 m1 d1,.slice B2 m2 d2,.slice B3 m3 d3] 100 (0,0))∧W.heap[w3.heap.size]?=some (.cells #[.iface 77 (.pointer b),.slice C1 k1' f1,.slice C2 k2' f2,.slice C3 k3 f3] 100 (0,0))→W'.heap[w2.heap.size]?=some (.cells #[.iface 74 (.pointer a),.slice B1 m1 d1,.slice B2 m2 d2,.slice B3 m3 d3] 100 (0,0))∧W'.heap[w3.heap.size]?=some (.cells #[.iface 77 (.pointer b),.slice C1 k1' f1,.slice C2 k2' f2,.slice C3 k3 f3] 100 (0,0))):=Hd fun W W' hb ⟨h1,h2⟩=>⟨(hb.block _ (Zh h1)).trans h1,(hb.block _ (Zh h2)).trans h2⟩
 clear hv hT HVD HWD HND HNE HD3 HD2
 go_wp2_with fail
 refine wro [0,1,3,4,2,5,6,7,8] [2,5,6,7] 9 (fun w'=>w'.heap[w2.heap.size]?=some (.cells #[.iface 74 (.pointer a),.slice B1 m1 d1,.slice B2 m2 d2,.slice B3 m3 d3] 100 (0,0))∧w'.heap[w3.heap.size]?=some (.cells #[.iface 77 (.pointer b),.slice C1 k1' f1,.slice C2 k2' f2,.slice C3 k3 f3] 100 (0,0))) (by kernel_rfl) (fun _ _ _ _ _ h=>h) (HKP.out _ _ (Below.refl _ _).drew HS6.out) ?_
 simp only[steps,sE,sD]
 repeat((first|refine Zf rfl ?_|(refine Zd (v:= ?_) rfl rfl ?_ ?_;rotate_left;(focus(rintro w' ⟨y0,y1⟩;have x0:=(Zb (i:=0) y0).trans rfl;have x1:=(Zb (i:=1) y0).trans rfl;have x2:=(Zb (i:=2) y0).trans rfl;have x3:=(Zb (i:=3) y0).trans rfl;have x4:=(Zb (i:=0) y1).trans rfl;have x5:=(Zb (i:=1) y1).trans rfl;have x6:=(Zb (i:=2) y1).trans rfl;have x7:=(Zb (i:=3) y1).trans rfl;go_simp;try with_reducible rfl))));simp only[Act.put,sA,sB,sC])
 have hv:=(Below.refl w6.heap.size w6).drew
 have HS7:=Hd (HKP.out _ _ hv HS6.out)
 have HV7:=Hd (HV6.out.trans (hv.mono HV6.out.size))
 have HW7:=Hd (HW6.out.trans (hv.mono HW6.out.size))
 have HX7:=Hd (HX6.out.trans (hv.mono HX6.out.size))
 have HXW:Hid (u.heap.size≤w6.drew.heap.size):=Hd HV7.out.size
 have HR1:=Hd (HT.out.r1.at_size lR hv)
 have HR2:=Hd (HT.out.r2.at_size lR hv)
 clear hv HS6 HV6 HW6 HX6 HT
 generalize w6.drew=w7 at*
 refine Ze rfl rfl (fun K hK=> ?_)
 go_simp
 refine(ZbI (labB s.b) E1 kl g1 S ql lo hi (rcB ql s.l) _ B1 m1 d1 B2 m2 d2 B3 m3 d3 w7 (HSVL.out _ HX7.out) HR1.out HUL.out HOKL.out HKL.out).mono ?_
 rintro e w8 ⟨F1,a1,j1,F2,a2,j2,F3,a3,j3,F4,a4,j4,rfl,hmade,hsame,hv⟩
 have HMA:=Hd hmade
 have HSM:=Hd hsame
 have HB8:=Hd hv
 have HS8:=Hd (HKP.out _ _ hv HS7.out)
 have HV8:=Hd (HV7.out.trans (hv.mono HV7.out.size))
 have HW8:=Hd (HW7.out.trans (hv.mono HW7.out.size))
 have HX8:=Hd (HX7.out.trans (hv.mono HX7.out.size))
 have HR18:=Hd (HR1.out.at_size lR hv)
 have HR28:=Hd (HR2.out.at_size lR hv)
 clear hmade hsame hv HS7 HV7 HX7 HR1 HR2
 refine hK.out _ _ (fun _=>HS8.out) ?_
 clear hK K
 try simp only[Act.put,sA,sB,sC]
 repeat((first|refine Zf rfl ?_|(refine Zd (v:= ?_) rfl rfl ?_ ?_;rotate_left;(focus(rintro w' ⟨y0,y1⟩;have x0:=(Zb (i:=0) y0).trans rfl;have x1:=(Zb (i:=1) y0).trans rfl;have x2:=(Zb (i:=2) y0).trans rfl;have x3:=(Zb (i:=3) y0).trans rfl;have x4:=(Zb (i:=0) y1).trans rfl;have x5:=(Zb (i:=1) y1).trans rfl;have x6:=(Zb (i:=2) y1).trans rfl;have x7:=(Zb (i:=3) y1).trans rfl;go_simp;try with_reducible rfl))));simp only[Act.put,sA,sB,sC])
 refine Ze rfl rfl (fun K hK=> ?_)
 go_simp
 refine(ZbI (effB s.b) E2 ke g2 X qe lo' hi' (rcB qe s.e) _ C1 k1' f1 C2 k2' f2 C3 k3 f3 w8 (HSVE.out _ HX8.out) HR28.out HUE.out HOKE.out HKE.out).mono ?_
 rintro e w9 ⟨G1,b1,l1,G2,b2,l2,G3,b3,l3,G4,b4,l4,rfl,hmade,hsame,hv⟩
 have HMB:=Hd hmade
 have HSN:=Hd hsame
 have HB9:=Hd hv
 have HS9:=Hd (HKP.out _ _ hv HS8.out)
 have HV9:=Hd (HV8.out.trans (hv.mono HV8.out.size))
 have HW9:=Hd (HW8.out.trans (hv.mono HW8.out.size))
 have HR19:=Hd (HR18.out.at_size lR hv)
 have HR29:=Hd (HR28.out.at_size lR hv)
 clear hmade hsame hv HS8 HV8 HX8 HR18 HR28
 refine hK.out _ _ (fun _=>HS9.out) ?_
 clear hK K
 try simp only[Act.put,sA,sB,sC]
 repeat((first|refine Zf rfl ?_|(refine Zd (v:= ?_) rfl rfl ?_ ?_;rotate_left;(focus(rintro w' ⟨y0,y1⟩;have x0:=(Zb (i:=0) y0).trans rfl;have x1:=(Zb (i:=1) y0).trans rfl;have x2:=(Zb (i:=2) y0).trans rfl;have x3:=(Zb (i:=3) y0).trans rfl;have x4:=(Zb (i:=0) y1).trans rfl;have x5:=(Zb (i:=1) y1).trans rfl;have x6:=(Zb (i:=2) y1).trans rfl;have x7:=(Zb (i:=3) y1).trans rfl;go_simp;try with_reducible rfl))));simp only[Act.put,sA,sB,sC])
 unfold senV
 have k1:=(HV9.out.block _ (Zh HK1.out)).trans HK1.out
 have k2:=(HV9.out.block _ (Zh HK2.out)).trans HK2.out
 have p0:=(Zb (i:=0) k1).trans rfl
 have p1:=(Zb (i:=1) k1).trans rfl
 have p2:=(Zb (i:=2) k1).trans rfl
 have p3:=(Zb (i:=3) k1).trans rfl
 have fp0:w9.frozen? ⟨w.heap.size+1,0,none⟩=false:=Zc k1
 have fp1:w9.frozen? ⟨w.heap.size+1,1,none⟩=false:=Zc k1
 have fp2:w9.frozen? ⟨w.heap.size+1,2,none⟩=false:=Zc k1
 have fp3:w9.frozen? ⟨w.heap.size+1,3,none⟩=false:=Zc k1
 have HK19:=Hd k1
 have HK29:=Hd k2
 have HSZ:Hid (u.heap.size≤w2.heap.size∧u.heap.size≤w3.heap.size):=Hd ⟨HUW2.out,Nat.le_trans HUW2.out (Nat.le_of_lt HSLT.out)⟩
 clear k1 k2
 refine Ze rfl rfl (fun K hK=> ?_)
 go_simp
 have hsz:=HSZ.out
 have hsu:=HSU.out
 refine hK.out _ _ (fun _=>⟨(Zw (by omega) _ _ _ _).trans HS9.out.1,(Zw (by omega) _ _ _ _).trans HS9.out.2⟩) ?_
 clear hK K p0 p1 p2 p3 fp0 fp1 fp2 fp3 hsz hsu
 try simp only[Act.put,sA,sB,sC]
 repeat((first|refine Zf rfl ?_|(refine Zd (v:= ?_) rfl rfl ?_ ?_;rotate_left;(focus(rintro w' ⟨y0,y1⟩;have x0:=(Zb (i:=0) y0).trans rfl;have x1:=(Zb (i:=1) y0).trans rfl;have x2:=(Zb (i:=2) y0).trans rfl;have x3:=(Zb (i:=3) y0).trans rfl;have x4:=(Zb (i:=0) y1).trans rfl;have x5:=(Zb (i:=1) y1).trans rfl;have x6:=(Zb (i:=2) y1).trans rfl;have x7:=(Zb (i:=3) y1).trans rfl;go_simp;try with_reducible rfl))));simp only[Act.put,sA,sB,sC])
 obtain⟨ws,hws⟩: ∃ws,(((w9.setCell ⟨w.heap.size+1,0,none⟩ (.slice F1 a1 j1)).setCell ⟨w.heap.size+1,1,none⟩ (.slice F2 a2 j2)).setCell ⟨w.heap.size+1,2,none⟩ (.slice F3 a3 j3)).setCell ⟨w.heap.size+1,3,none⟩ (.slice F4 a4 j4)=ws:=⟨_,rfl⟩
 have k2s:ws.heap[w.heap.size+1+1]?=some (.cells #[.slice none 0 0,.slice none 0 0,.slice none 0 0,.slice none 0 0] 28 (0,0)):=by
  rw[← hws]
  exact(Zw (by omega) (.slice F1 a1 j1) (.slice F2 a2 j2) (.slice F3 a3 j3) (.slice F4 a4 j4)).trans HK29.out
 have k1s:ws.heap[w.heap.size+1]?=some (.cells #[.slice F1 a1 j1,.slice F2 a2 j2,.slice F3 a3 j3,.slice F4 a4 j4] 28 (0,0)):=by
  rw[← hws]
  exact Vs HK19.out (.slice F1 a1 j1) (.slice F2 a2 j2) (.slice F3 a3 j3) (.slice F4 a4 j4)
 have hfar: ∀k,k≠w.heap.size+1→ws.heap[k]?=w9.heap[k]?:=fun k hk=>by
  rw[← hws]
  exact Zw hk (.slice F1 a1 j1) (.slice F2 a2 j2) (.slice F3 a3 j3) (.slice F4 a4 j4)
 have hsize:ws.heap.size=w9.heap.size:=by
  rw[← hws,World.size_setCell,World.size_setCell,World.size_setCell,World.size_setCell]
 have hbs:Below w.heap.size w ws:=by
  rw[← hws]
  exact ZL (g:=w.heap.size+1) HW9.out (by omega) (.slice F1 a1 j1) (.slice F2 a2 j2) (.slice F3 a3 j3) (.slice F4 a4 j4)
 rw[hws]
 have HSS:Hid (ws.heap[w2.heap.size]?=some (.cells #[.iface 74 (.pointer a),.slice B1 m1 d1,.slice B2 m2 d2,.slice B3 m3 d3] 100 (0,0))∧ws.heap[w3.heap.size]?=some (.cells #[.iface 77 (.pointer b),.slice C1 k1' f1,.slice C2 k2' f2,.slice C3 k3 f3] 100 (0,0))):=Hd (by
 have:=HSZ.out
 have:=HSU.out
 exact⟨(hfar _ (by omega)).trans HS9.out.1,(hfar _ (by omega)).trans HS9.out.2⟩)
 have HK1S:=Hd k1s
 have HK2S:=Hd k2s
 have HFAR:=Hd hfar
 have HSIZE:=Hd hsize
 have HBS:=Hd hbs
 have q0:=(Zb (i:=0) k2s).trans rfl
 have q1:=(Zb (i:=1) k2s).trans rfl
 have q2:=(Zb (i:=2) k2s).trans rfl
 have q3:=(Zb (i:=3) k2s).trans rfl
 have fq0:ws.frozen? ⟨w.heap.size+1+1,0,none⟩=false:=Zc k2s
 have fq1:ws.frozen? ⟨w.heap.size+1+1,1,none⟩=false:=Zc k2s
 have fq2:ws.frozen? ⟨w.heap.size+1+1,2,none⟩=false:=Zc k2s
 have fq3:ws.frozen? ⟨w.heap.size+1+1,3,none⟩=false:=Zc k2s
 clear hws k1s k2s hfar hsize hbs
 refine Ze rfl rfl (fun K hK=> ?_)
 go_simp
 have hsz:=HSZ.out
 have hsu:=HSU.out
 refine hK.out _ _ (fun _=>⟨(Zw (by omega) _ _ _ _).trans HSS.out.1,(Zw (by omega) _ _ _ _).trans HSS.out.2⟩) ?_
 clear hK K q0 q1 q2 q3 fq0 fq1 fq2 fq3 hsz hsu
 try simp only[Act.put,sA,sB,sC]
 repeat((first|refine Zf rfl ?_|(refine Zd (v:= ?_) rfl rfl ?_ ?_;rotate_left;(focus(rintro w' ⟨y0,y1⟩;have x0:=(Zb (i:=0) y0).trans rfl;have x1:=(Zb (i:=1) y0).trans rfl;have x2:=(Zb (i:=2) y0).trans rfl;have x3:=(Zb (i:=3) y0).trans rfl;have x4:=(Zb (i:=0) y1).trans rfl;have x5:=(Zb (i:=1) y1).trans rfl;have x6:=(Zb (i:=2) y1).trans rfl;have x7:=(Zb (i:=3) y1).trans rfl;go_simp;try with_reducible rfl))));simp only[Act.put,sA,sB,sC])
 refine Zg ?_
 go_wp2_with fail
 refine bodyPost_ret (v:= .tuple #[Q4.v ⟨F1,a1,j1,F2,a2,j2,F3,a3,j3,F4,a4,j4⟩,Q4.v ⟨G1,b1,l1,G2,b2,l2,G3,b3,l3,G4,b4,l4⟩,.int .i64 0]) ?_ rfl ⟨0,⟨F1,a1,j1,F2,a2,j2,F3,a3,j3,F4,a4,j4⟩,⟨G1,b1,l1,G2,b2,l2,G3,b3,l3,G4,b4,l4⟩,rfl,.inr ⟨rfl,ql,qe,lo,hi,lo',hi',HGL.out,?_,?_⟩,?_⟩
 ·exact Yc (P:=Tryz.prog) rfl _ _ (w.heap.size+1) (w.heap.size+1+1) 28 _ _ (0,0) (0,0) _ rfl ((Zw (by omega) _ _ _ _).trans HK1S.out) rfl (Vs HK2S.out _ _ _ _) Tryz.underlying28 rfl rfl rfl _ rfl
 ·(
 have hgo:=HGL.out
 have hm: ∀p∈labB s.b,may1 S (ql:Int) p=true:=by rw[← hgo.lv];exact HML.out
 refine Made.at' (Made.move (v0:=w) HMA.out (fun k o hk ho=> ?_) (ZL HBS.out (by omega) _ _ _ _) HW7.out.size fun hl=> ?_) HUL.out (fun p hp=>HOS.out.fit _ (hgo.gl.lowH (hm p hp))) fun p hp=>HOS.out.fit _ (hgo.gl.highH (hm p hp))
 ·have h1:=HSZ.out
  have h2:=HSU.out
  have h3:=HXW.out
  exact(Zw (by omega) _ _ _ _).trans ((HFAR.out _ (by omega)).trans ((HB9.out.block _ (Zh ho)).trans ho))
 ·obtain⟨rfl,rfl,rfl⟩:=HSM.out hl
  exact Rs.off2 (g:=w.heap.size+1) (g2:=w.heap.size+1+1) HR19.out (UX (x0:=(none,0,0)) (x1:=(none,0,0)) (x2:=(none,0,0)) (x3:=(none,0,0)) HK19.out) (UX (x0:=(none,0,0)) (x1:=(none,0,0)) (x2:=(none,0,0)) (x3:=(none,0,0)) HK29.out) (fun k _ h1 h2=>(Zw h2 _ _ _ _).trans (HFAR.out _ h1)) (by rw[World.size_setCell,World.size_setCell,World.size_setCell,World.size_setCell];exact Nat.le_of_eq HSIZE.out.symm))
 ·(
 have hgo:=HGL.out
 have hm: ∀p∈effB s.b,may1 X (qe:Int) p=true:=by rw[← hgo.ev];exact HME.out
 refine Made.at' (Made.move (v0:=w) HMB.out (fun k o hk ho=> ?_) (ZL HBS.out (by omega) _ _ _ _) HW8.out.size fun hl=> ?_) HUE.out (fun p hp=>HOX.out.fit _ (hgo.ge.lowH (hm p hp))) fun p hp=>HOX.out.fit _ (hgo.ge.highH (hm p hp))
 ·(
 have h1:=HSZ.out
 have h2:=HSU.out
 have h3:=HXW.out
 have h4:=HB8.out.size
 exact(Zw (by omega) _ _ _ _).trans ((HFAR.out _ (by omega)).trans ho))
 ·obtain⟨rfl,rfl,rfl⟩:=HSN.out hl
  exact Rs.off2 (g:=w.heap.size+1) (g2:=w.heap.size+1+1) HR29.out (UX (x0:=(none,0,0)) (x1:=(none,0,0)) (x2:=(none,0,0)) (x3:=(none,0,0)) HK19.out) (UX (x0:=(none,0,0)) (x1:=(none,0,0)) (x2:=(none,0,0)) (x3:=(none,0,0)) HK29.out) (fun k _ h1 h2=>(Zw h2 _ _ _ _).trans (HFAR.out _ h1)) (by rw[World.size_setCell,World.size_setCell,World.size_setCell,World.size_setCell];exact Nat.le_of_eq HSIZE.out.symm))
 ·exact ZL HBS.out (by omega) _ _ _ _
end Go.Proofs.YtmejhedegmjboaaGreat
