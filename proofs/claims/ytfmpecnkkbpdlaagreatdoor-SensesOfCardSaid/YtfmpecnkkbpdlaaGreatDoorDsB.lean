import Derived.Test.YtfmpecnkkbpdlaaGreatDoorBel
import Derived.Test.YtfmpecnkkbpdlaaGreatDoorBoRefV
set_option maxRecDepth 100000
set_option maxHeartbeats 4000000
namespace Go.Proofs.YtfmpecnkkbpdlaaGreatDoor
open Go.RowKit
def dsV (t:Nat)(A:Option Addr)(n c m:Nat)(A1:Option Addr)(n1 c1:Nat)(A2:Option Addr)(n2 c2:Nat)(A3:Option Addr)(n3 c3:Nat):Value:= .agg #[.int .i64 (t:Int),.slice A n c,.int .i64 (m:Int),.slice A1 n1 c1,.slice A2 n2 c2,.slice A3 n3 c3]
structure DsAt (w:World)(S:Bo.Sr)(q:Nat)(lo hi:List Nat)(rc:Nat→Nat→Bool)(t:Nat)(A:Option Addr)(n c m:Nat)(A1:Option Addr)(n1 c1:Nat)(A2:Option Addr)(n2 c2:Nat)(A3:Option Addr)(n3 c3:Nat):Prop where
 s:Bo.RSrt w.heap.size w t A n c m S
 l:Rd La.nm w w.heap.size A1 n1 c1 lo
 h:Rd La.nm w w.heap.size A2 n2 c2 hi
 r:Z8 w w.heap.size A3 n3 c3 (sqL q rc)
 ll:lo.length=q
 hl:hi.length=q
 fl:La.Fit lo
 fh:La.Fit hi
 q64:q≤64
theorem DsAt.keep {w W:World}{S:Bo.Sr}{q:Nat}{lo hi:List Nat}{rc:Nat→Nat→Bool}{t:Nat}{A:Option Addr}{n c m:Nat}{A1:Option Addr}{n1 c1:Nat}{A2:Option Addr}{n2 c2:Nat}{A3:Option Addr}{n3 c3:Nat}(h:DsAt w S q lo hi rc t A n c m A1 n1 c1 A2 n2 c2 A3 n3 c3)(hb:Below w.heap.size w W):DsAt W S q lo hi rc t A n c m A1 n1 c1 A2 n2 c2 A3 n3 c3:=
 ⟨h.s.keep hb,h.l.at_size lR hb,h.h.at_size lR hb,h.r.at_size lR hb,h.ll,h.hl,h.fl,h.fh,h.q64⟩
structure D6 (w:World)(g t:Nat)(A:Option Addr)(n c m:Nat)(A1:Option Addr)(n1 c1:Nat)(A2:Option Addr)(n2 c2:Nat)(A3:Option Addr)(n3 c3:Nat):Prop where
 s0:w.cell? ⟨g,0,none⟩=some (.int .i64 (t:Int))
 s1:w.cell? ⟨g,1,none⟩=some (.slice A n c)
 s2:w.cell? ⟨g,2,none⟩=some (.int .i64 (m:Int))
 s3:w.cell? ⟨g,3,none⟩=some (.slice A1 n1 c1)
 s4:w.cell? ⟨g,4,none⟩=some (.slice A2 n2 c2)
 s5:w.cell? ⟨g,5,none⟩=some (.slice A3 n3 c3)
theorem D6.keep {w W:World}{g t:Nat}{A:Option Addr}{n c m:Nat}{A1:Option Addr}{n1 c1:Nat}{A2:Option Addr}{n2 c2:Nat}{A3:Option Addr}{n3 c3:Nat}(h:D6 w g t A n c m A1 n1 c1 A2 n2 c2 A3 n3 c3)(hb:Below w.heap.size w W):D6 W g t A n c m A1 n1 c1 A2 n2 c2 A3 n3 c3:=
 ⟨Zc h.s0 hb,Zc h.s1 hb,Zc h.s2 hb,Zc h.s3 hb,Zc h.s4 hb,Zc h.s5 hb⟩
theorem D6.blk {w:World}{g t:Nat}{A:Option Addr}{n c m:Nat}{A1:Option Addr}{n1 c1:Nat}{A2:Option Addr}{n2 c2:Nat}{A3:Option Addr}{n3 c3:Nat}(h:w.heap[g]?=some (.cells #[.int .i64 (t:Int),.slice A n c,.int .i64 (m:Int),.slice A1 n1 c1,.slice A2 n2 c2,.slice A3 n3 c3] 101 (0,0))):D6 w g t A n c m A1 n1 c1 A2 n2 c2 A3 n3 c3:=
 ⟨(Za (i:=0) h).trans rfl,(Za (i:=1) h).trans rfl,(Za (i:=2) h).trans rfl,(Za (i:=3) h).trans rfl,(Za (i:=4) h).trans rfl,(Za (i:=5) h).trans rfl⟩
theorem bel2 (w:World)(o o':Obj):Below w.heap.size w ((w.alloc o).alloc o'):=(bA).alloc (by simp) _
theorem blk2 (w:World)(cs cs':Array Value)(T T':TypeId):((w.alloc (.cells cs T)).alloc (.cells cs' T')).heap[w.heap.size]?=some (.cells cs T (0,0))∧((w.alloc (.cells cs T)).alloc (.cells cs' T')).heap[w.heap.size+1]?=some (.cells cs' T' (0,0)):=by
 refine⟨(Below.heap_alloc _ _ _ (by simp)).trans (heap_alloc_new w _),?_⟩
 have:=heap_alloc_new (w.alloc (.cells cs T)) (.cells cs' T')
 rwa [World.size_alloc] at this
theorem YE (v:Bool)(z:Nat)(S:Bo.Sr)(q:Nat)(lo hi:List Nat)(rc:Nat→Nat→Bool)(t:Nat)(A:Option Addr)(n c m:Nat)(A1:Option Addr)(n1 c1:Nat)(A2:Option Addr)(n2 c2:Nat)(A3:Option Addr)(n3 c3:Nat)(w:World)(h:DsAt w S q lo hi rc t A n c m A1 n1 c1 A2 n2 c2 A3 n3 c3)(hv:okT q v z)(hz:z < 18446744073709551616)(r:Nat)(hr:Bo.vl lo v z=r):
  Calls Tryz.prog 121 #[dsV t A n c m A1 n1 c1 A2 n2 c2 A3 n3 c3,Bo.tmv v z] w fun e w'=>e= .returned (.int .u64 (r:Int))∧Below w.heap.size w w':=by
 unfold dsV Bo.tmv
 obtain⟨k0,k1⟩:=blk2 w #[.int .i64 (t:Int),.slice A n c,.int .i64 (m:Int),.slice A1 n1 c1,.slice A2 n2 c2,.slice A3 n3 c3] #[.bool v,.int .u64 (z:Int)] 101 74
 have hb:=bel2 w (.cells #[.int .i64 (t:Int),.slice A n c,.int .i64 (m:Int),.slice A1 n1 c1,.slice A2 n2 c2,.slice A3 n3 c3] 101) (.cells #[.bool v,.int .u64 (z:Int)] 74)
 have hd:=D6.blk k0
 have u0:=(Za (i:=0) k1).trans rfl
 have u1:=(Za (i:=1) k1).trans rfl
 have s3:=hd.s3
 have hl2:=h.l.at_size lR hb
 have hll:=h.ll
 have HB:=Hd hb
 clear k0 k1 hd h hb
 cases v with
 |false=>
  obtain rfl:z=r:=hr
  clear hl2 hll hv s3
  go_enter Tryz.func121,Tryz.ntmps121
  go_wp2
  go_ret
  exact⟨rfl,HB.out⟩
 |true=>
  have hzq:z < q:=hv rfl
  have hzl:z < lo.length:=by omega
  have hn1:z < n1:=by rw[← hl2.len];exact hzl
  obtain⟨b,o,rfl,-,hc⟩:=hl2.spot (by omega)
  have hc0:=hc z hzl
  have he:lo[z]=r:=by
   rw[← hr]
   show lo[z]=lo.getD z 0
   rw[List.getD_eq_getElem?_getD,List.getElem?_eq_getElem hzl]
   rfl
  rw[he] at hc0
  replace hc0:_=some (Value.int .u64 (r:Int)):=hc0
  have hin:(z:Int) < (n1:Int):=by omega
  clear hc hl2 hll hv hr he hzq hzl
  go_enter Tryz.func121,Tryz.ntmps121
  go_wp2
  go_ret
  exact⟨rfl,HB.out⟩
theorem Uc (v:Bool)(z:Nat)(S:Bo.Sr)(q:Nat)(lo hi:List Nat)(rc:Nat→Nat→Bool)(t:Nat)(A:Option Addr)(n c m:Nat)(A1:Option Addr)(n1 c1:Nat)(A2:Option Addr)(n2 c2:Nat)(A3:Option Addr)(n3 c3:Nat)(w:World)(h:DsAt w S q lo hi rc t A n c m A1 n1 c1 A2 n2 c2 A3 n3 c3)(hv:okT q v z)(hz:z < 18446744073709551616)(r:Nat)(hr:Bo.vl hi v z=r):
  Calls Tryz.prog 123 #[dsV t A n c m A1 n1 c1 A2 n2 c2 A3 n3 c3,Bo.tmv v z] w fun e w'=>e= .returned (.int .u64 (r:Int))∧Below w.heap.size w w':=by
 unfold dsV Bo.tmv
 obtain⟨k0,k1⟩:=blk2 w #[.int .i64 (t:Int),.slice A n c,.int .i64 (m:Int),.slice A1 n1 c1,.slice A2 n2 c2,.slice A3 n3 c3] #[.bool v,.int .u64 (z:Int)] 101 74
 have hb:=bel2 w (.cells #[.int .i64 (t:Int),.slice A n c,.int .i64 (m:Int),.slice A1 n1 c1,.slice A2 n2 c2,.slice A3 n3 c3] 101) (.cells #[.bool v,.int .u64 (z:Int)] 74)
 have hd:=D6.blk k0
 have u0:=(Za (i:=0) k1).trans rfl
 have u1:=(Za (i:=1) k1).trans rfl
 have s4:=hd.s4
 have hl2:=h.h.at_size lR hb
 have hll:=h.hl
 have HB:=Hd hb
 clear k0 k1 hd h hb
 cases v with
 |false=>
  obtain rfl:z=r:=hr
  clear hl2 hll hv s4
  go_enter Tryz.func123,Tryz.ntmps123
  go_wp2
  go_ret
  exact⟨rfl,HB.out⟩
 |true=>
  have hzq:z < q:=hv rfl
  have hzl:z < hi.length:=by omega
  have hn1:z < n2:=by rw[← hl2.len];exact hzl
  obtain⟨b,o,rfl,-,hc⟩:=hl2.spot (by omega)
  have hc0:=hc z hzl
  have he:hi[z]=r:=by
   rw[← hr]
   show hi[z]=hi.getD z 0
   rw[List.getD_eq_getElem?_getD,List.getElem?_eq_getElem hzl]
   rfl
  rw[he] at hc0
  replace hc0:_=some (Value.int .u64 (r:Int)):=hc0
  have hin:(z:Int) < (n2:Int):=by omega
  clear hc hl2 hll hv hr he hzq hzl
  go_enter Tryz.func123,Tryz.ntmps123
  go_wp2
  go_ret
  exact⟨rfl,HB.out⟩
structure AlAt (w:World)(g t:Nat)(A:Option Addr)(n c m:Nat)(A1:Option Addr)(n1 c1:Nat)(A2:Option Addr)(n2 c2:Nat)(A3:Option Addr)(n3 c3:Nat)(av:Bool)(an:Nat)(bv:Bool)(bn:Nat):Prop where
 s0:w.cell? ⟨g,0,none⟩=some (.int .i64 (t:Int))
 s1:w.cell? ⟨g,1,none⟩=some (.slice A n c)
 s2:w.cell? ⟨g,2,none⟩=some (.int .i64 (m:Int))
 s3:w.cell? ⟨g,3,none⟩=some (.slice A1 n1 c1)
 s4:w.cell? ⟨g,4,none⟩=some (.slice A2 n2 c2)
 s5:w.cell? ⟨g,5,none⟩=some (.slice A3 n3 c3)
 a0:w.cell? ⟨g+1,0,none⟩=some (.bool av)
 a1:w.cell? ⟨g+1,1,none⟩=some (.int .u64 (an:Int))
 b0:w.cell? ⟨g+1+1,0,none⟩=some (.bool bv)
 b1:w.cell? ⟨g+1+1,1,none⟩=some (.int .u64 (bn:Int))
theorem AlAt.keep {w W:World}{g t:Nat}{A:Option Addr}{n c m:Nat}{A1:Option Addr}{n1 c1:Nat}{A2:Option Addr}{n2 c2:Nat}{A3:Option Addr}{n3 c3:Nat}{av:Bool}{an:Nat}{bv:Bool}{bn:Nat}(h:AlAt w g t A n c m A1 n1 c1 A2 n2 c2 A3 n3 c3 av an bv bn)(hb:Below w.heap.size w W):AlAt W g t A n c m A1 n1 c1 A2 n2 c2 A3 n3 c3 av an bv bn:=
 ⟨Zc h.s0 hb,Zc h.s1 hb,Zc h.s2 hb,Zc h.s3 hb,Zc h.s4 hb,Zc h.s5 hb,Zc h.a0 hb,Zc h.a1 hb,Zc h.b0 hb,Zc h.b1 hb⟩
theorem YQ {u:List Nat}{v:Bool}{z:Nat}(hu:La.Fit u)(hz:z < 18446744073709551616):Bo.vl u v z < 18446744073709551616:=by
 unfold Bo.vl
 cases v with
 |false=>exact hz
 |true=>
  show u.getD z 0 < _
  by_cases h:z < u.length
  ·rw[List.getD_eq_getElem?_getD,List.getElem?_eq_getElem h]
   exact hu _ (List.getElem_mem h)
  ·rw[List.getD_eq_getElem?_getD,List.getElem?_eq_none (by omega)]
   decide
theorem Zcg (av:Bool)(an:Nat)(bv:Bool)(bn:Nat)(S:Bo.Sr)(q:Nat)(lo hi:List Nat)(rc:Nat→Nat→Bool)(t:Nat)(A:Option Addr)(n c m:Nat)(A1:Option Addr)(n1 c1:Nat)(A2:Option Addr)(n2 c2:Nat)(A3:Option Addr)(n3 c3:Nat)(w:World)(h:DsAt w S q lo hi rc t A n c m A1 n1 c1 A2 n2 c2 A3 n3 c3)(ha:okT q av an)(hb':okT q bv bn)(fa:an < 18446744073709551616)(fb:bn < 18446744073709551616)(x:Bool)(hx:alwT S lo hi rc av an bv bn=x):
  Calls Tryz.prog 124 #[dsV t A n c m A1 n1 c1 A2 n2 c2 A3 n3 c3,Bo.tmv av an,Bo.tmv bv bn] w fun e w'=>e= .returned (.bool x)∧Below w.heap.size w w':=by
 unfold dsV Bo.tmv
 obtain⟨w1,hw1⟩: ∃x,w.alloc (.cells #[.int .i64 (t:Int),.slice A n c,.int .i64 (m:Int),.slice A1 n1 c1,.slice A2 n2 c2,.slice A3 n3 c3] 101)=x:=⟨_,rfl⟩
 obtain⟨w2,hw2⟩: ∃x,w1.alloc (.cells #[.bool av,.int .u64 (an:Int)] 74)=x:=⟨_,rfl⟩
 obtain⟨w3,hw3⟩: ∃x,w2.alloc (.cells #[.bool bv,.int .u64 (bn:Int)] 74)=x:=⟨_,rfl⟩
 have b0:Below w.heap.size w w1:=hw1▸bA
 have b1:Below w1.heap.size w1 w2:=hw2▸bA
 have b2:Below w2.heap.size w2 w3:=hw3▸bA
 have s1:w1.heap.size=w.heap.size+1:=by rw[← hw1,World.size_alloc]
 have s2:w2.heap.size=w.heap.size+1+1:=by rw[← hw2,World.size_alloc,s1]
 have b12:=b1.trans (b2.mono b1.size)
 have hb:=b0.trans (b12.mono b0.size)
 have k0:w1.heap[w.heap.size]?=some (.cells #[.int .i64 (t:Int),.slice A n c,.int .i64 (m:Int),.slice A1 n1 c1,.slice A2 n2 c2,.slice A3 n3 c3] 101 (0,0)):=hw1▸heap_alloc_new w _
 have k1:w2.heap[w.heap.size+1]?=some (.cells #[.bool av,.int .u64 (an:Int)] 74 (0,0)):=by rw[← s1, ← hw2];exact heap_alloc_new w1 _
 have k2:w3.heap[w.heap.size+1+1]?=some (.cells #[.bool bv,.int .u64 (bn:Int)] 74 (0,0)):=by rw[← s2, ← hw3];exact heap_alloc_new w2 _
 have hd:=(D6.blk k0).keep b12
 have u0:=Zc ((Za (i:=0) k1).trans rfl) b2
 have u1:=Zc ((Za (i:=1) k1).trans rfl) b2
 have hal:AlAt w3 w.heap.size t A n c m A1 n1 c1 A2 n2 c2 A3 n3 c3 av an bv bn:=⟨hd.s0,hd.s1,hd.s2,hd.s3,hd.s4,hd.s5,u0,u1,(Za (i:=0) k2).trans rfl,(Za (i:=1) k2).trans rfl⟩
 have HAL:Hid (∀W,Below w3.heap.size w3 W→AlAt W w.heap.size t A n c m A1 n1 c1 A2 n2 c2 A3 n3 c3 av an bv bn):=Hd fun W hW=>hal.keep hW
 have HB:=Hd hb
 obtain⟨gx,hgx⟩: ∃x,Bo.vl hi av an=x:=⟨_,rfl⟩
 obtain⟨gy,hgy⟩: ∃x,Bo.vl lo bv bn=x:=⟨_,rfl⟩
 obtain⟨gz,hgz⟩: ∃x,S.below gx gy=x:=⟨_,rfl⟩
 have fx:gx < 18446744073709551616:=hgx▸YQ h.fh fa
 have fy:gy < 18446744073709551616:=hgy▸YQ h.fl fb
 have HC1:Hid (∀W,Below w3.heap.size w3 W→Calls Tryz.prog 123 #[.agg #[.int .i64 (t:Int),.slice A n c,.int .i64 (m:Int),.slice A1 n1 c1,.slice A2 n2 c2,.slice A3 n3 c3],.agg #[.bool av,.int .u64 (an:Int)]] W fun e w'=>e= .returned (.int .u64 (gx:Int))∧Below W.heap.size W w'):=Hd fun W hW=>Uc av an S q lo hi rc t A n c m A1 n1 c1 A2 n2 c2 A3 n3 c3 W (h.keep (hb.trans (hW.mono hb.size))) ha fa gx hgx
 have HC2:Hid (∀W,Below w3.heap.size w3 W→Calls Tryz.prog 121 #[.agg #[.int .i64 (t:Int),.slice A n c,.int .i64 (m:Int),.slice A1 n1 c1,.slice A2 n2 c2,.slice A3 n3 c3],.agg #[.bool bv,.int .u64 (bn:Int)]] W fun e w'=>e= .returned (.int .u64 (gy:Int))∧Below W.heap.size W w'):=Hd fun W hW=>YE bv bn S q lo hi rc t A n c m A1 n1 c1 A2 n2 c2 A3 n3 c3 W (h.keep (hb.trans (hW.mono hb.size))) hb' fb gy hgy
 have HC3:Hid (∀W,Below w3.heap.size w3 W→Calls Tryz.prog 195 #[.agg #[.int .i64 (t:Int),.slice A n c,.int .i64 (m:Int)],.int .u64 (gx:Int),.int .u64 (gy:Int)] W fun e w'=>e= .returned (.bool gz)∧Below W.heap.size W w'):=Hd fun W hW=>hgz▸Bo.QZ t A n c m S gx gy W (h.s.keep (hb.trans (hW.mono hb.size))) fx fy
 have HX:Hid (x=((av && (bv && rc an bn))||gz)):=Hd (by rw[← hx, ← hgz, ← hgx, ← hgy];rfl)
 have hn3:(sqL q rc).length=n3:=h.r.len
 rw[Za5] at hn3
 have HR:=Hd (h.keep hb).r
 clear b0 b1 b2 s1 s2 b12 hb k0 k1 k2 hd u0 u1 hal hgx hgy hgz fx fy h hx
 subst hw1 hw2
 cases av with
 |false=>
  obtain rfl:x=gz:=HX.out
  go_enter Tryz.func124,Tryz.ntmps124
  go_wp2_with fail
  try rw[hw3]
  clear hw3
  refine wro [0,1,2,3,4,5,6,7,8,9,10,11,12,13,14,15,16,17,18,19,20,21,22,24,25,23,26,27,28,29] [23,26,27] 30 (fun W=>AlAt W w.heap.size t A n c m A1 n1 c1 A2 n2 c2 A3 n3 c3 false an bv bn) (by kernel_rfl) (fun _ _ _ _ _ h=>h) (HAL.out _ (Below.refl _ w3).drew) ?_
  simp only[steps,sE,sD]
  repeat((first|refine Zg rfl ?_|(refine Zf (v:= ?_) rfl rfl ?_ ?_;rotate_left;(focus(rintro w' ⟨x0,x1,x2,x3,x4,x5,x6,x7,x8,x9⟩;go_simp;try with_reducible rfl))));simp only[Act.put,sA,sB,sC])
  have HD:=Hd (Below.refl w3.heap.size w3).drew
  generalize w3.drew=u0 at*
  refine Ze rfl rfl (fun K hK=> ?_)
  go_simp
  refine(HC1.out _ HD.out).mono ?_
  rintro e u1 ⟨rfl,hv⟩
  have HD0:=Hd (HD.out.trans (hv.mono HD.out.size))
  clear hv
  refine hK.out _ _ (fun _=>HAL.out _ HD0.out) ?_
  clear hK K
  try simp only[Act.put,sA,sB,sC]
  refine Ze rfl rfl (fun K hK=> ?_)
  go_simp
  refine(HC2.out _ HD0.out).mono ?_
  rintro e u2 ⟨rfl,hv⟩
  have HD1:=Hd (HD0.out.trans (hv.mono HD0.out.size))
  clear hv
  refine hK.out _ _ (fun _=>HAL.out _ HD1.out) ?_
  clear hK K
  try simp only[Act.put,sA,sB,sC]
  refine Ze rfl rfl (fun K hK=> ?_)
  go_simp
  refine(HC3.out _ HD1.out).mono ?_
  rintro e u3 ⟨rfl,hv⟩
  have HD2:=Hd (HD1.out.trans (hv.mono HD1.out.size))
  clear hv
  refine hK.out _ _ (fun _=>HAL.out _ HD2.out) ?_
  clear hK K
  try simp only[Act.put,sA,sB,sC]
  repeat((first|refine Zg rfl ?_|(refine Zf (v:= ?_) rfl rfl ?_ ?_;rotate_left;(focus(rintro w' ⟨x0,x1,x2,x3,x4,x5,x6,x7,x8,x9⟩;go_simp;try with_reducible rfl))));simp only[Act.put,sA,sB,sC])
  refine Zi ?_
  have HZ:=Hd (HB.out.trans (HD2.out.mono HB.out.size))
  go_wp2_with fail
  go_ret
  exact⟨rfl,HZ.out⟩
 |true=>
 cases bv with
 |false=>
  obtain rfl:x=gz:=HX.out
  go_enter Tryz.func124,Tryz.ntmps124
  go_wp2_with fail
  try rw[hw3]
  clear hw3
  refine wro [0,1,2,3,4,5,6,7,8,9,10,11,12,13,14,15,16,17,18,19,20,21,22,24,25,23,26,27,28,29] [23,26,27] 30 (fun W=>AlAt W w.heap.size t A n c m A1 n1 c1 A2 n2 c2 A3 n3 c3 true an false bn) (by kernel_rfl) (fun _ _ _ _ _ h=>h) (HAL.out _ (Below.refl _ w3).drew) ?_
  simp only[steps,sE,sD]
  repeat((first|refine Zg rfl ?_|(refine Zf (v:= ?_) rfl rfl ?_ ?_;rotate_left;(focus(rintro w' ⟨x0,x1,x2,x3,x4,x5,x6,x7,x8,x9⟩;go_simp;try with_reducible rfl))));simp only[Act.put,sA,sB,sC])
  have HD:=Hd (Below.refl w3.heap.size w3).drew
  generalize w3.drew=u0 at*
  refine Ze rfl rfl (fun K hK=> ?_)
  go_simp
  refine(HC1.out _ HD.out).mono ?_
  rintro e u1 ⟨rfl,hv⟩
  have HD0:=Hd (HD.out.trans (hv.mono HD.out.size))
  clear hv
  refine hK.out _ _ (fun _=>HAL.out _ HD0.out) ?_
  clear hK K
  try simp only[Act.put,sA,sB,sC]
  refine Ze rfl rfl (fun K hK=> ?_)
  go_simp
  refine(HC2.out _ HD0.out).mono ?_
  rintro e u2 ⟨rfl,hv⟩
  have HD1:=Hd (HD0.out.trans (hv.mono HD0.out.size))
  clear hv
  refine hK.out _ _ (fun _=>HAL.out _ HD1.out) ?_
  clear hK K
  try simp only[Act.put,sA,sB,sC]
  refine Ze rfl rfl (fun K hK=> ?_)
  go_simp
  refine(HC3.out _ HD1.out).mono ?_
  rintro e u3 ⟨rfl,hv⟩
  have HD2:=Hd (HD1.out.trans (hv.mono HD1.out.size))
  clear hv
  refine hK.out _ _ (fun _=>HAL.out _ HD2.out) ?_
  clear hK K
  try simp only[Act.put,sA,sB,sC]
  repeat((first|refine Zg rfl ?_|(refine Zf (v:= ?_) rfl rfl ?_ ?_;rotate_left;(focus(rintro w' ⟨x0,x1,x2,x3,x4,x5,x6,x7,x8,x9⟩;go_simp;try with_reducible rfl))));simp only[Act.put,sA,sB,sC])
  refine Zi ?_
  have HZ:=Hd (HB.out.trans (HD2.out.mono HB.out.size))
  go_wp2_with fail
  go_ret
  exact⟨rfl,HZ.out⟩
 |true=>
 have han:an < q:=ha rfl
 have hbn:bn < q:=hb' rfl
 have i1:an < (sqL q rc).length:=by rw[Za5];exact han
 have j1:bn < (sqL q rc)[an].length:=by rw[Ui];simpa using hbn
 obtain⟨g1,o1,g2,o2,cc,rfl,-,r1,-,r2⟩:=HR.out.at' i1 j1
 have e1:(sqL q rc)[an].length=q:=by rw[Ui];simp
 have e2:(sqL q rc)[an][bn]=rc an bn:=by simp[sqL]
 rw[e1] at r1
 rw[e2] at r2
 have HRW:Hid (∀W,Below w3.heap.size w3 W→W.cell? ⟨g1,o1+an,none⟩=some (.slice (some ⟨g2,o2,none⟩) q cc)∧W.cell? ⟨g2,o2+bn,none⟩=some (.bool (rc an bn))):=Hd fun W hW=>⟨Zc r1 hW,Zc r2 hW⟩
 obtain⟨y,hy⟩: ∃y,rc an bn=y:=⟨_,rfl⟩
 rw[hy] at HRW
 have HXY:Hid (x=(y||gz)):=Hd (by rw[HX.out,hy];rfl)
 have HIN:Hid (∀W,Below w3.heap.size w3 W→AlAt W w.heap.size t A n c m A1 n1 c1 A2 n2 c2 (some ⟨g1,o1,none⟩) n3 c3 true an true bn∧W.cell? ⟨g1,o1+an,none⟩=some (.slice (some ⟨g2,o2,none⟩) q cc)∧W.cell? ⟨g2,o2+bn,none⟩=some (.bool y)):=Hd fun W hW=>⟨HAL.out W hW,HRW.out W hW⟩
 obtain rfl:q=n3:=hn3
 have hi1:(an:Int) < (q:Int):=by omega
 have hi2:(bn:Int) < (q:Int):=by omega
 clear i1 j1 e1 e2 r1 r2 hy HRW HX HR HAL han hbn ha hb'
 cases y with
 |true=>
  obtain rfl:x=true:=HXY.out
  go_enter Tryz.func124,Tryz.ntmps124
  go_wp2_with fail
  try rw[hw3]
  clear hw3
  refine wro [0,1,2,3,4,5,6,7,8,9,10,11,12,13,14,15,16,17,18,19,20,21,22,24,25,23,26,27,28,29] [23,26,27] 30 (fun W=>AlAt W w.heap.size t A n c m A1 n1 c1 A2 n2 c2 (some ⟨g1,o1,none⟩) q c3 true an true bn∧W.cell? ⟨g1,o1+an,none⟩=some (.slice (some ⟨g2,o2,none⟩) q cc)∧W.cell? ⟨g2,o2+bn,none⟩=some (.bool true)) (by kernel_rfl) (fun _ _ _ _ _ h=>h) (HIN.out _ (Below.refl _ w3).drew) ?_
  simp only[steps,sE,sD]
  repeat((first|refine Zg rfl ?_|(refine Zf (v:= ?_) rfl rfl ?_ ?_;rotate_left;(focus(rintro w' ⟨⟨x0,x1,x2,x3,x4,x5,x6,x7,x8,x9⟩,x10,x11⟩;go_simp;try with_reducible rfl))));simp only[Act.put,sA,sB,sC])
  have HD:=Hd (Below.refl w3.heap.size w3).drew
  generalize w3.drew=u0 at*
  refine Zi ?_
  have HZ:=Hd (HB.out.trans (HD.out.mono HB.out.size))
  go_wp2_with fail
  go_ret
  exact⟨rfl,HZ.out⟩
 |false=>
  obtain rfl:x=gz:=HXY.out
  go_enter Tryz.func124,Tryz.ntmps124
  go_wp2_with fail
  try rw[hw3]
  clear hw3
  refine wro [0,1,2,3,4,5,6,7,8,9,10,11,12,13,14,15,16,17,18,19,20,21,22,24,25,23,26,27,28,29] [23,26,27] 30 (fun W=>AlAt W w.heap.size t A n c m A1 n1 c1 A2 n2 c2 (some ⟨g1,o1,none⟩) q c3 true an true bn∧W.cell? ⟨g1,o1+an,none⟩=some (.slice (some ⟨g2,o2,none⟩) q cc)∧W.cell? ⟨g2,o2+bn,none⟩=some (.bool false)) (by kernel_rfl) (fun _ _ _ _ _ h=>h) (HIN.out _ (Below.refl _ w3).drew) ?_
  simp only[steps,sE,sD]
  repeat((first|refine Zg rfl ?_|(refine Zf (v:= ?_) rfl rfl ?_ ?_;rotate_left;(focus(rintro w' ⟨⟨x0,x1,x2,x3,x4,x5,x6,x7,x8,x9⟩,x10,x11⟩;go_simp;try with_reducible rfl))));simp only[Act.put,sA,sB,sC])
  have HD:=Hd (Below.refl w3.heap.size w3).drew
  generalize w3.drew=u0 at*
  refine Ze rfl rfl (fun K hK=> ?_)
  go_simp
  refine(HC1.out _ HD.out).mono ?_
  rintro e u1 ⟨rfl,hv⟩
  have HD0:=Hd (HD.out.trans (hv.mono HD.out.size))
  clear hv
  refine hK.out _ _ (fun _=>HIN.out _ HD0.out) ?_
  clear hK K
  try simp only[Act.put,sA,sB,sC]
  refine Ze rfl rfl (fun K hK=> ?_)
  go_simp
  refine(HC2.out _ HD0.out).mono ?_
  rintro e u2 ⟨rfl,hv⟩
  have HD1:=Hd (HD0.out.trans (hv.mono HD0.out.size))
  clear hv
  refine hK.out _ _ (fun _=>HIN.out _ HD1.out) ?_
  clear hK K
  try simp only[Act.put,sA,sB,sC]
  refine Ze rfl rfl (fun K hK=> ?_)
  go_simp
  refine(HC3.out _ HD1.out).mono ?_
  rintro e u3 ⟨rfl,hv⟩
  have HD2:=Hd (HD1.out.trans (hv.mono HD1.out.size))
  clear hv
  refine hK.out _ _ (fun _=>HIN.out _ HD2.out) ?_
  clear hK K
  try simp only[Act.put,sA,sB,sC]
  repeat((first|refine Zg rfl ?_|(refine Zf (v:= ?_) rfl rfl ?_ ?_;rotate_left;(focus(rintro w' ⟨⟨x0,x1,x2,x3,x4,x5,x6,x7,x8,x9⟩,x10,x11⟩;go_simp;try with_reducible rfl))));simp only[Act.put,sA,sB,sC])
  refine Zi ?_
  have HZ:=Hd (HB.out.trans (HD2.out.mono HB.out.size))
  go_wp2_with fail
  go_ret
  exact⟨rfl,HZ.out⟩
end Go.Proofs.YtfmpecnkkbpdlaaGreatDoor
