import Derived.Deep.QuietTactic
import Derived.BigQuiet
import Derived.Laws.CopyOwn
import Derived.StillTailTactics
import Derived.ProofKit
import Derived.OpenShut
import Derived.ShutString
import Derived.ChangeOld
import Derived.Test.YtmejhedegmjboaaGreatLaOrd
set_option maxRecDepth 100000
set_option maxHeartbeats 1000000
namespace Go.Proofs.YtmejhedegmjboaaGreat.La
def whoN (l:List Nat)(n t:Nat):Nat:=((List.range n).find? fun i=>l.getD i 0==t).getD 0
theorem Qo {l:List Nat}{n t k:Nat}(h: ∀i,i < k→l.getD i 0≠t)(hk:k < n)(e:l.getD k 0=t):whoN l n t=k:=by
 have:(List.range n).find? (fun i=>l.getD i 0==t)=some k:=by(
 rw[List.find?_eq_some_iff_getElem]
 refine⟨by simpa using e,k,by simpa using hk,by simp,fun j hj=> ?_⟩
 simpa using h j hj)
 rw[whoN,this]
 rfl
theorem Yp {l:List Nat}{n t:Nat}(h: ∀i,i < n→l.getD i 0≠t):whoN l n t=0:=by
 have:(List.range n).find? (fun i=>l.getD i 0==t)=none:=by(
 rw[List.find?_eq_none]
 intro i hi
 simpa using h i (List.mem_range.1 hi))
 rw[whoN,this]
 rfl
def Vt (l:List Nat)(n a b:Nat):Nat:=if a < n∧b < n then whoN l n (l.getD a 0 &&& l.getD b 0) else 0
def endN (l:List Nat)(n:Nat):Nat:=whoN l n (2 ^ n - 1)
theorem Rz {l l':List Nat}{n t:Nat}(h: ∀i,i < n→l.getD i 0=l'.getD i 0):whoN l n t=whoN l' n t:=by
 by_cases hx: ∃i,i < n∧l.getD i 0=t
 ·have key: ∀m,m < n→l.getD m 0=t→ ∃k,k < n∧l.getD k 0=t∧ ∀i,i < k→l.getD i 0≠t:=by
   intro m
   induction m using Nat.strongRecOn with
   |ind m ih=>(
 intro hm he
 by_cases hy: ∃i,i < m∧l.getD i 0=t
 ·obtain⟨i,hi,e⟩:=hy
  exact ih i hi (by omega) e
 ·exact⟨m,hm,he,fun i hi e=>hy ⟨i,hi,e⟩⟩)
  obtain⟨m,hm,he⟩:=hx
  obtain⟨k,hk,hek,hlow⟩:=key m hm he
  rw[Qo hlow hk hek,Qo (fun i hi e=>hlow i hi (by rw[h i (by omega)];exact e)) hk (by rw[← h k hk];exact hek)]
 ·rw[Yp fun i hi e=>hx ⟨i,hi,e⟩,Yp fun i hi e=>hx ⟨i,hi,by rw[h i hi];exact e⟩]
theorem Qp {l l':List Nat}{n a b:Nat}(h: ∀i,i < n→l.getD i 0=l'.getD i 0):Vt l n a b=Vt l' n a b:=by
 unfold Vt
 by_cases hab:a < n∧b < n
 ·rw[if_pos hab,if_pos hab,h a hab.1,h b hab.2,Rz h]
 ·rw[if_neg hab,if_neg hab]
theorem RD {l l':List Nat}{n:Nat}(h: ∀i,i < n→l.getD i 0=l'.getD i 0):endN l n=endN l' n:=Rz h
structure QX (l:List Nat):Prop where
 known:Known l
 ord:Ux l.length (bt l)
 ups:Ups l.length (bt l)
 downs:Ups l.length (turn (bt l))
theorem Yq {l:List Nat}(h:checkN l=0):QX l:=by
 have k:=ZaT l
 rw[h] at k
 rcases k with⟨_,e⟩|⟨_,_,e⟩|⟨_,_,_,e⟩|⟨a,b,c,_⟩
 ·cases e
 ·cases e
 ·cases e
 ·exact⟨a,b,c.1,c.2⟩
theorem QX.back {l:List Nat}(h:QX l):QX (Zo l):=by
 have e: ∀i j,i < l.length→j < l.length→bt (Zo l) i j=turn (bt l) i j:=fun i j hi _=>by
  rw[Vy,decide_eq_true hi,Bool.true_and]
  rfl
 refine⟨⟨?_,fun i j hj=> ?_⟩,?_,?_,?_⟩
 ·rw[Zq]
  exact h.known.1
 ·(
 rw[Zq] at hj
 rw[Vy]
 have:bt l j i=false:=by(
 cases hb:bt l j i with
 |false=>rfl
 |true=>exact absurd (ZdK hb) (by omega))
 rw[this,Bool.and_false])
 ·rw[Zq]
  exact h.ord.turn.congr e
 ·rw[Zq]
  exact h.downs.congr e
 ·rw[Zq]
  exact h.ups.congr fun i j hi hj=>e j i hj hi
structure Zjb (n:Nat)(R:Nat→Nat→Bool)(a b j:Nat):Prop where
 lt:j < n
 fst:R a j=true
 snd:R b j=true
 least: ∀d,d < n→R a d=true→R b d=true→R j d=true
structure Zb6 (n:Nat)(R:Nat→Nat→Bool)(c:Nat):Prop where
 lt:c < n
 all: ∀j,j < n→R c j=true
section
variable {n:Nat} {R:Nat→Nat→Bool} {a b c j k x y z:Nat}
theorem Zb6.uniq (o:Ux n R)(h:Zb6 n R c)(k:Zb6 n R b):c=b:=o.anti _ _ h.lt k.lt (h.all _ k.lt) (k.all _ h.lt)
end
section
variable {l:List Nat} (h:QX l)
include h
theorem Zh2 {i c:Nat}(hi:i < l.length)(hc:c < l.length)(e:l.getD i 0=l.getD c 0):i=c:=by
 have hb: ∀j,bt l i j=bt l c j:=fun j=>by rw[bt,bt,e]
 exact h.ord.anti i c hi hc ((hb c).trans (h.ord.refl c hc)) ((hb i).symm.trans (h.ord.refl i hi))
theorem Zjc {c t:Nat}(hc:c < l.length)(e:l.getD c 0=t):whoN l l.length t=c:=
 Qo (fun i hi e'=>by
  have:=Zh2 h (by omega) hc (e'.trans e.symm)
  omega) hc e
theorem ZfT {a b:Nat}(ha:a < l.length)(hb:b < l.length):Zjb l.length (bt l) a b (Vt l l.length a b):=by
 obtain⟨c,hc,h1,h2,h3⟩:=h.ups a b ha hb
 have e:l.getD c 0=l.getD a 0 &&& l.getD b 0:=by(
 apply Nat.eq_of_testBit_eq
 intro j
 rw[Nat.testBit_and]
 show bt l c j=(bt l a j && bt l b j)
 rw[Bool.eq_iff_iff,Bool.and_eq_true]
 have hj: ∀{i},bt l i j=true→j < l.length:=fun {i} hb=>by(
 rcases Nat.lt_or_ge j l.length with h'|h'
 ·exact h'
 ·rw[h.known.2 i j h'] at hb
  cases hb)
 constructor
 ·intro g
  exact⟨h.ord.on _ _ _ ha hc (hj g) h1 g,h.ord.on _ _ _ hb hc (hj g) h2 g⟩
 ·rintro⟨g1,g2⟩
  exact h3 j (hj g1) g1 g2)
 rw[Vt,if_pos ⟨ha,hb⟩,Zjc h hc e]
 exact⟨hc,h1,h2,h3⟩
theorem Zjd: ∀k,k≤l.length→ ∃c,c < l.length∧ ∀j,j < k→bt l c j=true
 |0,_=>⟨0,h.known.1.1,fun j hj=>absurd hj (by omega)⟩
 |k+1,hk=>by(
 obtain⟨c,hc,g⟩:=Zjd k (by omega)
 obtain⟨m,hm,h1,h2,_⟩:=h.downs c k hc (by omega)
 have h1:bt l m c=true:=h1
 have h2:bt l m k=true:=h2
 refine⟨m,hm,fun j hj=> ?_⟩
 by_cases e:j=k
 ·rw[e]
  exact h2
 ·exact h.ord.on _ _ _ hm hc (by omega) h1 (g j (by omega)))
theorem Zc9:Zb6 l.length (bt l) (endN l l.length):=by
 obtain⟨c,hc,g⟩:=Zjd h l.length lR
 have e:l.getD c 0=2 ^ l.length - 1:=by(
 apply Nat.eq_of_testBit_eq
 intro j
 rw[Nat.testBit_two_pow_sub_one]
 show bt l c j=_
 by_cases hj:j < l.length
 ·rw[g j hj,decide_eq_true hj]
 ·rw[h.known.2 c j (by omega),decide_eq_false hj])
 rw[endN,Zjc h hc e]
 exact⟨hc,g⟩
omit h in
theorem VZ {i j:Nat}(hi:i < l.length):bt (Zo l) i j=turn (bt l) i j:=by
 rw[Vy,decide_eq_true hi,Bool.true_and]
 rfl
theorem ZkC {a b:Nat}(ha:a < l.length)(hb:b < l.length):Zjb l.length (turn (bt l)) a b (Vt (Zo l) l.length a b):=by
 have k:=ZfT h.back (a:=a) (b:=b) (by rw[Zq];exact ha) (by rw[Zq];exact hb)
 rw[Zq] at k
 exact⟨k.lt,by rw[← VZ ha];exact k.fst,by rw[← VZ hb];exact k.snd,fun d hd g1 g2=>by
  rw[← VZ k.lt]
  exact k.least d hd (by rw[VZ ha];exact g1) (by rw[VZ hb];exact g2)⟩
theorem ZfU:Zb6 l.length (turn (bt l)) (endN (Zo l) l.length):=by
 have k:=Zc9 h.back
 rw[Zq] at k
 exact⟨k.lt,fun j hj=>by rw[← VZ k.lt];exact k.all j hj⟩
theorem Zh3 {j:Nat}(k:Zb6 l.length (bt l) j):endN l l.length=j:=(Zc9 h).uniq h.ord k
theorem Zh4 {j:Nat}(k:Zb6 l.length (turn (bt l)) j):endN (Zo l) l.length=j:=(ZfU h).uniq h.ord.turn k
end
end Go.Proofs.YtmejhedegmjboaaGreat.La
namespace Go.Proofs.YtmejhedegmjboaaGreat.La
open Go.RowKit
def lc (n:Nat)(us ds:List Nat):Array Value:=(Value.int .i64 (n:Int)::(us++ds).map nm).toArray
structure Vu (w:World)(g n:Nat)(us ds:List Nat):Prop where
 blk:w.heap[g]?=some (.cells (lc n us ds) 129 (0,0))
 ul:us.length=64
 dl:ds.length=64
 top:n≤64
 uf:Fit us
 df:Fit ds
section
variable {w w':World} {g n:Nat} {us ds:List Nat} (h:Vu w g n us ds)
include h
theorem Vu.lt:g < w.heap.size:=(Array.getElem?_eq_some_iff.1 h.blk).1
theorem Vu.keep (hb:Below w.heap.size w w'):Vu w' g n us ds:=⟨(hb.block g h.lt).trans h.blk,h.ul,h.dl,h.top,h.uf,h.df⟩
theorem Vu.count:w.cell? ⟨g,0,none⟩=some (.int .i64 (n:Int)):=by
 rw[Zb h.blk]
 rfl
theorem Vu.up (j:Nat)(hj:j < us.length):w.cell? ⟨g,1+j,none⟩=some (.int .u64 (us[j]:Int)):=by
 rw[Zb h.blk,lc,List.getElem?_toArray,Nat.add_comm,sD,List.getElem?_map,List.getElem?_append_left hj,List.getElem?_eq_getElem hj]
 rfl
theorem Vu.down (j:Nat)(hj:j < ds.length):w.cell? ⟨g,65+j,none⟩=some (.int .u64 (ds[j]:Int)):=by
 have e:65+j=(64+j)+1:=by omega
 have e2:64+j - us.length=j:=by rw[h.ul];omega
 rw[Zb h.blk,lc,List.getElem?_toArray,e,sD,List.getElem?_map,List.getElem?_append_right (by rw[h.ul];omega),e2,List.getElem?_eq_getElem hj]
 rfl
theorem Vu.rd:Rd nm w w.heap.size (some ⟨g,1,none⟩) n 64 (us.take n):=
 ⟨by rw[List.length_take,h.ul,Nat.min_eq_left h.top],h.top,by decide,(fun h=>by cases h),fun _=>⟨g,1,rfl,h.lt,fun j hj=>by
  rw[List.length_take] at hj
  rw[h.up j (by omega),List.getElem_take]
  rfl⟩⟩
end
theorem Zam (a:Nat)(w:World):Calls Tryz.prog 192 #[.pointer none,.int .u64 (a:Int)] w fun e w'=>e= .returned (.bool false)∧w=w':=by
 go_enter Tryz.func192,Tryz.ntmps192
 go_wp2
 go_ret
 exact⟨rfl,rfl⟩
theorem Yr (g n:Nat)(us ds:List Nat)(a:Nat)(w:World)(h:Vu w g n us ds):Calls Tryz.prog 192 #[.pointer (some ⟨g,0,none⟩),.int .u64 (a:Int)] w fun e w'=>e= .returned (.bool (decide (a < n)))∧w=w':=by
 have hc:=h.count
 have ht:=h.top
 clear h
 go_enter Tryz.func192,Tryz.ntmps192
 go_wp2
 go_ret
 exact⟨by simp,rfl⟩
theorem ZfV (g n:Nat)(us ds:List Nat)(a:Nat)(w:World)(h:Vu w g n us ds)(ha:a < 64):Calls Tryz.prog 197 #[.pointer (some ⟨g,0,none⟩),.int .u64 (a:Int)] w fun e w'=>e= .returned (.int .u64 (us.getD a 0:Int))∧w=w':=by
 have hl:a < us.length:=by rw[h.ul];exact ha
 have hc:=h.up a hl
 rw[getD_at hl]
 generalize us[a]=x at*
 clear h hl
 go_enter Tryz.func197,Tryz.ntmps197
 go_wp2
 go_ret
 exact⟨rfl,rfl⟩
theorem Zan (g n:Nat)(us ds:List Nat)(a:Nat)(w:World)(h:Vu w g n us ds)(ha:a < 64):Calls Tryz.prog 199 #[.pointer (some ⟨g,0,none⟩),.int .u64 (a:Int)] w fun e w'=>e= .returned (.int .u64 (ds.getD a 0:Int))∧w=w':=by
 have hl:a < ds.length:=by rw[h.dl];exact ha
 have hc:=h.down a hl
 rw[getD_at hl]
 generalize ds[a]=x at*
 clear h hl
 go_enter Tryz.func199,Tryz.ntmps199
 go_wp2
 go_ret
 exact⟨rfl,rfl⟩
end Go.Proofs.YtmejhedegmjboaaGreat.La
namespace Go.Proofs.YtmejhedegmjboaaGreat.La
open Go.RowKit
theorem ZkD:Tryz.prog.arrayLen 127=64:=by kernel_rfl
theorem elem39:Tryz.prog.elem 127=60:=by kernel_rfl
theorem ZlX (w:World):(Go.sizeOf 60).run Tryz.prog w= .ok 1 w:=by kernel_rfl
theorem Zm1:Tryz.prog.underlying 127=some (.array (Tryz.prog.arrayLen 127) (Tryz.prog.elem 127)):=by rw[ZkD,elem39];exact Tryz.underlying127
theorem slice_head (g o n:Nat)(h:n≤64)(W:World):(Instr.sliceAt 127 (.pointer (some ⟨g,o,none⟩)) none (some (.int .i64 (n:Int))) none).run Tryz.prog W= .ok (.slice (some ⟨g,o,none⟩) n 64) W:=by
 rw[run_sliceAt_array_h W 127 _ Zm1 .i64 _ (by omega) (by rw[ZkD];omega),elem39,ZlX,ZkD]
 simp[Result.andThen,slicedAt,Addr.add]
theorem Zec (a b:Nat)(w:World):Calls Tryz.prog 190 #[.pointer none,.int .u64 (a:Int),.int .u64 (b:Int)] w fun e w'=>e= .returned (.bool false)∧Drawn w w':=by
 go_enter Tryz.func190,Tryz.ntmps190
 go_wp2
 go_quiet (fail)
 go_wp2
 go_ret
 exact⟨rfl,(Drawn.refl w).more _⟩
theorem Zed (g n:Nat)(us ds:List Nat)(a b:Nat)(w:World)(h:Vu w g n us ds)(ha:a < 18446744073709551616)(hb:b < 18446744073709551616):
  Calls Tryz.prog 190 #[.pointer (some ⟨g,0,none⟩),.int .u64 (a:Int),.int .u64 (b:Int)] w fun e w'=>e= .returned (.bool (Zj (us.take n) a b))∧Drawn w w':=by
 have hc:=h.count
 have ht:=h.top
 have hcall: ∀W,W.heap=w.heap→Calls Tryz.prog 58 #[.slice (some ⟨g,1,none⟩) n 64,.int .u64 (a:Int),.int .u64 (b:Int)] W fun e w'=>e= .returned (.bool (Zj (us.take n) a b))∧w'=W:=
  fun W hW=>ZjP _ n 64 w.heap.size _ a b W (h.rd.keep fun _ _=>by rw[hW]) (fun x hx=>h.uf x (List.mem_of_mem_take hx)) ha hb
 have HCALL:=Hd hcall
 have hsl:=slice_head g 1 n ht
 clear hcall h
 generalize Zj (us.take n) a b=r at*
 go_enter Tryz.func190,Tryz.ntmps190
 go_wp2
 go_quiet ((go_at_call 58;exact Calls.quiet_of_same (HCALL.out _ rfl)))
 go_wp2
 go_ret
 exact⟨rfl,(Drawn.refl w).more _⟩
end Go.Proofs.YtmejhedegmjboaaGreat.La
namespace Go.Proofs.YtmejhedegmjboaaGreat.La
open Go.RowKit
def ZlY (l:List Nat)(n t:Nat)(w:World)(v13:Value)(wr:World):Prop:= ∃k:Nat,v13= .int .u64 (k:Int)∧k≤n∧(∀i,i < k→l.getD i 0≠t)∧wr=w
theorem Zda {n:Nat}(h:n≤64):IntKind.u64.wrap (IntKind.u64.wrap ((2:Int) ^ n) - 1)=((2 ^ n - 1:Nat):Int):=by
 by_cases e:n=64
 ·subst e
  rfl
 ·(
 rw[Ud (k:=n) (by omega)]
 have h1:0 < 2 ^ n:=Nat.two_pow_pos n
 have h2:(2:Nat) ^ n < 18446744073709551616:=Nat.pow_lt_pow_right (n:=64) (by decide) (by omega)
 generalize 2 ^ n=p at*
 show((p:Int) - 1)%18446744073709551616=_
 omega)
theorem Zdb (g n:Nat)(us ds:List Nat)(t:Nat)(w:World)(h:Vu w g n us ds):
  Calls Tryz.prog 200 #[.pointer (some ⟨g,0,none⟩),.int .u64 (t:Int),.func (.func 197) #[] #[]] w fun e w'=>e= .returned (.int .u64 (whoN us n t:Int))∧w=w':=by
 have hc:=h.count
 have ht:=h.top
 have H:=Hd h
 clear h
 go_enter Tryz.func200,Tryz.ntmps200
 go_wp2
 go_loopw [13] (fun v13 wr=>ZlY us n t w v13 wr) (fun v13 _=>n - (intOf v13).toNat)
 case atStart=>exact⟨0,rfl,by omega,fun i hi=>absurd hi (by omega),rfl⟩
 case round=>(
 obtain⟨k,rfl,hk,hno,rfl⟩:=hrel
 have HNO:=Hd hno
 clear hno
 by_cases hlt:k < n
 ·(
 have hcall:=ZfV g n us ds k wr H.out (by omega)
 have HX:Hid (us.getD k 0=us.getD k 0):=Hd rfl
 generalize hx:us.getD k 0=x at hcall
 have HXX:=Hd hx
 clear hx HX
 by_cases he:x=t
 ·(
 subst he
 have hb:((x:Int)==(x:Int))=true:=by simp
 go_wp2_with (go_at_call 197;refine hcall.mono ?_;rintro e w' ⟨rfl,rfl⟩)
 go_ret
 exact⟨by rw[Qo HNO.out hlt HXX.out];rfl,rfl⟩)
 ·(
 have hb:((x:Int)==(t:Int))=false:=by simp;omega
 go_wp2_with (go_at_call 197;refine hcall.mono ?_;rintro e w' ⟨rfl,rfl⟩)
 go_roundw
 case rel=>(
 refine⟨k+1,by go_num,by omega,fun i hi=> ?_,rfl⟩
 by_cases e:i=k
 ·rw[e,HXX.out]
  exact he
 ·exact HNO.out i (by omega))
 case measure=>simp[intOf];omega))
 ·obtain rfl:k=n:=by omega
  go_wp2
  go_ret
  exact⟨by rw[Yp HNO.out];rfl,rfl⟩)
theorem ZkE (g n:Nat)(us ds:List Nat)(a b:Nat)(w:World)(h:Vu w g n us ds)(ha:a < 18446744073709551616)(hb:b < 18446744073709551616):
  Calls Tryz.prog 198 #[.pointer (some ⟨g,0,none⟩),.int .u64 (a:Int),.int .u64 (b:Int),.func (.func 197) #[] #[]] w fun e w'=>e= .returned (.int .u64 (Vt us n a b:Int))∧w=w':=by
 have ht:=h.top
 have h1:=Yr g n us ds a w h
 have h2:=Yr g n us ds b w h
 by_cases hla:a < n
 ·(
 rw[decide_eq_true hla] at h1
 by_cases hlb:b < n
 ·(
 rw[decide_eq_true hlb] at h2
 have hn:Vt us n a b=whoN us n (us.getD a 0 &&& us.getD b 0):=by rw[Vt,if_pos ⟨hla,hlb⟩]
 have HN:=Hd hn
 have h3:=ZfV g n us ds a w h (by omega)
 have h4:=ZfV g n us ds b w h (by omega)
 have h5:=Zdb g n us ds (us.getD a 0 &&& us.getD b 0) w h
 have ha':a < us.length:=by rw[h.ul];omega
 have hb':b < us.length:=by rw[h.ul];omega
 have hx:us.getD a 0 < 18446744073709551616:=by rw[getD_at ha'];exact h.uf.get a ha'
 have hy:us.getD b 0 < 18446744073709551616:=by rw[getD_at hb'];exact h.uf.get b hb'
 have hand:=u64_and_nat _ _ hx hy
 generalize us.getD a 0 &&& us.getD b 0=z at*
 generalize us.getD a 0=x at*
 generalize us.getD b 0=y at*
 clear h hn ha' hb'
 go_enter Tryz.func198,Tryz.ntmps198
 go_wp2_with fail
 refine h1.mono ?_
 rintro e w' ⟨rfl,rfl⟩
 go_wp2_with fail
 refine h2.mono ?_
 rintro e w' ⟨rfl,rfl⟩
 go_wp2_with fail
 refine h3.mono ?_
 rintro e w' ⟨rfl,rfl⟩
 go_wp2_with fail
 refine h4.mono ?_
 rintro e w' ⟨rfl,rfl⟩
 go_wp2_with fail
 refine h5.mono ?_
 rintro e w' ⟨rfl,rfl⟩
 go_wp2_with fail
 go_ret
 exact⟨by rw[HN.out];rfl,rfl⟩)
 ·(
 rw[decide_eq_false hlb] at h2
 have HN:Hid (Vt us n a b=0):=Hd (by rw[Vt,if_neg (fun h=>hlb h.2)])
 clear h
 go_enter Tryz.func198,Tryz.ntmps198
 go_wp2_with fail
 refine h1.mono ?_
 rintro e w' ⟨rfl,rfl⟩
 go_wp2_with fail
 refine h2.mono ?_
 rintro e w' ⟨rfl,rfl⟩
 go_wp2_with fail
 go_ret
 exact⟨by rw[HN.out];rfl,rfl⟩))
 ·(
 rw[decide_eq_false hla] at h1
 have HN:Hid (Vt us n a b=0):=Hd (by rw[Vt,if_neg (fun h=>hla h.1)])
 clear h h2
 go_enter Tryz.func198,Tryz.ntmps198
 go_wp2_with fail
 refine h1.mono ?_
 rintro e w' ⟨rfl,rfl⟩
 go_wp2_with fail
 go_ret
 exact⟨by rw[HN.out];rfl,rfl⟩)
theorem Zb7 (a b:Nat)(w:World):
  Calls Tryz.prog 198 #[.pointer none,.int .u64 (a:Int),.int .u64 (b:Int),.func (.func 197) #[] #[]] w fun e w'=>e= .returned (.int .u64 0)∧w=w':=by
 have h1:=Zam a w
 go_enter Tryz.func198,Tryz.ntmps198
 go_wp2_with fail
 refine h1.mono ?_
 rintro e w' ⟨rfl,rfl⟩
 go_wp2_with fail
 go_ret
 exact⟨rfl,rfl⟩
theorem ZlZ (g n:Nat)(us ds:List Nat)(w:World)(h:Vu w g n us ds):
  Calls Tryz.prog 196 #[.pointer (some ⟨g,0,none⟩),.func (.func 197) #[] #[]] w fun e w'=>e= .returned (.int .u64 (endN us n:Int))∧w=w':=by
 have hc:=h.count
 have ht:=h.top
 have h5:=Zdb g n us ds (2 ^ n - 1) w h
 have HN:Hid (endN us n=whoN us n (2 ^ n - 1)):=Hd rfl
 have hm:IntKind.u64.wrap (IntKind.u64.wrap ((2:Int) ^ n) - 1)=((2 ^ n - 1:Nat):Int):=Zda ht
 generalize 2 ^ n - 1=z at*
 clear h
 go_enter Tryz.func196,Tryz.ntmps196
 go_wp2_with fail
 refine h5.mono ?_
 rintro e w' ⟨rfl,rfl⟩
 go_wp2_with fail
 go_ret
 exact⟨by rw[HN.out];rfl,rfl⟩
theorem Zee (w:World):
  Calls Tryz.prog 196 #[.pointer none,.func (.func 197) #[] #[]] w fun e w'=>e= .returned (.int .u64 0)∧w=w':=by
 go_enter Tryz.func196,Tryz.ntmps196
 go_wp2
 go_ret
 exact⟨rfl,rfl⟩
theorem ZfW (g n:Nat)(us ds:List Nat)(a b:Nat)(w:World)(h:Vu w g n us ds)(ha:a < 18446744073709551616)(hb:b < 18446744073709551616):
  Calls Tryz.prog 193 #[.pointer (some ⟨g,0,none⟩),.int .u64 (a:Int),.int .u64 (b:Int)] w fun e w'=>e= .returned (.int .u64 (Vt us n a b:Int))∧w=w':=by
 have h1:=ZkE g n us ds a b w h ha hb
 generalize Vt us n a b=x at*
 clear h
 go_enter Tryz.func193,Tryz.ntmps193
 go_wp2_with fail
 refine h1.mono ?_
 rintro e w' ⟨rfl,rfl⟩
 go_wp2_with fail
 go_ret
 exact⟨rfl,rfl⟩
theorem ZfX (a b:Nat)(w:World):
  Calls Tryz.prog 193 #[.pointer none,.int .u64 (a:Int),.int .u64 (b:Int)] w fun e w'=>e= .returned (.int .u64 0)∧w=w':=by
 have h1:=Zb7 a b w
 go_enter Tryz.func193,Tryz.ntmps193
 go_wp2_with fail
 refine h1.mono ?_
 rintro e w' ⟨rfl,rfl⟩
 go_wp2_with fail
 go_ret
 exact⟨rfl,rfl⟩
theorem Zb8 (g n:Nat)(us ds:List Nat)(w:World)(h:Vu w g n us ds):
  Calls Tryz.prog 191 #[.pointer (some ⟨g,0,none⟩)] w fun e w'=>e= .returned (.int .u64 (endN us n:Int))∧w=w':=by
 have h1:=ZlZ g n us ds w h
 generalize endN us n=x at*
 clear h
 go_enter Tryz.func191,Tryz.ntmps191
 go_wp2_with fail
 refine h1.mono ?_
 rintro e w' ⟨rfl,rfl⟩
 go_wp2_with fail
 go_ret
 exact⟨rfl,rfl⟩
theorem Zb9 (w:World):
  Calls Tryz.prog 191 #[.pointer none] w fun e w'=>e= .returned (.int .u64 0)∧w=w':=by
 have h1:=Zee w
 go_enter Tryz.func191,Tryz.ntmps191
 go_wp2_with fail
 refine h1.mono ?_
 rintro e w' ⟨rfl,rfl⟩
 go_wp2_with fail
 go_ret
 exact⟨rfl,rfl⟩
theorem RF (g n:Nat)(us ds:List Nat)(t:Nat)(w:World)(h:Vu w g n us ds):
  Calls Tryz.prog 200 #[.pointer (some ⟨g,0,none⟩),.int .u64 (t:Int),.func (.func 199) #[] #[]] w fun e w'=>e= .returned (.int .u64 (whoN ds n t:Int))∧w=w':=by
 have hc:=h.count
 have ht:=h.top
 have H:=Hd h
 clear h
 go_enter Tryz.func200,Tryz.ntmps200
 go_wp2
 go_loopw [13] (fun v13 wr=>ZlY ds n t w v13 wr) (fun v13 _=>n - (intOf v13).toNat)
 case atStart=>exact⟨0,rfl,by omega,fun i hi=>absurd hi (by omega),rfl⟩
 case round=>(
 obtain⟨k,rfl,hk,hno,rfl⟩:=hrel
 have HNO:=Hd hno
 clear hno
 by_cases hlt:k < n
 ·(
 have hcall:=Zan g n us ds k wr H.out (by omega)
 have HX:Hid (ds.getD k 0=ds.getD k 0):=Hd rfl
 generalize hx:ds.getD k 0=x at hcall
 have HXX:=Hd hx
 clear hx HX
 by_cases he:x=t
 ·(
 subst he
 have hb:((x:Int)==(x:Int))=true:=by simp
 go_wp2_with (go_at_call 199;refine hcall.mono ?_;rintro e w' ⟨rfl,rfl⟩)
 go_ret
 exact⟨by rw[Qo HNO.out hlt HXX.out];rfl,rfl⟩)
 ·(
 have hb:((x:Int)==(t:Int))=false:=by simp;omega
 go_wp2_with (go_at_call 199;refine hcall.mono ?_;rintro e w' ⟨rfl,rfl⟩)
 go_roundw
 case rel=>(
 refine⟨k+1,by go_num,by omega,fun i hi=> ?_,rfl⟩
 by_cases e:i=k
 ·rw[e,HXX.out]
  exact he
 ·exact HNO.out i (by omega))
 case measure=>simp[intOf];omega))
 ·obtain rfl:k=n:=by omega
  go_wp2
  go_ret
  exact⟨by rw[Yp HNO.out];rfl,rfl⟩)
theorem ZfY (g n:Nat)(us ds:List Nat)(a b:Nat)(w:World)(h:Vu w g n us ds)(ha:a < 18446744073709551616)(hb:b < 18446744073709551616):
  Calls Tryz.prog 198 #[.pointer (some ⟨g,0,none⟩),.int .u64 (a:Int),.int .u64 (b:Int),.func (.func 199) #[] #[]] w fun e w'=>e= .returned (.int .u64 (Vt ds n a b:Int))∧w=w':=by
 have ht:=h.top
 have h1:=Yr g n us ds a w h
 have h2:=Yr g n us ds b w h
 by_cases hla:a < n
 ·(
 rw[decide_eq_true hla] at h1
 by_cases hlb:b < n
 ·(
 rw[decide_eq_true hlb] at h2
 have hn:Vt ds n a b=whoN ds n (ds.getD a 0 &&& ds.getD b 0):=by rw[Vt,if_pos ⟨hla,hlb⟩]
 have HN:=Hd hn
 have h3:=Zan g n us ds a w h (by omega)
 have h4:=Zan g n us ds b w h (by omega)
 have h5:=RF g n us ds (ds.getD a 0 &&& ds.getD b 0) w h
 have ha':a < ds.length:=by rw[h.dl];omega
 have hb':b < ds.length:=by rw[h.dl];omega
 have hx:ds.getD a 0 < 18446744073709551616:=by rw[getD_at ha'];exact h.df.get a ha'
 have hy:ds.getD b 0 < 18446744073709551616:=by rw[getD_at hb'];exact h.df.get b hb'
 have hand:=u64_and_nat _ _ hx hy
 generalize ds.getD a 0 &&& ds.getD b 0=z at*
 generalize ds.getD a 0=x at*
 generalize ds.getD b 0=y at*
 clear h hn ha' hb'
 go_enter Tryz.func198,Tryz.ntmps198
 go_wp2_with fail
 refine h1.mono ?_
 rintro e w' ⟨rfl,rfl⟩
 go_wp2_with fail
 refine h2.mono ?_
 rintro e w' ⟨rfl,rfl⟩
 go_wp2_with fail
 refine h3.mono ?_
 rintro e w' ⟨rfl,rfl⟩
 go_wp2_with fail
 refine h4.mono ?_
 rintro e w' ⟨rfl,rfl⟩
 go_wp2_with fail
 refine h5.mono ?_
 rintro e w' ⟨rfl,rfl⟩
 go_wp2_with fail
 go_ret
 exact⟨by rw[HN.out];rfl,rfl⟩)
 ·(
 rw[decide_eq_false hlb] at h2
 have HN:Hid (Vt ds n a b=0):=Hd (by rw[Vt,if_neg (fun h=>hlb h.2)])
 clear h
 go_enter Tryz.func198,Tryz.ntmps198
 go_wp2_with fail
 refine h1.mono ?_
 rintro e w' ⟨rfl,rfl⟩
 go_wp2_with fail
 refine h2.mono ?_
 rintro e w' ⟨rfl,rfl⟩
 go_wp2_with fail
 go_ret
 exact⟨by rw[HN.out];rfl,rfl⟩))
 ·(
 rw[decide_eq_false hla] at h1
 have HN:Hid (Vt ds n a b=0):=Hd (by rw[Vt,if_neg (fun h=>hla h.1)])
 clear h h2
 go_enter Tryz.func198,Tryz.ntmps198
 go_wp2_with fail
 refine h1.mono ?_
 rintro e w' ⟨rfl,rfl⟩
 go_wp2_with fail
 go_ret
 exact⟨by rw[HN.out];rfl,rfl⟩)
theorem Zao (a b:Nat)(w:World):
  Calls Tryz.prog 198 #[.pointer none,.int .u64 (a:Int),.int .u64 (b:Int),.func (.func 199) #[] #[]] w fun e w'=>e= .returned (.int .u64 0)∧w=w':=by
 have h1:=Zam a w
 go_enter Tryz.func198,Tryz.ntmps198
 go_wp2_with fail
 refine h1.mono ?_
 rintro e w' ⟨rfl,rfl⟩
 go_wp2_with fail
 go_ret
 exact⟨rfl,rfl⟩
theorem Zh5 (g n:Nat)(us ds:List Nat)(w:World)(h:Vu w g n us ds):
  Calls Tryz.prog 196 #[.pointer (some ⟨g,0,none⟩),.func (.func 199) #[] #[]] w fun e w'=>e= .returned (.int .u64 (endN ds n:Int))∧w=w':=by
 have hc:=h.count
 have ht:=h.top
 have h5:=RF g n us ds (2 ^ n - 1) w h
 have HN:Hid (endN ds n=whoN ds n (2 ^ n - 1)):=Hd rfl
 have hm:IntKind.u64.wrap (IntKind.u64.wrap ((2:Int) ^ n) - 1)=((2 ^ n - 1:Nat):Int):=Zda ht
 generalize 2 ^ n - 1=z at*
 clear h
 go_enter Tryz.func196,Tryz.ntmps196
 go_wp2_with fail
 refine h5.mono ?_
 rintro e w' ⟨rfl,rfl⟩
 go_wp2_with fail
 go_ret
 exact⟨by rw[HN.out];rfl,rfl⟩
theorem Zbp (w:World):
  Calls Tryz.prog 196 #[.pointer none,.func (.func 199) #[] #[]] w fun e w'=>e= .returned (.int .u64 0)∧w=w':=by
 go_enter Tryz.func196,Tryz.ntmps196
 go_wp2
 go_ret
 exact⟨rfl,rfl⟩
theorem ZfZ (g n:Nat)(us ds:List Nat)(a b:Nat)(w:World)(h:Vu w g n us ds)(ha:a < 18446744073709551616)(hb:b < 18446744073709551616):
  Calls Tryz.prog 194 #[.pointer (some ⟨g,0,none⟩),.int .u64 (a:Int),.int .u64 (b:Int)] w fun e w'=>e= .returned (.int .u64 (Vt ds n a b:Int))∧w=w':=by
 have h1:=ZfY g n us ds a b w h ha hb
 generalize Vt ds n a b=x at*
 clear h
 go_enter Tryz.func194,Tryz.ntmps194
 go_wp2_with fail
 refine h1.mono ?_
 rintro e w' ⟨rfl,rfl⟩
 go_wp2_with fail
 go_ret
 exact⟨rfl,rfl⟩
theorem Zf0 (a b:Nat)(w:World):
  Calls Tryz.prog 194 #[.pointer none,.int .u64 (a:Int),.int .u64 (b:Int)] w fun e w'=>e= .returned (.int .u64 0)∧w=w':=by
 have h1:=Zao a b w
 go_enter Tryz.func194,Tryz.ntmps194
 go_wp2_with fail
 refine h1.mono ?_
 rintro e w' ⟨rfl,rfl⟩
 go_wp2_with fail
 go_ret
 exact⟨rfl,rfl⟩
theorem Zh6 (g n:Nat)(us ds:List Nat)(w:World)(h:Vu w g n us ds):
  Calls Tryz.prog 195 #[.pointer (some ⟨g,0,none⟩)] w fun e w'=>e= .returned (.int .u64 (endN ds n:Int))∧w=w':=by
 have h1:=Zh5 g n us ds w h
 generalize endN ds n=x at*
 clear h
 go_enter Tryz.func195,Tryz.ntmps195
 go_wp2_with fail
 refine h1.mono ?_
 rintro e w' ⟨rfl,rfl⟩
 go_wp2_with fail
 go_ret
 exact⟨rfl,rfl⟩
theorem Zh7 (w:World):
  Calls Tryz.prog 195 #[.pointer none] w fun e w'=>e= .returned (.int .u64 0)∧w=w':=by
 have h1:=Zbp w
 go_enter Tryz.func195,Tryz.ntmps195
 go_wp2_with fail
 refine h1.mono ?_
 rintro e w' ⟨rfl,rfl⟩
 go_wp2_with fail
 go_ret
 exact⟨rfl,rfl⟩
end Go.Proofs.YtmejhedegmjboaaGreat.La
namespace Go.Proofs.YtmejhedegmjboaaGreat.La
open Go.RowKit
def z64:List Nat:=List.replicate 64 0
theorem Zl0 (W:World):(zeroValue 129).run Tryz.prog W= .ok (.agg (lc 0 z64 z64)) W:=by kernel_rfl
theorem Zh8 (n:Nat)(us ds:List Nat):(lc 0 us ds).setIfInBounds 0 (.int .i64 (n:Int))=lc n us ds:=by simp[lc]
theorem ZkF (n:Nat)(us ds:List Nat): ¬(lc n us ds= #[]):=by simp[lc]
theorem ZkG {n:Nat}{us ds:List Nat}(hu:us.length=64)(j v:Nat):(lc n us ds).setIfInBounds (65+j) (.int .u64 (v:Int))=lc n us (ds.set j v):=by
 have e:65+j=(64+j)+1:=by omega
 have e2:64+j - us.length=j:=by omega
 rw[lc,lc,e]
 simp only[sA,sC,List.map_append]
 rw[List.set_append_right _ _ (by rw[List.length_map];omega),List.length_map,e2,List.map_set]
 rfl
def pad (l:List Nat):List Nat:=l++List.replicate (64 - l.length) 0
theorem Zap {l:List Nat}(h:l.length≤64):(pad l).length=64:=by
 rw[pad,List.length_append,List.length_replicate]
 omega
theorem Zf1 {l:List Nat}{j:Nat}(h:j < l.length)(h':j < (pad l).length):(pad l)[j]=l[j]:=by
 simp only[pad]
 exact List.getElem_append_left h
theorem KL {l:List Nat}{j:Nat}(h:j < l.length):(pad l).getD j 0=l.getD j 0:=by
 have h':j < (pad l).length:=by rw[pad,List.length_append];omega
 rw[getD_at h',getD_at h,Zf1 h]
theorem ZkH {l:List Nat}{j v:Nat}(h:j < l.length):(pad l).set j v=pad (l.set j v):=by
 rw[pad,pad,List.set_append_left _ _ h,List.length_set]
theorem Zh9 (l:List Nat):(pad l).take l.length=l:=by
 rw[pad,List.take_left']
 rfl
theorem Zaq {l:List Nat}(h:Fit l):Fit (pad l):=by
 intro x hx
 rcases List.mem_append.1 hx with hx|hx
 ·exact h x hx
 ·obtain⟨_,rfl⟩:=List.mem_replicate.1 hx
  decide
theorem Zia {n:Nat}(h:n≤64):pad (List.replicate n 0)=z64:=by
 rw[pad,List.length_replicate,List.replicate_append_replicate,z64]
 congr 1
 omega
theorem Zf2 {l:List Nat}(h:l.length≤64):(splice (Value.int .i64 (l.length:Int)::(z64++z64).map nm) 1 (l.map nm)).toArray=lc l.length (pad l) z64:=by
 have e:1+(l.map nm).length=l.length+1:=by rw[List.length_map];omega
 rw[splice,e,lc,List.drop_succ_cons,List.take_succ_cons,List.take_zero,List.singleton_append]
 congr 2
 rw[← List.map_drop, ← List.map_append,pad,List.append_assoc,List.drop_append_of_le_length (by rw[z64,List.length_replicate];exact h)]
 congr 3
 rw[z64,List.drop_replicate]
def NRel (n:Nat)(l:List Nat)(w:World)(g:Nat)(v26:Value)(wr:World):Prop:=
 ∃i:Nat,v26= .int .u64 (i:Int)∧i≤n∧wr.heap[g]?=some (.cells (lc n (pad l) (pad (ZR l i 0))) 129 (0,0))∧Below w.heap.size w wr
def NIn (n:Nat)(l:List Nat)(w:World)(g i:Nat)(v32:Value)(wr:World):Prop:=
 ∃j:Nat,v32= .int .u64 (j:Int)∧j≤n∧wr.heap[g]?=some (.cells (lc n (pad l) (pad (ZR l i j))) 129 (0,0))∧Below w.heap.size w wr
theorem Zf3:(Tryz.prog.info? 60).map (·.size)=some 1:=by kernel_rfl
theorem Zff (A:Option Addr)(n c:Nat)(l:List Nat)(w:World)(h:Rd nm w w.heap.size A n c l)(hf:Fit l)(x:Int)(hx:checkN l=x)(h0:x≠0):
  Calls Tryz.prog 26 #[.slice A n c] w fun e w'=>e= .returned (.tuple #[.pointer none,.int .i64 x])∧Below w.heap.size w w':=by
 have hch:=check_any A n c l w h hf
 rw[hx] at hch
 have hne:(x !=0)=true:=by simpa using h0
 go_enter Tryz.func26,Tryz.ntmps26
 go_wp2_with fail
 refine hch.mono ?_
 rintro e w1 ⟨rfl,hb1⟩
 go_wp2_with fail
 exact bodyPost_ret (v:= .tuple #[.pointer none,.int .i64 x]) (by simp[results,Tryz.results26,go_sem]) rfl ⟨rfl,hb1⟩
theorem ZbT (A:Option Addr)(n c:Nat)(l:List Nat)(w:World)(h:Rd nm w w.heap.size A n c l)(hf:Fit l)(hx:checkN l=0):
  Calls Tryz.prog 26 #[.slice A n c] w fun e w'=> ∃g,e= .returned (.tuple #[.pointer (some ⟨g,0,none⟩),.int .i64 0])∧w.heap.size≤g∧Vu w' g n (pad l) (pad (Zo l))∧Below w.heap.size w w':=by
 have hok:=Yq hx
 have h64:l.length≤64:=hok.known.1.2
 have HL:=Hd h.len
 have hn64:n≤64:=by rw[← HL.out];exact h64
 have hch:=check_any A n c l w h hf
 rw[hx] at hch
 have HFIN:Hid (∀g wr,wr.heap[g]?=some (.cells (lc n (pad l) (pad (Zo l))) 129 (0,0))→Vu wr g n (pad l) (pad (Zo l))):=
  Hd fun g wr hb=>⟨hb,Zap h64,Zap (by rw[Zq];exact h64),hn64,Zaq hf,Zaq (YH h64)⟩
 have HOK:=Hd hok
 clear hok hx
 have hz:=Zl0
 have hset:=Zh8 n z64 z64
 have hsm:=ZkF 0 z64 z64
 go_enter Tryz.func26,Tryz.ntmps26
 go_wp2_with fail
 refine hch.mono ?_
 rintro e w1 ⟨rfl,hb1⟩
 have r1:=h.at_size lR hb1
 have hpos:0 < (l.map nm).length→ ∃ad,A=some ad∧ ∀j v,(l.map nm)[j]?=some v→(w1.alloc (.cells (lc n z64 z64) 129)).cell? (ad.add j)=some v:=by(
 intro h0
 rw[List.length_map,HL.out] at h0
 obtain⟨b,o,hA,hbb,hcc⟩:=(r1.keep (w':=w1.alloc (.cells (lc n z64 z64) 129)) (fun k hk=>((Below.refl w1.heap.size w1).alloc lR _).block k hk)).spot h0
 exact⟨_,hA,Rd.cells hcc⟩)
 have hb2:Below w.heap.size w (w1.alloc (.cells (lc n z64 z64) 129)):=hb1.alloc hb1.size _
 have HSP:Hid ((splice (Value.int .i64 (n:Int)::(z64++z64).map nm) 1 (l.map nm)).toArray=lc n (pad l) z64):=Hd (by rw[← HL.out];exact Zf2 h64)
 have hfit:1+(l.map nm).length≤(Value.int .i64 (n:Int)::(z64++z64).map nm).length:=by
  simp[z64]
  omega
 have hmin:(l.map nm).length=Nat.min n 64:=by rw[List.length_map,HL.out];exact(Nat.min_eq_left hn64).symm
 have hone: ∀v∈l.map nm,v.oneCell'=true:=Zb5 ZaW l
 have hnew:(w1.alloc (.cells (lc n z64 z64) 129)).heap[w1.heap.size]?=some (.cells (Value.int .i64 (n:Int)::(z64++z64).map nm).toArray 129 (0,0)):=heap_alloc_new w1 _
 obtain⟨cur,hcur⟩: ∃cur,cur=(Value.int .i64 (n:Int)::(z64++z64).map nm):=⟨_,rfl⟩
 rw[← hcur] at hnew hfit HSP
 obtain⟨cs,hcs⟩: ∃cs,cs=l.map nm:=⟨_,rfl⟩
 rw[← hcs] at hfit hmin hone hpos HSP
 have HCUR:=Hd hcur
 have HCS:=Hd hcs
 clear hcur hcs
 have HH1:=Hd hnew
 have HH2:=Hd hpos
 have HH3:=Hd hone
 have HH4:=Hd hmin
 clear hnew hpos hone hmin
 go_wp2_with (with_reducible refine wpList_copy_splice rfl (.tmp 20) (.tmp 21) 22 22 rfl 60 Tryz.underlying22 Zf3 (some ⟨w1.heap.size,1,none⟩) A 64 64 n c rfl rfl w1.heap.size 1 cur 129 HH1.out cs HH4.out (fun h0=>⟨rfl,HH2.out h0⟩) hfit HH3.out w.heap.size w hb2 hb1.size ?_;intro w2 HG2 hb3)
 have HBLK:Hid (w2.heap[w1.heap.size]?=some (.cells (lc n (pad l) (pad (ZR l 0 0))) 129 (0,0))):=by(
 have:=HG2.out
 rw[HSP.out] at this
 refine Hd ?_
 rw[Q9,Zia h64]
 exact this)
 have hold:w.heap.size≤w1.heap.size:=hb1.size
 clear HG2 HSP HCUR HCS HH1 HH2 HH3 HH4 hfit hz hset hsm hb2 hb1 r1 hch
 generalize w1.heap.size=g at*
 go_loopw [26] (fun v26 wr=>NRel n l w g v26 wr) (fun v26 _=>n - (intOf v26).toNat)
 case atStart=>exact⟨0,rfl,by omega,HBLK.out,hb3⟩
 case round=>(
 clear HBLK hb3
 obtain⟨i,rfl,hi,hblk,hb⟩:=hrel
 have HB:=Hd hblk
 clear hblk
 by_cases hlt:i < n
 ·(
 go_wp2
 go_loopw [32] (fun v32 wr=>NIn n l w g i v32 wr) (fun v32 _=>n - (intOf v32).toNat)
 case atStart=>exact⟨0,rfl,by omega,HB.out,hb⟩
 case round=>(
 clear HB hb
 obtain⟨j,rfl,hj,hblk,hb2⟩:=hrel
 by_cases hlt2:j < n
 ·(
 have hcall:=VW A n c w.heap.size l i j wr (h.below hb2) hf (by omega) (by omega)
 rw[Yh h64 (by rw[HL.out];exact hlt) (by rw[HL.out];exact hlt2)] at hcall
 have hp:=Ud (k:=i) (by omega)
 have hlen:j < (ZR l i j).length:=by rw[Qa,HL.out];exact hlt2
 have hlat:Vu wr g n (pad l) (pad (ZR l i j)):=⟨hblk,Zap h64,Zap (by rw[Qa];exact h64),hn64,Zaq hf,Zaq (Qb l i j (by omega))⟩
 have hlp:j < (pad (ZR l i j)).length:=by rw[hlat.dl];omega
 have hcj:=hlat.down j hlp
 have hfz:wr.frozen? ⟨g,65+j,none⟩=false:=Zc hblk
 have hyes:=Za0 l i j hlen
 have hfit:=(Qb l i j (by omega)).get j hlen
 rw[Zf1 hlen hlp] at hcj
 have HYES:Hid (bt l i j=true→(lc n (pad l) (pad (ZR l i j))).setIfInBounds (65+j) (.int .u64 (((ZR l i j)[j]|||2 ^ i:Nat):Int))=lc n (pad l) (pad (ZR l i (j+1)))):=Hd fun hb=>by
  rw[ZkG hlat.ul,ZkH hlen,hyes hb]
 have hor:=u64_or_nat (ZR l i j)[j] (2 ^ i) hfit (by exact Nat.pow_lt_pow_right (n:=64) (by decide) (by omega))
 generalize (ZR l i j)[j]|||2 ^ i=q at*
 generalize (ZR l i j)[j]=y at*
 have HBK:=Hd hblk
 clear hblk hyes hlat hlp hlen
 generalize 2 ^ i=p at*
 cases hbit:bt l i j with
 |true=>(
 rw[hbit] at hcall
 have HBIT:=Hd hbit
 clear hbit
 go_wp2_with (go_at_call 58;refine hcall.mono ?_;rintro e w' ⟨rfl,rfl⟩)
 have hj64:(j:Int) < 64:=by omega
 go_still_tail 12,(by kernel_rfl)
 change wpList _ _ _ _ _ wr.drew
 have hcj':wr.drew.cell? ⟨g,65+j,none⟩=some (.int .u64 (y:Int)):=hcj
 have hfz':wr.drew.frozen? ⟨g,65+j,none⟩=false:=hfz
 have hb3:Below w.heap.size w wr.drew:=hb2.trans (Vb wr)
 have HBK':Hid (wr.drew.heap[g]?=some (.cells (lc n (pad l) (pad (ZR l i j))) 129 (0,0))):=HBK
 clear hcj hfz HBK hb2 hcall
 generalize wr.drew=w3 at*
 go_wp2
 go_roundw
 case rel=>exact⟨j+1,by go_num,by omega,by rw[Zm HBK'.out,HYES.out HBIT.out],hb3.setCell (p:=⟨g,65+j,none⟩) hold _⟩
 case measure=>simp[intOf];omega)
 |false=>(
 rw[hbit] at hcall
 have HBIT:=Hd hbit
 clear hbit
 go_wp2_with (go_at_call 58;refine hcall.mono ?_;rintro e w' ⟨rfl,rfl⟩)
 go_roundw
 case rel=>exact⟨j+1,by go_num,by omega,by rw[ZcG l i j HBIT.out];exact HBK.out,hb2⟩
 case measure=>simp[intOf];omega))
 ·(
 obtain rfl:j=n:=by omega
 have HB2:=Hd hblk
 clear hblk
 go_wp2
 go_roundw
 case rel=>exact⟨i+1,by go_num,by omega,by rw[← ZaY,HL.out];exact HB2.out,hb2⟩
 case measure=>simp[intOf];omega)))
 ·obtain rfl:i=n:=by omega
  go_wp2
  exact bodyPost_ret (v:= .tuple #[.pointer (some ⟨g,0,none⟩),.int .i64 0]) (by simp[results,Tryz.results26,go_sem]) rfl ⟨g,rfl,hold,HFIN.out g _ (by have:=HB.out;rwa [← HL.out,ZaZ,HL.out] at this),hb⟩)
end Go.Proofs.YtmejhedegmjboaaGreat.La
namespace Go.Proofs.YtmejhedegmjboaaGreat.La
open Go.ChangeShapes Go.WideShapes Go.ChangeAt Go.RowKit
theorem opened {H:Type}{enc:TypeId×Value→H}{P:Program}{W:World}{t e:TypeId}{k:IntKind}{a0:Option Addr}{len0 cap0:Nat}{d:DataW H}{p:List MemPlace}
  (ht:P.underlying t=some (.slice e)) (he:P.underlying e=some (.int k)) (hc:P.cellsOf e=1) (h:DataW.Trod enc P W 0 (fun _=>true) true t (.slice a0 len0 cap0) d p):
  ∃zs:List Int,zs.length=len0∧len0≤cap0∧cap0≤maxLen∧(a0=none→cap0=0)∧(∀z∈zs,(Lit.int k z).wf=true)∧
   (0 < len0→ ∃b o,a0=some ⟨b,o,none⟩∧b < W.heap.size∧ ∀j (h:j < zs.length),W.cell? ⟨b,o+j,none⟩=some (.int k zs[j])):=by
 obtain⟨fuel,hf⟩:=h
 rcases open_ints ht he hc hf with⟨hcs,_⟩|⟨x,l,c,zs,hcs,_,hl,hm,hz,_,hcell,hwz⟩
 ·simp[Value.cells] at hcs
  obtain⟨rfl,rfl,rfl⟩:=hcs
  exact⟨[],rfl,Nat.le_refl _,Nat.zero_le _,fun _=>rfl,(by simp),fun h=>absurd h (by omega)⟩
 ·(
 simp[Value.cells] at hcs
 obtain⟨rfl,rfl,rfl⟩:=hcs
 have hz':zs.length=cap0:=by simpa using hz
 refine⟨zs.take len0,by rw[List.length_take];omega,hl,hm,(fun h=>by cases h),fun z hzz=>hwz z (List.mem_of_mem_take hzz),fun h0=> ?_⟩
 obtain⟨b,o,spot⟩:=x
 have hc0:=hcell 0 (by omega)
 have hspot:spot=none:=by simpa [Addr.add] using World.cell?_spot hc0
 subst hspot
 refine⟨b,o,rfl,?_,fun j hj=> ?_⟩
 ·exact World.block_lt_of_cell? W ⟨b,o,none⟩ (by simpa [Addr.add] using hc0)
 ·(
 rw[List.length_take] at hj
 have:=hcell j (by omega)
 rw[Addr.add_lit] at this
 rw[this]
 simp[List.getD,List.getElem?_eq_getElem (show j < zs.length by omega)]))
theorem Zca {a:Int}(h:(Lit.int .u64 a).wf=true): ∃x:Nat,a=(x:Int)∧x < 18446744073709551616:=by
 have hb:IntKind.u64.min≤a∧a≤IntKind.u64.max:=by simpa [Lit.wf] using h
 have e1:IntKind.u64.min=0:=by decide
 have e2:IntKind.u64.max=18446744073709551615:=by decide
 rw[e1,e2] at hb
 exact⟨a.toNat,by omega,by omega⟩
theorem Zcb {H:Type}{enc:TypeId×Value→H}{P:Program}{W:World}{t e:TypeId}{a0:Option Addr}{len0 cap0:Nat}{d:DataW H}{p:List MemPlace}
  (ht:P.underlying t=some (.slice e)) (he:P.underlying e=some (.int .u64)) (hc:P.cellsOf e=1) (h:DataW.Trod enc P W 0 (fun _=>true) true t (.slice a0 len0 cap0) d p):
  ∃us:List Nat,Rd nm W W.heap.size a0 len0 cap0 us∧Fit us:=by
 obtain⟨zs,h1,h2,h3,h4,h5,h6⟩:=opened ht he hc h
 refine⟨zs.map Int.toNat,⟨by simpa using h1,h2,h3,h4,fun h0=> ?_⟩,fun x hx=> ?_⟩
 ·(
 obtain⟨b,o,rfl,hb,hcell⟩:=h6 h0
 refine⟨b,o,rfl,hb,fun j hj=> ?_⟩
 have hj':j < zs.length:=by simpa using hj
 obtain⟨y,hy,_⟩:=Zca (h5 zs[j] (List.getElem_mem hj'))
 rw[hcell j hj',List.getElem_map,hy]
 rfl)
 ·obtain⟨z,hz,rfl⟩:=List.mem_map.1 hx
  obtain⟨y,rfl,hy⟩:=Zca (h5 z hz)
  simpa using hy
end Go.Proofs.YtmejhedegmjboaaGreat.La
