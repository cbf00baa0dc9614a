import Derived.Test.YtmejhedegmjboaaGreatLists
set_option maxRecDepth 100000
set_option maxHeartbeats 8000000
namespace Go.Proofs.YtmejhedegmjboaaGreat
open Go.RowKit
def hdR (r n k:Nat):Array Value:=((List.range n).map fun i=>if i < k then Value.slice (some ⟨r,i*n,none⟩) n n else Value.slice none 0 0).toArray
theorem Zba {r n k i:Nat}(hi:i < n)(hk:i < k):(hdR r n k)[i]?=some (.slice (some ⟨r,i*n,none⟩) n n):=by simp[hdR,hi,hk]
theorem Zi4 {r n k i:Nat}(hi:i < n)(hk: ¬i < k):(hdR r n k)[i]?=some (.slice none 0 0):=by simp[hdR,hi,hk]
theorem Zkb {r n k:Nat}:(hdR r n k).setIfInBounds k (.slice (some ⟨r,k*n,none⟩) n n)=hdR r n (k+1):=by
 apply Array.ext'
 simp only[hdR,sA]
 apply List.ext_getElem (by simp)
 intro x h1 h2
 by_cases e:x=k
 ·subst e
  rw[List.getElem_set_self]
  simp
 ·rw[List.getElem_set_ne (by omega)]
  have:(x < k+1)=(x < k):=propext ⟨fun h=>by omega,fun h=>by omega⟩
  simp[this]
theorem Zhz (r n:Nat):madeCells #[.slice none 0 0] n=hdR r n 0:=by rw[Re.ZcM n fun _=>0];simp[Re.hdr,hdR]
def U2 (n:Nat)(F:Nat→Nat→Bool)(p:Nat):Bool:=F (p / n) (p%n)
theorem Zfi {n:Nat}{F:Nat→Nat→Bool}{i j:Nat}(hj:j < n):U2 n F (i*n+j)=F i j:=by
 unfold U2
 have h0:0 < n:=by omega
 rw[Nat.mul_comm i n,Nat.mul_add_div h0,Nat.mul_add_mod,Nat.div_eq_of_lt hj,Nat.mod_eq_of_lt hj,Nat.add_zero]
structure RwAt (w0 w:World)(g r n:Nat)(F:Nat→Nat→Bool)(k p:Nat):Prop where
 hd:w.heap[g]?=some (.cells (hdR r n k) 71 (0,0))
 rm:w.heap[r]?=some (.cells (Re.bls (U2 n F) (n*n) p) 4 (0,0))
 gb:w0.heap.size≤g
 rb:w0.heap.size≤r
 ne:g≠r
 bel:Below w0.heap.size w0 w
theorem RwAt.keep {w0 w w':World}{g r n:Nat}{F:Nat→Nat→Bool}{k p:Nat}(h:RwAt w0 w g r n F k p)(hb:Below w.heap.size w w'):RwAt w0 w' g r n F k p:=
 ⟨(hb.block _ (Zh h.hd)).trans h.hd,(hb.block _ (Zh h.rm)).trans h.rm,h.gb,h.rb,h.ne,h.bel.trans (hb.mono h.bel.size)⟩
theorem Zp {B:Nat}{w w':World}(h:Below B w w'){p:Addr}(hg:B≤p.block)(u:Value):Below B w (w'.setCell p u):=
 ⟨h.os,h.tape,h.output,by rw[World.size_setCell];exact h.size,fun k hk=>(Below.heap_setCell w' p u k (by omega)).trans (h.block k hk)⟩
theorem RwAt.since {w0 w1 w:World}{g r n:Nat}{F:Nat→Nat→Bool}{k p:Nat}(h:RwAt w1 w g r n F k p)(hb:Below w0.heap.size w0 w1):RwAt w0 w g r n F k p:=
 ⟨h.hd,h.rm,Nat.le_trans hb.size h.gb,Nat.le_trans hb.size h.rb,h.ne,hb.trans (h.bel.mono hb.size)⟩
theorem RwAt.cut {w0 w:World}{g r n:Nat}{F:Nat→Nat→Bool}{k p:Nat}(h:RwAt w0 w g r n F k p):RwAt w0 (w.setCell ⟨g,k,none⟩ (.slice (some ⟨r,k*n,none⟩) n n)) g r n F (k+1) p:=
 ⟨by rw[Zm h.hd,Zkb],(Below.heap_setCell w ⟨g,k,none⟩ _ r (by simpa using h.ne.symm)).trans h.rm,h.gb,h.rb,h.ne,Zp h.bel h.gb _⟩
theorem RwAt.put {w0 w:World}{g r n:Nat}{F:Nat→Nat→Bool}{k i j:Nat}(h:RwAt w0 w g r n F k (i*n+j))(hj:j < n):RwAt w0 (w.setCell ⟨r,i*n+j,none⟩ (.bool (F i j))) g r n F k (i*n+j+1):=
 ⟨(Below.heap_setCell w ⟨r,i*n+j,none⟩ _ g (by simpa using h.ne)).trans h.hd,by rw[Zm h.rm, ← Zfi (F:=F) hj,Re.Ze3],h.gb,h.rb,h.ne,Zp h.bel h.rb _⟩
theorem RwAt.rows {w0 w:World}{g r n:Nat}{F:Nat→Nat→Bool}(h:RwAt w0 w g r n F n (n*n))(hn:n≤256):Ve w w.heap.size (some ⟨g,0,none⟩) n n (sqL n F):=by
 refine⟨(List.range n).map fun i=>(some ⟨r,i*n,none⟩,n,n),?_,by simp[sqL],fun i h1 h2=> ?_⟩
 ·refine⟨by simp,Nat.le_refl _,by unfold maxLen;omega,(fun e=>by cases e),fun h0=>⟨g,0,rfl,Zh h.hd,fun j hj=> ?_⟩⟩
  have hj':j < n:=by simpa using hj
  rw[Nat.zero_add,Zb h.hd,Zba hj' hj']
  simp[slc]
 ·(
 have hi:i < n:=by simpa using h1
 simp only[List.getElem_map,List.getElem_range,YO]
 refine⟨by simp,Nat.le_refl _,by unfold maxLen;omega,(fun e=>by cases e),fun h0=>⟨r,i*n,rfl,Zh h.rm,fun j hj=> ?_⟩⟩
 have hj':j < n:=by simpa using hj
 have hlt:i*n+j < n*n:=by(
 have:(i+1)*n≤n*n:=Nat.mul_le_mul_right _ hi
 rw[Nat.add_mul,Nat.one_mul] at this
 omega)
 rw[Zb h.rm,Re.Y7 hlt]
 simp[hlt,Zfi hj'])
theorem Zfj (f:Nat→Bool)(m:Nat)(h:m≤65536)(W:World):(Instr.makeSlice 71 (.int .i64 (m:Int)) (.int .i64 (m:Int))).run Tryz.prog W= .ok (.slice (some ⟨W.heap.size,0,none⟩) m m) (W.alloc (.cells (Re.bls f m 0) 4)):=by
 obtain⟨i0,hi0,hz0,hz1,hz2⟩:=info_parts Re.inf4
 have:=run_make (P:=Tryz.prog) W 71 4 i0 _ Tryz.underlying71 hi0 hz0 .i64 .i64 m m (by omega) (Int.le_refl _) (by rw[hz2];omega) (by omega)
 rw[this,hz1,Nat.mul_one,Int.toNat_natCast]
 rw[show(Value.bool false).cells= #[.bool false] from rfl,Re.ZcN m f]
theorem Zkc (r n:Nat)(h:n≤256)(W:World):(Instr.makeSlice 26 (.int .i64 (n:Int)) (.int .i64 (n:Int))).run Tryz.prog W= .ok (.slice (some ⟨W.heap.size,0,none⟩) n n) (W.alloc (.cells (hdR r n 0) 71)):=by
 obtain⟨i0,hi0,hz0,hz1,hz2⟩:=info_parts Re.Zlv
 have:=run_make (P:=Tryz.prog) W 26 71 i0 _ Tryz.underlying26 hi0 hz0 .i64 .i64 n n (by omega) (Int.le_refl _) (by rw[hz2];omega) (by omega)
 rw[this,hz1,Nat.mul_one,Int.toNat_natCast]
 rw[show(Value.slice none 0 0).cells= #[.slice none 0 0] from rfl,Zhz r n]
theorem Zi5:Tryz.prog.elem 71=4:=by simp[Program.elem,Tryz.underlying71]
theorem Zfk (w:World):(Go.sizeOf 4).run Tryz.prog w= .ok 1 w:=by kernel_rfl
theorem Zfl (r m n a e:Nat)(he:e=a+n)(hm:e≤m)(hn:0 < n)(W:World):(Instr.slice 71 (.slice (some ⟨r,0,none⟩) m m) (some (.int .i64 (a:Int))) (some (.int .i64 (e:Int))) (some (.int .i64 (e:Int)))).run Tryz.prog W= .ok (.slice (some ⟨r,a,none⟩) n n) W:=by
 rw[run_slice_lhm W 71 _ _ _ (by rw[Zi5];exact Tryz.underlying71) .i64 .i64 .i64 _ _ _ (by omega) (by omega) (Int.le_refl _) (by omega),Zi5,Zfk]
 have h1:e - a=n:=by omega
 have h2: ¬e=a:=by omega
 simp[Result.andThen,sliced,Addr.add_lit,h1,h2]
theorem VL {P:Program}{o:Oper}{a:Act}{w w':World}{v:Value}{K:Act→World→Prop}{Q:Exit→Act→World→Prop}(t:TypeId)(x:Operand)(ho:o.op= .makeSlice t x x)(h:(Instr.makeSlice t (a.eval x) (a.eval x)).run P w= .ok v w')(k:K (a.put o.dst v) w'):Oper.wp P o a w K Q:=by
 unfold Oper.wp execOp
 simp only[ho,Sem.run_bind,Sem.run_pure,Result.andThen_ok,h]
 exact k
theorem ZhA (n bl bv:Nat)(F:Nat→Nat→Bool)(w:World)(hn:n≤256)(h0:0 < n)
  (his: ∀W,Below w.heap.size w W→ ∀i j:Nat,i < n→j < n→Calls Tryz.prog 78 #[.int .i64 (i:Int),.int .i64 (j:Int),.pointer (some ⟨bl,0,none⟩),.pointer (some ⟨bv,0,none⟩)] W fun e w'=>e= .returned (.bool (F i j))∧Below W.heap.size W w'):
  Calls Tryz.prog 83 #[.int .i64 (n:Int),.func (.func 78) #[] #[.pointer (some ⟨bl,0,none⟩),.pointer (some ⟨bv,0,none⟩)]] w fun e w'=> ∃g r,e= .returned (.slice (some ⟨g,0,none⟩) n n)∧RwAt w w' g r n F n (n*n):=by
 have HN:=Hd hn
 have HP:=Hd h0
 have HI:=Hd his
 obtain⟨m,hm⟩: ∃m,n*n=m:=⟨_,rfl⟩
 have hm6:m≤65536:=by rw[← hm];exact Nat.mul_le_mul hn hn
 have HM:=Hd hm
 have HM6:=Hd hm6
 have HMI:Hid (IntKind.i64.wrap ((n:Int)*(n:Int))=(m:Int)):=Hd (by
 have:(n:Int)*(n:Int)=(m:Int):=by rw[← hm,Int.natCast_mul]
 rw[this,IntKind.wrap_i64]
 omega)
 clear hn h0 his hm hm6
 go_enter Tryz.func83,Tryz.ntmps83
 go_wp2_with fail
 refine Bo.VR [0,2,3,4] 1 5 _ _ [6,5,7] [1,6,7] [1,5] 8 (fun _=>True) (by kernel_rfl) (by kernel_rfl) rfl rfl rfl rfl (by kernel_rfl) (by kernel_rfl) (by kernel_rfl) (by kernel_rfl) (by kernel_rfl) (by kernel_rfl) (fun _ _ _ _ _ h=>h) trivial ?_
 simp only[steps,sE,sD]
 repeat(
 refine Bo.Zag (v:= ?_) rfl ?_ ?_
 rotate_left
 (focus(rintro w' -;go_simp;first|(rw[HMI.out])|(try with_reducible rfl)))
 simp only[Act.put,sA,sB,sC])
 have HB:Hid (Below w.heap.size w w.drew):=Hd (Below.refl _ _).drew
 generalize w.drew=w1 at*
 have HMA:Hid (∀f W,(Instr.makeSlice 71 (.int .i64 (m:Int)) (.int .i64 (m:Int))).run Tryz.prog W= .ok (.slice (some ⟨W.heap.size,0,none⟩) m m) (W.alloc (.cells (Re.bls f m 0) 4))):=Hd fun f W=>Zfj f m HM6.out W
 have HMB:Hid (∀r W,(Instr.makeSlice 26 (.int .i64 (n:Int)) (.int .i64 (n:Int))).run Tryz.prog W= .ok (.slice (some ⟨W.heap.size,0,none⟩) n n) (W.alloc (.cells (hdR r n 0) 71))):=Hd fun r W=>Zkc r n HN.out W
 refine Bo.Zah ⟨?_,?_⟩
 (focus(
 refine VL 26 (.tmp 9) rfl (HMB.out (w1.heap.size+1) _) ⟨trivial,?_⟩
 simp only[Act.put,sA,sB,sC]
 repeat((first|refine Zf rfl ?_|(refine Zd (v:= ?_) rfl rfl ?_ ?_;rotate_left;(focus(rintro w' -;go_simp;try with_reducible rfl))));simp only[Act.put,sA,sB,sC])
 have hB2:=HMA.out (U2 n F) (w1.alloc (.cells (hdR (w1.heap.size+1) n 0) 71))
 rw[World.size_alloc] at hB2
 refine Ze rfl rfl (fun K hK=> ?_)
 refine VL 71 (.tmp 13) rfl (hB2) (hK.out _ _ (fun _=>trivial) ?_)
 clear hK K hB2
 try simp only[Act.put,sA,sB,sC]
 repeat((first|refine Zf rfl ?_|(refine Zd (v:= ?_) rfl rfl ?_ ?_;rotate_left;(focus(rintro w' -;go_simp;try with_reducible rfl))));simp only[Act.put,sA,sB,sC])
 refine Zg ?_
 have hrw:RwAt w ((w1.alloc (.cells (hdR (w1.heap.size+1) n 0) 71)).alloc (.cells (Re.bls (U2 n F) m 0) 4)) (w1.heap.size) (w1.heap.size+1) n F 0 0:=by(
 have s1:(w1.alloc (.cells (hdR (w1.heap.size+1) n 0) 71)).heap.size=w1.heap.size+1:=by rw[World.size_alloc]
 have b2:Below (w1.heap.size+1) (w1.alloc (.cells (hdR (w1.heap.size+1) n 0) 71)) ((w1.alloc (.cells (hdR (w1.heap.size+1) n 0) 71)).alloc (.cells (Re.bls (U2 n F) m 0) 4)):=(Below.refl _ _).alloc (by rw[s1];exact Nat.le_refl _) _
 have h2:=heap_alloc_new (w1.alloc (.cells (hdR (w1.heap.size+1) n 0) 71)) (.cells (Re.bls (U2 n F) m 0) 4)
 rw[s1] at h2
 exact⟨(b2.block _ (Nat.lt_succ_self _)).trans (heap_alloc_new w1 _),by rw[HM.out];exact h2,HB.out.size,Nat.le_succ_of_le HB.out.size,by omega,(HB.out.alloc HB.out.size _).alloc (by rw[s1];exact Nat.le_succ_of_le HB.out.size) _⟩)
 generalize hwz:(w1.alloc (.cells (hdR (w1.heap.size+1) n 0) 71)).alloc (.cells (Re.bls (U2 n F) m 0) 4)=wz at*
 obtain⟨g,hg⟩: ∃g,w1.heap.size=g:=⟨_,rfl⟩
 simp only[hg] at*
 obtain⟨r,hr⟩: ∃r,g+1=r:=⟨_,rfl⟩
 simp only[hr] at*
 clear hwz HMA HMB HMI
 have HRW:=Hd hrw
 clear hrw HB
 clear hg hr
 go_wp2_with fail
 go_loopw [17] (fun v17 wr=> ∃i:Nat,v17= .int .i64 (i:Int)∧i≤n∧RwAt w wr g r n F i (i*n)) (fun v17 _=>n - (intOf v17).toNat)
 case atStart=>exact⟨0,rfl,by omega,by rw[Nat.zero_mul];exact HRW.out⟩
 case round=>
  clear HRW
  obtain⟨i,rfl,hi,hrw⟩:=hrel
  by_cases hlt:i < n
  ·(
 obtain⟨a,ha⟩: ∃a,i*n=a:=⟨_,rfl⟩
 have hae:a+n≤m:=by(
 have:=Nat.mul_le_mul_right n (Nat.succ_le_of_lt hlt)
 rw[HM.out,Nat.succ_mul,ha] at this
 exact this)
 rw[ha] at hrw
 have hm6:=HM6.out
 have HA1:Hid (wrap64 ((i:Int)*(n:Int))=(a:Int)):=Hd (by
 rw[← Int.natCast_mul,ha]
 unfold wrap64
 omega)
 have HE1:Hid (wrap64 (((i:Int)+1)*(n:Int))=((a+n:Nat):Int)):=Hd (by
 have:((i:Int)+1)*(n:Int)=((a+n:Nat):Int):=by rw[← ha, ← Nat.succ_mul];simp
 rw[this]
 unfold wrap64
 omega)
 have HNX:Hid (∀W,RwAt w W g r n F (i+1) (a+n)→RwAt w W g r n F (i+1) ((i+1)*n)):=Hd fun W h=>by rw[Nat.succ_mul,ha];exact h
 have hcut:=Zfl r m n a (a+n) rfl hae HP.out
 have hin:(i:Int) < (n:Int):=by omega
 have d0:=(Zb (i:=i) hrw.hd).trans (Zi4 hlt (Nat.lt_irrefl i))
 have f0:wr.frozen? ⟨g,i,none⟩=false:=Zc hrw.hd
 have hrw2:=hrw.cut
 have d1:=(Zb (i:=i) hrw2.hd).trans (Zba hlt (Nat.lt_succ_self i))
 rw[ha] at hrw2 d1
 have HRW:=Hd hrw2
 have HLT:=Hd hlt
 have hi64:=HN.out
 have HAT:Hid (∀j,j < n→ ∀W,RwAt w W g r n F (i+1) (a+j)→W.cell? ⟨r,a+j,none⟩=some (.bool false)∧W.frozen? ⟨r,a+j,none⟩=false∧RwAt w (W.setCell ⟨r,a+j,none⟩ (.bool (F i j))) g r n F (i+1) (a+(j+1))):=Hd fun j hj W h=>by(
 have hlt2:a+j < n*n:=by rw[HM.out];omega
 refine⟨(Zb (i:=a+j) h.rm).trans ?_,Zc h.rm,?_⟩
 ·rw[Re.Y7 hlt2];simp
 ·rw[← ha] at h ⊢
  exact h.put hj)
 have HCE:Hid (∀p W,RwAt w W g r n F (i+1) p→W.cell? ⟨g,i,none⟩=some (.slice (some ⟨r,a,none⟩) n n)):=Hd fun p W h=>by
  rw[← ha]
  exact(Zb (i:=i) h.hd).trans (Zba HLT.out (Nat.lt_succ_self i))
 obtain⟨e,he⟩: ∃e,a+n=e:=⟨_,rfl⟩
 rw[he] at HE1 hcut
 have HEE:=Hd he
 clear hrw hrw2 ha hlt hae he
 go_wp2_with (first|rw[HA1.out]|rw[HE1.out])
 clear hcut d0 f0 HA1 HE1
 generalize wr.setCell ⟨g,i,none⟩ (.slice (some ⟨r,a,none⟩) n n)=ws at*
 clear d1
 obtain⟨wo,rfl⟩: ∃wo,wo=ws:=⟨_,rfl⟩
 go_loopw [41] (fun v41 wq=> ∃j:Nat,v41= .int .i64 (j:Int)∧j≤n∧RwAt w wq g r n F (i+1) (a+j)) (fun v41 _=>n - (intOf v41).toNat)
 case atStart=>exact⟨0,rfl,by omega,HRW.out⟩
 case round=>(
 clear HRW
 obtain⟨j,rfl,hj,hrq⟩:=hrel
 by_cases hltj:j < n
 ·(
 have hjn:(j:Int) < (n:Int):=by omega
 have d1:=HCE.out _ _ hrq
 have HRQ:=Hd hrq
 have HLJ:=Hd hltj
 clear hrq hltj
 go_wp2_with fail
 refine wro [0,1,2,3,4,5,6,7,8,9,10] [8,10] 10 (fun w'=>w'.cell? ⟨g,i,none⟩=some (.slice (some ⟨r,a,none⟩) n n)) (by kernel_rfl) (fun _ _ _ _ _ h=>h) (HCE.out _ _ (HRQ.out.keep (Below.refl _ _).drew)) ?_
 simp only[steps,sE,sD]
 repeat((first|refine Zf rfl ?_|(refine Zd (v:= ?_) rfl rfl ?_ ?_;rotate_left;(focus(rintro w' x0;go_simp;try with_reducible rfl))));simp only[Act.put,sA,sB,sC])
 have HRQ2:=Hd (HRQ.out.keep (Below.refl _ _).drew)
 clear HRQ d1
 generalize World.drew _=wd at*
 refine Ze rfl rfl (fun K hK=> ?_)
 go_simp
 refine(HI.out _ HRQ2.out.bel i j HLT.out HLJ.out).mono ?_
 rintro e' w3 ⟨rfl,hb3⟩
 have HRQ3:=Hd (HRQ2.out.keep hb3)
 clear hb3 HRQ2
 refine hK.out _ _ (fun _=>HCE.out _ _ HRQ3.out) ?_
 clear hK K
 try simp only[Act.put,sA,sB,sC]
 repeat((first|refine Zf rfl ?_|(refine Zd (v:= ?_) rfl rfl ?_ ?_;rotate_left;(focus(rintro w' x0;go_simp;try with_reducible rfl))));simp only[Act.put,sA,sB,sC])
 obtain⟨d2,f2,hst⟩:=HAT.out j HLJ.out _ HRQ3.out
 have HST:=Hd hst
 clear hst
 refine Ze rfl rfl (fun K hK=> ?_)
 go_simp
 refine hK.out _ _ (fun h=>absurd rfl h) ?_
 clear hK K
 try simp only[Act.put,sA,sB,sC]
 refine Zg ?_
 clear d2 f2
 go_wp2_with fail
 go_roundw
 case rel=>exact⟨j+1,by go_num,by have:=HLJ.out;omega,HST.out⟩
 case measure=>(
 have:=HLJ.out
 simp[intOf]
 omega))
 ·(
 obtain rfl:j=n:=by omega
 have HRQ:=Hd (HNX.out _ hrq)
 clear hrq hltj
 go_wp2_with fail
 go_roundw
 case rel=>exact⟨i+1,by go_num,by have:=HLT.out;omega,HRQ.out⟩
 case measure=>(
 have:=HLT.out
 simp[intOf]
 omega))))
  ·obtain rfl:i=n:=by omega
   clear hlt
   go_wp2
   go_ret
   exact⟨g,r,rfl,hrw⟩))
 (focus(
 refine VL 71 (.tmp 13) rfl (HMA.out (U2 n F) _) ⟨trivial,?_⟩
 simp only[Act.put,sA,sB,sC]
 repeat((first|refine Zf rfl ?_|(refine Zd (v:= ?_) rfl rfl ?_ ?_;rotate_left;(focus(rintro w' -;go_simp;try with_reducible rfl))));simp only[Act.put,sA,sB,sC])
 have hB2:=HMB.out w1.heap.size (w1.alloc (.cells (Re.bls (U2 n F) m 0) 4))
 rw[World.size_alloc] at hB2
 refine Ze rfl rfl (fun K hK=> ?_)
 refine VL 26 (.tmp 9) rfl (hB2) (hK.out _ _ (fun _=>trivial) ?_)
 clear hK K hB2
 try simp only[Act.put,sA,sB,sC]
 repeat((first|refine Zf rfl ?_|(refine Zd (v:= ?_) rfl rfl ?_ ?_;rotate_left;(focus(rintro w' -;go_simp;try with_reducible rfl))));simp only[Act.put,sA,sB,sC])
 refine Zg ?_
 have hrw:RwAt w ((w1.alloc (.cells (Re.bls (U2 n F) m 0) 4)).alloc (.cells (hdR w1.heap.size n 0) 71)) (w1.heap.size+1) (w1.heap.size) n F 0 0:=by(
 have s1:(w1.alloc (.cells (Re.bls (U2 n F) m 0) 4)).heap.size=w1.heap.size+1:=by rw[World.size_alloc]
 have b2:Below (w1.heap.size+1) (w1.alloc (.cells (Re.bls (U2 n F) m 0) 4)) ((w1.alloc (.cells (Re.bls (U2 n F) m 0) 4)).alloc (.cells (hdR w1.heap.size n 0) 71)):=(Below.refl _ _).alloc (by rw[s1];exact Nat.le_refl _) _
 have h2:=heap_alloc_new (w1.alloc (.cells (Re.bls (U2 n F) m 0) 4)) (.cells (hdR w1.heap.size n 0) 71)
 rw[s1] at h2
 exact⟨h2,by rw[HM.out];exact(b2.block _ (Nat.lt_succ_self _)).trans (heap_alloc_new w1 _),Nat.le_succ_of_le HB.out.size,HB.out.size,by omega,(HB.out.alloc HB.out.size _).alloc (by rw[s1];exact Nat.le_succ_of_le HB.out.size) _⟩)
 generalize hwz:(w1.alloc (.cells (Re.bls (U2 n F) m 0) 4)).alloc (.cells (hdR w1.heap.size n 0) 71)=wz at*
 obtain⟨r,hr⟩: ∃r,w1.heap.size=r:=⟨_,rfl⟩
 simp only[hr] at*
 obtain⟨g,hg⟩: ∃g,r+1=g:=⟨_,rfl⟩
 simp only[hg] at*
 clear hwz HMA HMB HMI
 have HRW:=Hd hrw
 clear hrw HB
 clear hg hr
 go_wp2_with fail
 go_loopw [17] (fun v17 wr=> ∃i:Nat,v17= .int .i64 (i:Int)∧i≤n∧RwAt w wr g r n F i (i*n)) (fun v17 _=>n - (intOf v17).toNat)
 case atStart=>exact⟨0,rfl,by omega,by rw[Nat.zero_mul];exact HRW.out⟩
 case round=>
  clear HRW
  obtain⟨i,rfl,hi,hrw⟩:=hrel
  by_cases hlt:i < n
  ·(
 obtain⟨a,ha⟩: ∃a,i*n=a:=⟨_,rfl⟩
 have hae:a+n≤m:=by(
 have:=Nat.mul_le_mul_right n (Nat.succ_le_of_lt hlt)
 rw[HM.out,Nat.succ_mul,ha] at this
 exact this)
 rw[ha] at hrw
 have hm6:=HM6.out
 have HA1:Hid (wrap64 ((i:Int)*(n:Int))=(a:Int)):=Hd (by
 rw[← Int.natCast_mul,ha]
 unfold wrap64
 omega)
 have HE1:Hid (wrap64 (((i:Int)+1)*(n:Int))=((a+n:Nat):Int)):=Hd (by
 have:((i:Int)+1)*(n:Int)=((a+n:Nat):Int):=by rw[← ha, ← Nat.succ_mul];simp
 rw[this]
 unfold wrap64
 omega)
 have HNX:Hid (∀W,RwAt w W g r n F (i+1) (a+n)→RwAt w W g r n F (i+1) ((i+1)*n)):=Hd fun W h=>by rw[Nat.succ_mul,ha];exact h
 have hcut:=Zfl r m n a (a+n) rfl hae HP.out
 have hin:(i:Int) < (n:Int):=by omega
 have d0:=(Zb (i:=i) hrw.hd).trans (Zi4 hlt (Nat.lt_irrefl i))
 have f0:wr.frozen? ⟨g,i,none⟩=false:=Zc hrw.hd
 have hrw2:=hrw.cut
 have d1:=(Zb (i:=i) hrw2.hd).trans (Zba hlt (Nat.lt_succ_self i))
 rw[ha] at hrw2 d1
 have HRW:=Hd hrw2
 have HLT:=Hd hlt
 have hi64:=HN.out
 have HAT:Hid (∀j,j < n→ ∀W,RwAt w W g r n F (i+1) (a+j)→W.cell? ⟨r,a+j,none⟩=some (.bool false)∧W.frozen? ⟨r,a+j,none⟩=false∧RwAt w (W.setCell ⟨r,a+j,none⟩ (.bool (F i j))) g r n F (i+1) (a+(j+1))):=Hd fun j hj W h=>by(
 have hlt2:a+j < n*n:=by rw[HM.out];omega
 refine⟨(Zb (i:=a+j) h.rm).trans ?_,Zc h.rm,?_⟩
 ·rw[Re.Y7 hlt2];simp
 ·rw[← ha] at h ⊢
  exact h.put hj)
 have HCE:Hid (∀p W,RwAt w W g r n F (i+1) p→W.cell? ⟨g,i,none⟩=some (.slice (some ⟨r,a,none⟩) n n)):=Hd fun p W h=>by
  rw[← ha]
  exact(Zb (i:=i) h.hd).trans (Zba HLT.out (Nat.lt_succ_self i))
 obtain⟨e,he⟩: ∃e,a+n=e:=⟨_,rfl⟩
 rw[he] at HE1 hcut
 have HEE:=Hd he
 clear hrw hrw2 ha hlt hae he
 go_wp2_with (first|rw[HA1.out]|rw[HE1.out])
 clear hcut d0 f0 HA1 HE1
 generalize wr.setCell ⟨g,i,none⟩ (.slice (some ⟨r,a,none⟩) n n)=ws at*
 clear d1
 obtain⟨wo,rfl⟩: ∃wo,wo=ws:=⟨_,rfl⟩
 go_loopw [41] (fun v41 wq=> ∃j:Nat,v41= .int .i64 (j:Int)∧j≤n∧RwAt w wq g r n F (i+1) (a+j)) (fun v41 _=>n - (intOf v41).toNat)
 case atStart=>exact⟨0,rfl,by omega,HRW.out⟩
 case round=>(
 clear HRW
 obtain⟨j,rfl,hj,hrq⟩:=hrel
 by_cases hltj:j < n
 ·(
 have hjn:(j:Int) < (n:Int):=by omega
 have d1:=HCE.out _ _ hrq
 have HRQ:=Hd hrq
 have HLJ:=Hd hltj
 clear hrq hltj
 go_wp2_with fail
 refine wro [0,1,2,3,4,5,6,7,8,9,10] [8,10] 10 (fun w'=>w'.cell? ⟨g,i,none⟩=some (.slice (some ⟨r,a,none⟩) n n)) (by kernel_rfl) (fun _ _ _ _ _ h=>h) (HCE.out _ _ (HRQ.out.keep (Below.refl _ _).drew)) ?_
 simp only[steps,sE,sD]
 repeat((first|refine Zf rfl ?_|(refine Zd (v:= ?_) rfl rfl ?_ ?_;rotate_left;(focus(rintro w' x0;go_simp;try with_reducible rfl))));simp only[Act.put,sA,sB,sC])
 have HRQ2:=Hd (HRQ.out.keep (Below.refl _ _).drew)
 clear HRQ d1
 generalize World.drew _=wd at*
 refine Ze rfl rfl (fun K hK=> ?_)
 go_simp
 refine(HI.out _ HRQ2.out.bel i j HLT.out HLJ.out).mono ?_
 rintro e' w3 ⟨rfl,hb3⟩
 have HRQ3:=Hd (HRQ2.out.keep hb3)
 clear hb3 HRQ2
 refine hK.out _ _ (fun _=>HCE.out _ _ HRQ3.out) ?_
 clear hK K
 try simp only[Act.put,sA,sB,sC]
 repeat((first|refine Zf rfl ?_|(refine Zd (v:= ?_) rfl rfl ?_ ?_;rotate_left;(focus(rintro w' x0;go_simp;try with_reducible rfl))));simp only[Act.put,sA,sB,sC])
 obtain⟨d2,f2,hst⟩:=HAT.out j HLJ.out _ HRQ3.out
 have HST:=Hd hst
 clear hst
 refine Ze rfl rfl (fun K hK=> ?_)
 go_simp
 refine hK.out _ _ (fun h=>absurd rfl h) ?_
 clear hK K
 try simp only[Act.put,sA,sB,sC]
 refine Zg ?_
 clear d2 f2
 go_wp2_with fail
 go_roundw
 case rel=>exact⟨j+1,by go_num,by have:=HLJ.out;omega,HST.out⟩
 case measure=>(
 have:=HLJ.out
 simp[intOf]
 omega))
 ·(
 obtain rfl:j=n:=by omega
 have HRQ:=Hd (HNX.out _ hrq)
 clear hrq hltj
 go_wp2_with fail
 go_roundw
 case rel=>exact⟨i+1,by go_num,by have:=HLT.out;omega,HRQ.out⟩
 case measure=>(
 have:=HLT.out
 simp[intOf]
 omega))))
  ·obtain rfl:i=n:=by omega
   clear hlt
   go_wp2
   go_ret
   exact⟨g,r,rfl,hrw⟩))
end Go.Proofs.YtmejhedegmjboaaGreat
