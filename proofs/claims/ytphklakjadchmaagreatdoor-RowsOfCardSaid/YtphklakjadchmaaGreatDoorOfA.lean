import Derived.Test.YtphklakjadchmaaGreatDoorApart
import Derived.Test.YtphklakjadchmaaGreatDoorPutA
import Derived.Test.YtphklakjadchmaaGreatDoorRwO
namespace Go.Proofs.YtphklakjadchmaaGreatDoor
open Go.RowKit
theorem heldD {bk hb cap:Nat}{es:List Ent}{b:Nat}(hd:(heldOf bk hb cap es).D es.length b): ∃e∈es,∃a,e.A=some a∧b=a.block:=by
 obtain⟨j,hj,hn,hb⟩:=hd
 have hget:es.getD j zEnt=es[j]:=by rw[List.getD_eq_getElem?_getD,List.getElem?_eq_getElem hj];rfl
 have hn:(es.getD j zEnt).A.isNone=false:=hn
 have hb:b=((es.getD j zEnt).A.map Addr.block).getD 0:=hb
 rw[hget] at hn hb
 refine⟨es[j],List.getElem_mem hj,?_⟩
 cases hA:es[j].A with
 |none=>rw[hA] at hn;cases hn
 |some a=>exact⟨a,rfl,by rw[hb,hA];rfl⟩
structure Good (E sz base:Nat)(W:World)(es:List Ent):Prop where
 few:es.length≤1000
 lone: ∀e∈es,Lone E sz W e
 ap:es.Pairwise fun a b=> ∀x y,a.A=some x→b.A=some y→x.block≠y.block
 no: ∀e∈es,e.no≤1000
 ge: ∀e∈es,∀a,e.A=some a→base≤a.block
theorem Good.keep {E sz base:Nat}{W V:World}{es:List Ent}(h:Good E sz base W es)(hb:Below W.heap.size W V):Good E sz base V es:=
 ⟨h.few,fun e he=>(h.lone e he).keep (Kept.of_below (D:=fun _=>False) hb) fun _ _=>id,h.ap,h.no,h.ge⟩
theorem Good.held {K HT E sz base bk:Nat}{W:World}{es:List Ent}{v:Value}(h:Good E sz base W es)(hcell:W.cell? ⟨bk,K,none⟩=some v)(hbb: ∃B,W.heap[bk]?=some (.cells B 62 (0,0)))(own:W.ownsRow (bk+1) HT 3 v es.length (es.flatMap entc))(hbase:base≤bk)(pos:0 < es.length):
  ∃hb cap,BookAt K HT E sz (heldOf bk hb cap es) W∧ ∀b,(b=hb∨(heldOf bk hb cap es).D es.length b)→base≤b:=by
 obtain⟨hb,cap,h1,-,h2⟩:=book_of hcell hbb own pos h.few h.lone h.ap h.no
 refine⟨hb,cap,h2,fun b e=> ?_⟩
 rcases e with e|e
 ·omega
 ·obtain⟨x,hx,a,ha,rfl⟩:=heldD e
  exact h.ge x hx a ha
theorem good_one {E sz base:Nat}{W:World}{e:Ent}(h:Lone E sz W e)(hn:e.no≤1000)(hg: ∀a,e.A=some a→base≤a.block):Good E sz base W [e]:=
 ⟨by simp,fun x hx=>by
  rw[List.mem_singleton] at hx
  subst hx
  exact h,List.pairwise_singleton _ _,fun x hx=>by
  rw[List.mem_singleton] at hx
  subst hx
  exact hn,fun x hx=>by
  rw[List.mem_singleton] at hx
  subst hx
  exact hg⟩
theorem Good.snoc {E sz base:Nat}{W:World}{es:List Ent}{e:Ent}(h:Good E sz base W es)(hl:Lone E sz W e)(hn:e.no≤1000)(hg: ∀a,e.A=some a→base≤a.block)(hf:es.length≤999)(hap: ∀x∈es,∀a b,x.A=some a→e.A=some b→a.block≠b.block):Good E sz base W (es++ [e]):=by
 refine⟨by rw[List.length_append,List.length_singleton];omega,fun x hx=> ?_,List.pairwise_append.2 ⟨h.ap,List.pairwise_singleton _ _,fun x hx y hy=> ?_⟩,fun x hx=> ?_,fun x hx=> ?_⟩
 ·rw[List.mem_append,List.mem_singleton] at hx
  rcases hx with hx|rfl
  ·exact h.lone x hx
  ·exact hl
 ·rw[List.mem_singleton] at hy
  subst hy
  exact hap x hx
 ·rw[List.mem_append,List.mem_singleton] at hx
  rcases hx with hx|rfl
  ·exact h.no x hx
  ·exact hn
 ·rw[List.mem_append,List.mem_singleton] at hx
  rcases hx with hx|rfl
  ·exact h.ge x hx
  ·exact hg
set_option maxRecDepth 100000 in
set_option maxHeartbeats 2000000 in
theorem apartAll (base bk k:Nat)(esI:List Ent)(vI:Value)(esS:List Ent)(vS:Value)(esM:List Ent)(vM:Value)(esO:List Ent)(vO:Value)(esL:List Ent)(vL:Value)(W:World)(K:BookK W bk k vI esI.length (esI.flatMap entc) vS esS.length (esS.flatMap entc) vM esM.length (esM.flatMap entc) vO esO.length (esO.flatMap entc) vL esL.length (esL.flatMap entc))(hI:Good 3 1 base W esI)(hS:Good 102 5 base W esS)(hM:Good 82 1 base W esM)(hO:Good 4 1 base W esO)(hL:Good 42 1 base W esL)(hb:base≤bk)(pI:0 < esI.length)(pS:0 < esS.length)(pM:0 < esM.length)(pO:0 < esO.length)(pL:0 < esL.length):
  Calls Tryz.prog 21 #[.pointer (some ⟨bk,0,none⟩)] W fun e w'=>e= .returned (.bool true)∧Below base W w':=by
 have hbb: ∃B,W.heap[bk]?=some (.cells B 62 (0,0)):=⟨_,K.blk⟩
 obtain⟨gI,cI,BI,GI⟩:=hI.held (K:=2) (HT:=144) (bk:=bk) (by rw[cell_blk K.blk];rfl) hbb K.oI hb pI
 obtain⟨gS,cS,BS,GS⟩:=hS.held (K:=11) (HT:=180) (bk:=bk) (by rw[cell_blk K.blk];rfl) hbb K.oS hb pS
 obtain⟨gM,cM,BM,GM⟩:=hM.held (K:=4) (HT:=148) (bk:=bk) (by rw[cell_blk K.blk];rfl) hbb K.oM hb pM
 obtain⟨gO,cO,BO,GO⟩:=hO.held (K:=5) (HT:=146) (bk:=bk) (by rw[cell_blk K.blk];rfl) hbb K.oO hb pO
 obtain⟨gL,cL,BL,GL⟩:=hL.held (K:=6) (HT:=160) (bk:=bk) (by rw[cell_blk K.blk];rfl) hbb K.oL hb pL
 have hbase:base≤W.heap.size:=Nat.le_trans hb (Nat.le_of_lt (lt_blk K.blk))
 refine(apart_any _ _ _ _ _ bk _ _ _ _ _ _ W BI rfl BS rfl BM rfl BO rfl BL rfl K.blk).mono ?_
 rintro e w' ⟨rfl,kk⟩
 refine⟨rfl,kk.below hbase ?_⟩
 rintro b (e|e|e|e|e)
 ·exact GI b e
 ·exact GS b e
 ·exact GM b e
 ·exact GO b e
 ·exact GL b e
theorem lone_blk {E sz:Nat}{w:World}{g n c no:Nat}{cur:Array Value}(h:w.heap[g]?=some (.cells cur E (0,0)))(hs:cur.size=c*sz)(hn:n≤c)(hc:c≤1000000):Lone E sz w ⟨some ⟨g,0,none⟩,n,c,no⟩:=
 .inr ⟨g,cur,rfl,h,hs,hn,by show c≤maxLen;unfold maxLen;omega,by show n≤1000000;omega⟩
theorem Lone.lt {E sz:Nat}{w:World}{e:Ent}(h:Lone E sz w e): ∀a,e.A=some a→a.block < w.heap.size:=fun a ha=>by
 rcases h with⟨h,-,-⟩|⟨g,cur,h,hb,-⟩
 ·rw[h] at ha;cases ha
 ·rw[h] at ha
  injection ha with ha
  subst ha
  exact lt_blk hb
theorem lone_p {w0 w:World}{g n no:Nat}{l:List I.Sp}(h:I.TwinP w0 w g n l):Lone 102 5 w ⟨some ⟨g,0,none⟩,n,n+1,no⟩:=by
 have hl:=flat_len I.spc_len (l++ [I.bMark])
 have ht:=h.top
 refine lone_blk h.blk ?_ (Nat.le_succ _) (by omega)
 rw[List.size_toArray,hl,List.length_append,h.len]
 rfl
theorem lone_n {w0 w:World}{g n no:Nat}{l:List Nat}(h:La.TwinOf w0 w g n l)(hn:n≤100000):Lone 82 1 w ⟨some ⟨g,0,none⟩,n,n+1,no⟩:=by
 refine lone_blk h.blk ?_ (Nat.le_succ _) (by omega)
 have:=h.len
 simp[La.cl,this]
def twE (gs:List Nat)(l:List (List Bool))(i:Nat):Ent:=⟨some ⟨gs.getD i 0,0,none⟩,(l.getD i []).length,(l.getD i []).length+1,0⟩
theorem twE_at {gs:List Nat}{l:List (List Bool)}{i:Nat}(h1:i < gs.length)(h2:i < l.length):twE gs l i=⟨some ⟨gs[i],0,none⟩,l[i].length,l[i].length+1,0⟩:=by
 unfold twE
 rw[List.getD_eq_getElem?_getD,List.getD_eq_getElem?_getD,List.getElem?_eq_getElem h1,List.getElem?_eq_getElem h2]
 rfl
theorem ents_at {E:Nat→Ent}{k n i:Nat}(h:i < (entsO E k n).length):(entsO E k n)[i]=⟨(E i).A,(E i).n,(E i).c,k+i+1⟩:=by
 simp[entsO]
theorem tw_ents {B:Nat}{w:World}{g:Nat}{l:List (List Bool)}(h:I.TwLA B w g l)(hl:l.length≤1000)(hr: ∀r∈l,r.length≤1000):
  ∃E:Nat→Ent,RowsE w (some ⟨g,0,none⟩) l.length E∧(∀no,Lone 42 1 w ⟨some ⟨g,0,none⟩,l.length,l.length+1,no⟩)∧B≤g∧ ∀k,l.length+k≤1000→Good 4 1 B w (entsO E k l.length):=by
 obtain⟨gs,gm,h1,h2,⟨ha,hb,hc⟩,h3⟩:=h.ex
 refine⟨twE gs l,fun i hi=>⟨g,rfl,?_⟩,fun no=>lone_blk h2 (by simp[h1]) (Nat.le_succ _) (by omega),ha,fun k hk=>⟨by rw[entsO_len];omega,fun e he=> ?_,?_,fun e he=> ?_,fun e he a hA=> ?_⟩⟩
 ·have hg:i < gs.length:=by omega
  have hz:i < (List.zipWith I.hdv gs l).length:=by simp[h1,hi]
  rw[twE_at hg hi,cell_blk h2,List.getElem?_toArray,List.getElem?_append_left hz,List.getElem?_eq_getElem hz,List.getElem_zipWith]
  rfl
 ·obtain⟨j,hj,rfl⟩:=List.mem_map.1 he
  rw[List.mem_range] at hj
  have hg:j < gs.length:=by omega
  rw[twE_at hg hj]
  have:=hr _ (List.getElem_mem hj)
  show Lone 4 1 w ⟨some ⟨gs[j],0,none⟩,l[j].length,l[j].length+1,k+j+1⟩
  exact lone_blk (h3 j hg hj).blk (by simp) (Nat.le_succ _) (by omega)
 ·rw[List.pairwise_iff_getElem]
  intro i j hi hj hij x y hx hy
  rw[ents_at] at hx hy
  rw[entsO_len] at hi hj
  have hgi:i < gs.length:=by omega
  have hgj:j < gs.length:=by omega
  rw[twE_at hgi hi] at hx
  rw[twE_at hgj hj] at hy
  injection hx with hx
  injection hy with hy
  subst hx hy
  exact List.pairwise_iff_getElem.1 hc i j hgi hgj hij
 ·obtain⟨j,hj,rfl⟩:=List.mem_map.1 he
  rw[List.mem_range] at hj
  show k+j+1≤1000
  omega
 ·obtain⟨j,hj,rfl⟩:=List.mem_map.1 he
  rw[List.mem_range] at hj
  have hg:j < gs.length:=by omega
  rw[twE_at hg hj] at hA
  injection hA with hA
  subst hA
  exact hb _ (List.getElem_mem hg)
theorem lone_fx {S:Bo.Sr}{z:I.Sen}{w w':World}{A:Option Addr}{n c:Nat}{B:Option Addr}{m d:Nat}(h:I.FxIs S z w w' A n c B m d)(hn:z.p.length≤1000):(∀no,Lone 4 1 w' ⟨A,n,c,no⟩)∧(∀no,Lone 82 1 w' ⟨B,m,d,no⟩)∧(∀a,A=some a→w.heap.size≤a.block)∧ ∀a,B=some a→w.heap.size≤a.block:=by
 rcases h.2 with⟨hw,rfl,rfl,rfl,rfl,rfl,rfl⟩|⟨hw,ga,gb,rfl,rfl,rfl,rfl,rfl,rfl,hf⟩
 ·exact⟨fun _=> .inl ⟨rfl,rfl,rfl⟩,fun _=> .inl ⟨rfl,rfl,rfl⟩,(fun _ e=>by cases e),fun _ e=>by cases e⟩
 ·refine⟨fun _=>lone_blk hf.a (by simp[I.bcl,I.fxB_len]) (Nat.le_refl _) (by omega),fun _=>lone_blk hf.b (by simp[La.cl,I.fxV_len]) (Nat.le_refl _) (by omega),fun a e=> ?_,fun a e=> ?_⟩
  ·injection e with e
   subst e
   exact Nat.le_of_lt hf.ha
  ·injection e with e
   subst e
   exact Nat.le_of_lt hf.hb
theorem lone_of {z:I.Sen}{w w':World}{A:Option Addr}{n c:Nat}(h:I.OfIsR z w w' A n c)(hn:z.p.length≤1000):(∀no,Lone 3 1 w' ⟨A,n,c,no⟩)∧ ∀a,A=some a→w.heap.size≤a.block:=by
 rcases h.2 with⟨hw,rfl,rfl,rfl⟩|⟨hw,ga,rfl,rfl,rfl,hl,hf⟩
 ·exact⟨fun _=> .inl ⟨rfl,rfl,rfl⟩,fun _ e=>by cases e⟩
 ·refine⟨fun _=>lone_blk hf (by simp[I.icl,I.ofL]) (Nat.le_refl _) (by omega),fun a e=> ?_⟩
  injection e with e
  subst e
  exact Nat.le_of_lt hl
theorem bookK_keep {w W:World}{bk k:Nat}{vI:Value}{kI:Nat}{xI:List Value}{vS:Value}{kS:Nat}{xS:List Value}{vM:Value}{kM:Nat}{xM:List Value}{vO:Value}{kO:Nat}{xO:List Value}{vL:Value}{kL:Nat}{xL:List Value}(h:BookK w bk k vI kI xI vS kS xS vM kM xM vO kO xO vL kL xL)(hb:Below w.heap.size w W):BookK W bk k vI kI xI vS kS xS vM kM xM vO kO xO vL kL xL:=by
 exact⟨(hb.block bk (lt_blk h.blk)).trans h.blk,own_behind h.oI hb,own_behind h.oS hb,own_behind h.oM hb,own_behind h.oO hb,own_behind h.oL hb⟩
theorem book0 (w:World):BookK (w.alloc (.cells (bookCells 0 (.slice none 0 0) (.slice none 0 0) (.slice none 0 0) (.slice none 0 0) (.slice none 0 0)) 62)) w.heap.size 0 (.slice none 0 0) 0 [] (.slice none 0 0) 0 [] (.slice none 0 0) 0 [] (.slice none 0 0) 0 [] (.slice none 0 0) 0 []:=
 ⟨heap_alloc_new w _,World.ownsRow_nil _ _ _ _,World.ownsRow_nil _ _ _ _,World.ownsRow_nil _ _ _ _,World.ownsRow_nil _ _ _ _,World.ownsRow_nil _ _ _ _⟩
abbrev ent (A:Option Addr)(n c k:Nat):Ent:=⟨A,n,c,k+1⟩
theorem ents_snoc (E:Nat→Ent)(k m:Nat)(A:Option Addr)(n c j:Nat):([]++(entsO E k m).flatMap entc)++ [.slice A n c,.slice none 0 0,.int .i64 ((j:Int)+1)]=(entsO E k m++ [ent A n c j]).flatMap entc:=by
 rw[List.flatMap_append,List.nil_append]
 rfl
theorem ents_many (E:Nat→Ent)(k m:Nat)(e:Ent):0+m+1=(entsO E k m++ [e]).length:=by
 rw[List.length_append,entsO_len,Nat.zero_add]
 rfl
theorem RowsE.keep {w W:World}{A:Option Addr}{n:Nat}{E:Nat→Ent}(h:RowsE w A n E)(hb:Below w.heap.size w W):RowsE W A n E:=fun i hi=>by
 obtain⟨g,e,hc⟩:=h i hi
 exact⟨g,e,cell_old hc hb⟩
theorem apart_all (w0 wb:World)(g1 g2 g3 g4:Nat)(z:I.Sen)(n1 n2 n3 n4 bk:Nat)(Aa:Option Addr)(na ca:Nat)(Ab:Option Addr)(nb cb:Nat)(Ac:Option Addr)(nc cc:Nat)(E:Nat→Ent)(uI uS uM uO uL:Value)(W:World)
  (K:BookK W bk (0+1+1+1+n4+1+1+1+1) uI (0+1) ([]++kx Aa na ca (0+1+1+1+n4+1)) uS (0+1) ([]++kx (some ⟨g1,0,none⟩) n1 (n1+1) 0) uM (0+1+1+1) ([]++kx (some ⟨g2,0,none⟩) n2 (n2+1) (0+1)++kx (some ⟨g3,0,none⟩) n3 (n3+1) (0+1+1)++kx Ac nc cc (0+1+1+1+n4+1+1+1)) uO (0+n4+1) ([]++(entsO E (0+1+1+1) n4).flatMap entc++kx Ab nb cb (0+1+1+1+n4+1+1)) uL (0+1) ([]++kx (some ⟨g4,0,none⟩) n4 (n4+1) (0+1+1+1+n4)))
  (hT:I.TwSen w0 wb g1 g2 g3 g4 z n1 n2 n3 n4) (hW:Below wb.heap.size wb W) (hbk:wb.heap.size≤bk) (hL4: ∀no,Lone 42 1 wb ⟨some ⟨g4,0,none⟩,n4,n4+1,no⟩) (hg4:w0.heap.size≤g4) (hGE: ∀k,n4+k≤1000→Good 4 1 w0.heap.size wb (entsO E k n4))
  (hA:(∀no,Lone 3 1 W ⟨Aa,na,ca,no⟩)∧ ∀a,Aa=some a→wb.heap.size≤a.block) (hB:(∀no,Lone 4 1 W ⟨Ab,nb,cb,no⟩)∧ ∀a,Ab=some a→wb.heap.size≤a.block) (hC:(∀no,Lone 82 1 W ⟨Ac,nc,cc,no⟩)∧ ∀a,Ac=some a→wb.heap.size≤a.block) (hn:n4≤200∧n2≤200∧n3≤200):
  Calls Tryz.prog 21 #[.pointer (some ⟨bk,0,none⟩)] W fun e w'=>e= .returned (.bool true)∧Below w0.heap.size W w':=by
 obtain⟨m4,m2,m3⟩:=hn
 have h0:w0.heap.size≤wb.heap.size:=Nat.le_trans hT.t1.old (Nat.le_of_lt (lt_blk hT.t1.blk))
 have l2:=lt_blk hT.t2.blk
 have l3:=lt_blk hT.t3.blk
 have up: ∀{X:Option Addr},(∀a,X=some a→wb.heap.size≤a.block)→ ∀a,X=some a→w0.heap.size≤a.block:=fun h a e=>Nat.le_trans h0 (h a e)
 have at1: ∀{g:Nat},w0.heap.size≤g→ ∀a,(some ⟨g,0,none⟩:Option Addr)=some a→w0.heap.size≤a.block:=fun h a e=>by
  injection e with e
  subst e
  exact h
 have kp: ∀{E' sz:Nat} {e:Ent},Lone E' sz wb e→Lone E' sz W e:=fun h=>h.keep (Kept.of_below (D:=fun _=>False) hW) fun _ _=>id
 have gI:=good_one (E:=3) (sz:=1) (base:=w0.heap.size) (W:=W) (e:=ent Aa na ca (0+1+1+1+n4+1)) (hA.1 _) (by show 0+1+1+1+n4+1+1≤1000;omega) (up hA.2)
 have gS:=good_one (E:=102) (sz:=5) (base:=w0.heap.size) (W:=W) (e:=ent (some ⟨g1,0,none⟩) n1 (n1+1) 0) (kp (lone_p hT.t1)) (by show 0+1≤1000;omega) (at1 hT.t1.old)
 have gL:=good_one (E:=42) (sz:=1) (base:=w0.heap.size) (W:=W) (e:=ent (some ⟨g4,0,none⟩) n4 (n4+1) (0+1+1+1+n4)) (kp (hL4 _)) (by show 0+1+1+1+n4+1≤1000;omega) (at1 hg4)
 have gM:=((good_one (E:=82) (sz:=1) (base:=w0.heap.size) (W:=W) (e:=ent (some ⟨g2,0,none⟩) n2 (n2+1) (0+1)) (kp (lone_n hT.t2 (by omega))) (by show 0+1+1≤1000;omega) (at1 hT.t2.old)).snoc (e:=ent (some ⟨g3,0,none⟩) n3 (n3+1) (0+1+1)) (kp (lone_n hT.t3 (by omega))) (by show 0+1+1+1≤1000;omega) (at1 hT.t3.old) (by simp) (fun x hx a b ha hb=>by
   rw[List.mem_singleton] at hx
   subst hx
   injection ha with ha
   injection hb with hb
   subst ha hb
   exact hT.ne)).snoc (e:=ent Ac nc cc (0+1+1+1+n4+1+1+1)) (hC.1 _) (by show 0+1+1+1+n4+1+1+1+1≤1000;omega) (up hC.2) (by simp) (fun x hx a b ha hb=>by
   have hc:=hC.2 b hb
   have hlt:a.block < wb.heap.size:=by
    simp only[List.mem_append,List.mem_singleton] at hx
    rcases hx with rfl|rfl
    ·injection ha with ha
     subst ha
     exact l2
    ·injection ha with ha
     subst ha
     exact l3
   omega)
 have gE:=hGE (0+1+1+1) (by omega)
 have gO:=(gE.keep hW).snoc (e:=ent Ab nb cb (0+1+1+1+n4+1+1)) (hB.1 _) (by show 0+1+1+1+n4+1+1+1≤1000;omega) (up hB.2) (by rw[entsO_len];omega) (fun x hx a b ha hb=>by
   have hc:=hB.2 b hb
   have hlt:=(gE.lone x hx).lt a ha
   omega)
 have K':=K
 rw[ents_snoc,ents_many E (0+1+1+1) n4 (ent Ab nb cb (0+1+1+1+n4+1+1))] at K'
 refine apartAll w0.heap.size bk (0+1+1+1+n4+1+1+1+1) _ uI _ uS _ uM _ uO _ uL W ?_ gI gS gM gO gL (Nat.le_trans h0 hbk) (by simp) (by simp) (by simp) (by simp) (by simp)
 exact K'
end Go.Proofs.YtphklakjadchmaaGreatDoor
