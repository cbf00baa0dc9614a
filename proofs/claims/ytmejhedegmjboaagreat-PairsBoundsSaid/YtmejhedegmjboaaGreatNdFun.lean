import Derived.Test.YtmejhedegmjboaaGreatProg
import Derived.Sort.EncStr
import Derived.Lib.Strings
import Derived.Lib.RowBridge
import Derived.WalkKit
import Derived.OwnWalk
import Derived.Laws.StructEq
import Derived.Outline
import Derived.Deep.QuietTactic
import Derived.BigQuiet
import Derived.Test.YtmejhedegmjboaaGreatRange
set_option maxRecDepth 100000
set_option maxHeartbeats 1000000
namespace Go.Proofs.YtmejhedegmjboaaGreat
structure Nd where
 k:Int
 m:Int
 s:List UInt8
 n:Int
 lv:Bool
 ln:Int
 pv:Bool
 pn:Int
 ev:Bool
 en:Int
def lett (r:Nat):Bool:=decide (97≤r∧r≤122)||decide (65≤r∧r≤90)
def digi (r:Nat):Bool:=decide (48≤r∧r≤57)
def okAt (i r:Nat):Bool:=lett r||(decide (i≠0) && (digi r||decide (r=95)))
def nameB (s:List UInt8):Bool:=decide (0 < s.length∧s.length≤32∧ ∀i (h:i < s.length),okAt i s[i].toNat=true)
def Zcd (s:List UInt8):Bool:=decide (s= [98,111,111,108])||(decide (s= [105,110,116])||(decide (s= [116,101,120,116])||decide (s= [117,110,105,116])))
def Nd.still (x:Nd):Bool:= !x.pv && decide (x.pn=0) && (!x.ev && decide (x.en=0))
def Nd.plain (x:Nd):Bool:=decide (x.s= []) && decide (x.m=0)
def Nd.may (x:Nd):Bool:=
 if x.k=1 then Zcd x.s && decide (x.m=0) && decide (x.n=0) && x.still
 else if x.k=2 then nameB x.s && decide (0≤x.m) && decide (x.m≤16) && decide (x.n=0) && x.still
 else if x.k=3 then x.plain && decide (0≤x.n) && x.still
 else if x.k=4 then x.plain && decide (x.n=1) && x.still
 else if x.k=5 then x.plain && decide (x.n=2)
 else false
theorem Zgm {s:List UInt8}(h:Zcd s=true):nameB s=true:=by
 simp only[Zcd,Bool.or_eq_true,decide_eq_true_eq] at h
 rcases h with rfl|rfl|rfl|rfl <;> decide
theorem Nd.may_kids {x:Nd}(h:x.may=true):0≤x.n:=by
 unfold Nd.may at h
 split at h
 ·simp at h;omega
 split at h
 ·simp at h;omega
 split at h
 ·simp at h;omega
 split at h
 ·simp at h;omega
 split at h
 ·simp at h;omega
 ·cases h
def opens (x:Nd)(d:Nat)(st:List Nat):List Nat:=List.replicate x.n.toNat (d+1)++st
def chk:List Nd→List Nat→Nat
 | [],[]=>0
 | [],_::_=>4
 |_::_,[]=>4
 |x::l,d::st=>if x.may=true then(if 8 < x.n∨16 < d then 3 else chk l (opens x d st)) else 4
def dps:List Nd→List Nat→List Nat
 | [],_=> []
 |_::_,[]=> []
 |x::l,d::st=>d::dps l (opens x d st)
def ZI (l:List Nd):Nat:=if l= [] then 1 else if 128 < l.length then 3 else chk l [1]
def depB (l:List Nd):List Nat:=if ZI l=0 then dps l [1] else []
namespace F
end F
end Go.Proofs.YtmejhedegmjboaaGreat
namespace Go.Proofs.YtmejhedegmjboaaGreat
open Go.RowKit
def str (l:List UInt8):ByteArray:=⟨l.toArray⟩
def txt (l:List UInt8):Value:= .string (str l)
theorem Zip (l:List UInt8):(str l).size=l.length:=rfl
theorem Ziq (l:List UInt8):(str l).data.toList=l:=by simp[str]
theorem Zir (l:List UInt8):(str l).toList=l:=by rw[Lib.toList_data,Ziq]
theorem Yt (s t:List UInt8):((str s).toList==t)=decide (s=t):=by rw[Zir];by_cases h:s=t <;> simp[h]
theorem ZkS (s:List UInt8)(i:Nat)(h:i < (str s).size):(str s)[i]'h=s[i]'h:=by
 simp[str,ByteArray.getElem_eq_getElem_data]
 rfl
def ndc (x:Nd):List Value:= [.int .u8 x.k,.int .i64 x.m,txt x.s,.int .i64 x.n,.bool x.lv,.int .u64 x.ln,.bool x.pv,.int .u64 x.pn,.bool x.ev,.int .u64 x.en]
theorem Zgn (x:Nd):(ndc x).length=10:=rfl
abbrev nda (k m:Int)(s:ByteArray)(n:Int)(lv:Bool)(ln:Int)(pv:Bool)(pn:Int)(ev:Bool)(en:Int):Value:=
 .agg #[.int .u8 k,.int .i64 m,.string s,.int .i64 n,.bool lv,.int .u64 ln,.bool pv,.int .u64 pn,.bool ev,.int .u64 en]
def ndv (x:Nd):Value:=nda x.k x.m (str x.s) x.n x.lv x.ln x.pv x.pn x.ev x.en
theorem V4 (r:Nat)(b:Bool)(w:World)(h:lett r=b):Calls Tryz.prog 164 #[.int .u8 (r:Int)] w fun e w'=>e= .returned (.bool b)∧w=w':=by
 have HB:=Hd h
 clear h
 go_enter Tryz.func164,Tryz.ntmps164
 by_cases h1:97≤r <;> by_cases h2:r≤122 <;> by_cases h3:65≤r <;> by_cases h4:r≤90 <;> first|omega|skip
 all_goals(
 go_wp2
 go_ret
 refine⟨?_,rfl⟩
 rw[← HB.out]
 simp[lett,h1,h2,h3,h4]
 try omega)
theorem Qv (r:Nat)(b:Bool)(w:World)(h:digi r=b):Calls Tryz.prog 165 #[.int .u8 (r:Int)] w fun e w'=>e= .returned (.bool b)∧w=w':=by
 have HB:=Hd h
 clear h
 go_enter Tryz.func165,Tryz.ntmps165
 by_cases h1:48≤r <;> by_cases h2:r≤57 <;> first|omega|skip
 all_goals(
 go_wp2
 go_ret
 refine⟨?_,rfl⟩
 rw[← HB.out]
 simp[digi,h1,h2]
 try omega)
theorem Zis (s:List UInt8)(k:Nat)(h:k < s.length)(W:World):(Instr.index 9 (.string (str s)) (.int .i64 (k:Int))).run Tryz.prog W= .ok (.int .u8 (s[k].toNat:Int)) W:=by
 have h1:k < (str s).size:=h
 have h2:(str s)[k]?=some (s[k]):=by
  rw[getElem?_pos (str s) k h1,ZkS]
 simp[Instr.index,asIntOf,run_underlying Tryz.underlying9,h2]
 rfl
def Znb (s:List UInt8)(w:World)(i:Value)(wr:World):Prop:= ∃k:Nat,i= .int .i64 (k:Int)∧k≤s.length∧(∀i (h:i < s.length),i < k→okAt i s[i].toNat=true)∧wr=w
theorem name_any (s:List UInt8)(w:World)(hs:s.length≤9223372036854775807):Calls Tryz.prog 158 #[.string (str s)] w fun e w'=>e= .returned (.bool (nameB s))∧w=w':=by
 have hsz:=Zip s
 generalize hn:s.length=n at*
 have HL:=Hd hn
 clear hn
 go_enter Tryz.func158,Tryz.ntmps158
 by_cases h0:n=0
 ·(
 have HN:Hid (nameB s=false):=by show _=_;simp[nameB,HL.out,h0]
 subst h0
 go_wp2
 go_ret
 exact⟨by rw[HN.out];rfl,rfl⟩)
 have h0':((n:Int)==0)=false:=by simp;omega
 by_cases h32:32 < n
 ·(
 have HN:Hid (nameB s=false):=by show _=_;simp only[nameB,HL.out,decide_eq_false_iff_not];omega
 have h32':(32:Int) < (n:Int):=by omega
 go_wp2
 go_ret
 exact⟨by rw[HN.out];rfl,rfl⟩)
 have h32': ¬(32:Int) < (n:Int):=by omega
 go_wp2
 go_loopw [14] (fun i wr=>Znb s w i wr) (fun i _=>n - (intOf i).toNat)
 case atStart=>exact⟨0,rfl,by omega,fun _ _ h=>absurd h (by omega),rfl⟩
 case round=>(
 obtain⟨k,rfl,hk,hok,rfl⟩:=hrel
 by_cases hlt:k < n
 ·(
 have hk':k < s.length:=by rw[HL.out];exact hlt
 have hxk:=Zis s k hk'
 have hlti:(k:Int) < (n:Int):=by omega
 by_cases hy:okAt k s[k].toNat=true
 ·have HS:Hid (∀i (h:i < s.length),i < k+1→okAt i s[i].toNat=true):=by
   intro i hi hj
   rcases Nat.lt_or_ge i k with h|h
   ·exact hok i hi h
   ·obtain rfl:i=k:=by omega
    exact hy
  clear hok
  generalize s[k].toNat=r at*
  unfold okAt at hy
  generalize hb1:lett r=b1 at*
  have HB:=Hd hb1
  clear hb1
  cases b1 with
  |true=>(
 go_wp2_with fail
 refine(V4 r _ _ HB.out).mono ?_
 rintro e w1 ⟨rfl,rfl⟩
 go_wp2_with fail
 go_roundw
 case rel=>exact⟨k+1,by go_num,by omega,HS.out,rfl⟩
 case measure=>simp[intOf];omega)
  |false=>(
 have hk0:((k:Int)==0)=false:=by simp at hy;simp;omega
 generalize hb2:digi r=b2 at*
 have HB2:=Hd hb2
 clear hb2
 cases b2 with
 |true=>(
 go_wp2_with fail
 refine(V4 r _ _ HB.out).mono ?_
 rintro e w1 ⟨rfl,rfl⟩
 go_wp2_with fail
 refine(Qv r _ _ HB2.out).mono ?_
 rintro e w1 ⟨rfl,rfl⟩
 go_wp2_with fail
 go_roundw
 case rel=>exact⟨k+1,by go_num,by omega,HS.out,rfl⟩
 case measure=>simp[intOf];omega)
 |false=>(
 have h95:((r:Int) !=95)=false:=by simp at hy;simp;omega
 go_wp2_with fail
 refine(V4 r _ _ HB.out).mono ?_
 rintro e w1 ⟨rfl,rfl⟩
 go_wp2_with fail
 refine(Qv r _ _ HB2.out).mono ?_
 rintro e w1 ⟨rfl,rfl⟩
 go_wp2_with fail
 go_roundw
 case rel=>exact⟨k+1,by go_num,by omega,HS.out,rfl⟩
 case measure=>simp[intOf];omega))
 ·have HN:Hid (nameB s=false):=by
   show _=_
   simp only[nameB,decide_eq_false_iff_not]
   exact fun h=>hy (h.2.2 k hk')
  clear hok
  rw[Bool.not_eq_true] at hy
  generalize s[k].toNat=r at*
  unfold okAt at hy
  generalize hb1:lett r=b1 at*
  have HB:=Hd hb1
  clear hb1
  cases b1 with
  |true=>simp at hy
  |false=>(
 by_cases hk0:k=0
 ·(
 subst hk0
 have hx0: ∀W,(Instr.index 9 (.string (str s)) (.int .i64 0)).run Tryz.prog W= .ok (.int .u8 (r:Int)) W:=hxk
 clear hxk
 generalize str s=S at*
 go_wp2_with fail
 refine(V4 r _ _ HB.out).mono ?_
 rintro e w1 ⟨rfl,rfl⟩
 go_wp2_with fail
 go_ret
 exact⟨by rw[HN.out];rfl,rfl⟩)
 ·(
 have hk0':((k:Int)==0)=false:=by simp;omega
 generalize hb2:digi r=b2 at*
 have HB2:=Hd hb2
 clear hb2
 cases b2 with
 |true=>simp[hk0] at hy
 |false=>(
 have h95:((r:Int) !=95)=true:=by simp[hk0] at hy;simp;omega
 go_wp2_with fail
 refine(V4 r _ _ HB.out).mono ?_
 rintro e w1 ⟨rfl,rfl⟩
 go_wp2_with fail
 refine(Qv r _ _ HB2.out).mono ?_
 rintro e w1 ⟨rfl,rfl⟩
 go_wp2_with fail
 go_ret
 exact⟨by rw[HN.out];rfl,rfl⟩))))
 ·(
 obtain rfl:k=n:=by have:=HL.out;omega
 have HN:Hid (nameB s=true):=by(
 show _=_
 have hl:=HL.out
 simp only[nameB,decide_eq_true_eq]
 exact⟨by omega,by omega,fun i h=>hok i h (by omega)⟩)
 clear hok
 go_wp2
 go_ret
 exact⟨by rw[HN.out];rfl,rfl⟩))
theorem Zbw (s:List UInt8)(w:World):Calls Tryz.prog 157 #[.string (str s)] w fun e w'=>e= .returned (.bool (Zcd s))∧w=w':=by
 have h1:=Yt s [98,111,111,108]
 have h2:=Yt s [105,110,116]
 have h3:=Yt s [116,101,120,116]
 have h4:=Yt s [117,110,105,116]
 have HB:Hid (Zcd s=(decide (s= [98,111,111,108])||(decide (s= [105,110,116])||(decide (s= [116,101,120,116])||decide (s= [117,110,105,116]))))):=Hd rfl
 generalize decide (s= [98,111,111,108])=b1 at*
 generalize decide (s= [105,110,116])=b2 at*
 generalize decide (s= [116,101,120,116])=b3 at*
 generalize decide (s= [117,110,105,116])=b4 at*
 generalize str s=S at*
 go_enter Tryz.func157,Tryz.ntmps157
 cases b1 <;> cases b2 <;> cases b3 <;> cases b4
 all_goals(
 go_wp2
 go_ret
 exact⟨by rw[HB.out];rfl,rfl⟩)
end Go.Proofs.YtmejhedegmjboaaGreat
