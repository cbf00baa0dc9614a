import Derived.ProofKit
import Derived.OpenShut
import Derived.ShutString
import Derived.ChangeOld
import Derived.Deep.Slices
import Derived.Test.YtphklakjadchmaaGreatDoorDepths
import Derived.Test.YtphklakjadchmaaGreatDoorNdMay
namespace Go.Proofs.YtphklakjadchmaaGreatDoor
open Go.RowKit
end Go.Proofs.YtphklakjadchmaaGreatDoor
namespace Go.Proofs.YtphklakjadchmaaGreatDoor
open Go.RowKit
set_option maxRecDepth 100000 in
theorem check_any (A:Option Addr)(n c:Nat)(l:List Nd)(w:World)(h:Ns w w.heap.size A n c l)(hf: ∀x∈l,x.Fits):
  Calls Tryz.prog 141 #[.slice A n c] w fun e w'=>e= .returned (.int .i64 (checkB l:Int))∧Below w.heap.size w w':=by
 have hd:=depths_any A n c l w h hf
 clear hf
 go_enter Tryz.func141,Tryz.ntmps141
 go_wp2_with fail
 refine hd.mono ?_
 rintro e w1 ⟨A',m,c',rfl,_,hb⟩
 go_wp2_with fail
 go_ret
 exact⟨rfl,hb⟩
end Go.Proofs.YtphklakjadchmaaGreatDoor
namespace Go.Proofs.YtphklakjadchmaaGreatDoor
open Go.RowKit
def nInt:Nd:=⟨1,0,[105,110,116],0,false,0,false,0,false,0⟩
def nFun:Nd:=⟨5,0,[],2,false,0,false,0,false,0⟩
theorem fits_int:nInt.Fits:=⟨by decide,by decide,by decide,by decide,by decide,by decide,by decide⟩
theorem fits_fun:nFun.Fits:=⟨by decide,by decide,by decide,by decide,by decide,by decide,by decide⟩
end Go.Proofs.YtphklakjadchmaaGreatDoor
namespace Go.Proofs.YtphklakjadchmaaGreatDoor
open Go.RowKit
theorem own_of_blk {w:World}{g base n:Nat}{cs:Array Value}{l:List Nd}(hg:w.heap[g]?=some (.cells cs 127 (0,0)))(hb:base≤g)(hcs:cs.toList=l.flatMap ndc)(hn:l.length=n)(hm:n≤maxLen):
  w.ownsRow base 127 10 (.slice (some ⟨g,0,none⟩) n n) n (l.flatMap ndc):=by
 have hl:(l.flatMap ndc).length=n*10:=by rw[flat_len ndc_len,hn]
 refine⟨hl,.inr ⟨g,n,cs,rfl,hb,hg,Nat.le_refl _,hm,?_,?_⟩⟩
 ·rw[← Array.length_toList,hcs,hl]
 ·rw[hcs,List.take_of_length_le (by rw[hl];exact Nat.le_refl _)]
theorem fits_cons {x:Nd}{l:List Nd}(h:x.Fits)(k: ∀y∈l,y.Fits): ∀y∈x::l,y.Fits:=by
 intro y hy
 rcases List.mem_cons.1 hy with rfl|hy
 ·exact h
 ·exact k y hy
theorem fits_nil: ∀y∈([]:List Nd),y.Fits:=by simp
theorem check_chk {l:List Nd}(h:checkB l=0):l≠ []∧l.length≤128∧chk l [1]=0:=by
 unfold checkB at h
 split at h
 ·cases h
 split at h
 ·cases h
 exact⟨by assumption,by omega,h⟩
end Go.Proofs.YtphklakjadchmaaGreatDoor
namespace Go.Proofs.YtphklakjadchmaaGreatDoor
open Go.ChangeShapes Go.WideShapes Go.ChangeAt Go.RowKit Go.Deep
structure U64 (z:Int):Prop where
 lo:0≤z
 hi:z < 18446744073709551616
theorem U64.nat {z:Int}(h:U64 z): ∃y:Nat,z=(y:Int)∧y < 18446744073709551616:=⟨z.toNat,by have:=h.lo;omega,by have:=h.lo;have:=h.hi;omega⟩
structure Nd.TFits (x:Nd):Prop where
 l:U64 x.ln
 p:U64 x.pn
 e:U64 x.en
theorem u8_fits {a:Int}(h:(Lit.int .u8 a).wf=true):0≤a∧a≤255:=by
 have hb:IntKind.u8.min≤a∧a≤IntKind.u8.max:=by simpa [Lit.wf] using h
 have h1:IntKind.u8.min=0:=rfl
 have h2:IntKind.u8.max=255:=rfl
 omega
theorem two_of {α:Type}: ∀{l:List α},l.length=2→ ∃a b,l= [a,b]
 | [a,b],_=>⟨a,b,rfl⟩
section
variable {H:Type} {enc:TypeId×Value→H} {W:World}
end
end Go.Proofs.YtphklakjadchmaaGreatDoor
namespace Go.Proofs.YtphklakjadchmaaGreatDoor
open Go.ChangeShapes Go.WideShapes Go.ChangeAt Go.RowKit Go.Deep
end Go.Proofs.YtphklakjadchmaaGreatDoor
