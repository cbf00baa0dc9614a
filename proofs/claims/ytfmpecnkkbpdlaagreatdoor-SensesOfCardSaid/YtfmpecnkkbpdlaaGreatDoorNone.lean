import Derived.Test.YtfmpecnkkbpdlaaGreatDoorChecked
import Derived.WalkKit
import Derived.LoopTactic
import Derived.Outline
import Derived.Test.YtfmpecnkkbpdlaaGreatDoorRange
namespace Go.Proofs.YtfmpecnkkbpdlaaGreatDoor
open Go.RowKit
theorem ZaI (bk:Nat)(w:World)(h:w.cell? ⟨bk,1,none⟩=some (.slice none 0 0)):Calls Tryz.prog 44 #[.pointer (some ⟨bk,0,none⟩)] w fun e w'=>e= .returned (.tuple #[])∧w=w':=by
 go_enter Tryz.func44,Tryz.ntmps44
 go_wp2
 refine wp_loop_rounds 1 ?_
 rw[rounds_succ]
 go_wp2
 go_end0
 exact⟨rfl,rfl⟩
theorem ZaJ (bk:Nat)(w:World)(h:w.cell? ⟨bk,1,none⟩=some (.slice none 0 0)):Calls Tryz.prog 59 #[.pointer (some ⟨bk,0,none⟩)] w fun e w'=>e= .returned (.tuple #[])∧w=w':=by
 go_enter Tryz.func59,Tryz.ntmps59
 go_wp2
 refine wp_loop_rounds 1 ?_
 rw[rounds_succ]
 go_wp2
 go_end0
 exact⟨rfl,rfl⟩
theorem ZaK (bk:Nat)(w:World)(h:w.cell? ⟨bk,1,none⟩=some (.slice none 0 0)):Calls Tryz.prog 74 #[.pointer (some ⟨bk,0,none⟩)] w fun e w'=>e= .returned (.bool true)∧w=w':=by
 go_enter Tryz.func74,Tryz.ntmps74
 go_wp2
 refine wp_loop_rounds 1 ?_
 rw[rounds_succ]
 go_wp2
 go_ret
 exact⟨rfl,rfl⟩
theorem ZbO (bk:Nat)(w:World)(h:w.cell? ⟨bk,2,none⟩=some (.slice none 0 0)):Calls Tryz.prog 45 #[.pointer (some ⟨bk,0,none⟩)] w fun e w'=>e= .returned (.tuple #[])∧w=w':=by
 go_enter Tryz.func45,Tryz.ntmps45
 go_wp2
 refine wp_loop_rounds 1 ?_
 rw[rounds_succ]
 go_wp2
 go_end0
 exact⟨rfl,rfl⟩
theorem ZbP (bk:Nat)(w:World)(h:w.cell? ⟨bk,2,none⟩=some (.slice none 0 0)):Calls Tryz.prog 60 #[.pointer (some ⟨bk,0,none⟩)] w fun e w'=>e= .returned (.tuple #[])∧w=w':=by
 go_enter Tryz.func60,Tryz.ntmps60
 go_wp2
 refine wp_loop_rounds 1 ?_
 rw[rounds_succ]
 go_wp2
 go_end0
 exact⟨rfl,rfl⟩
theorem ZbQ (bk:Nat)(w:World)(h:w.cell? ⟨bk,2,none⟩=some (.slice none 0 0)):Calls Tryz.prog 75 #[.pointer (some ⟨bk,0,none⟩)] w fun e w'=>e= .returned (.bool true)∧w=w':=by
 go_enter Tryz.func75,Tryz.ntmps75
 go_wp2
 refine wp_loop_rounds 1 ?_
 rw[rounds_succ]
 go_wp2
 go_ret
 exact⟨rfl,rfl⟩
theorem ZaL (bk:Nat)(w:World)(h:w.cell? ⟨bk,3,none⟩=some (.slice none 0 0)):Calls Tryz.prog 46 #[.pointer (some ⟨bk,0,none⟩)] w fun e w'=>e= .returned (.tuple #[])∧w=w':=by
 go_enter Tryz.func46,Tryz.ntmps46
 go_wp2
 refine wp_loop_rounds 1 ?_
 rw[rounds_succ]
 go_wp2
 go_end0
 exact⟨rfl,rfl⟩
theorem ZaM (bk:Nat)(w:World)(h:w.cell? ⟨bk,3,none⟩=some (.slice none 0 0)):Calls Tryz.prog 61 #[.pointer (some ⟨bk,0,none⟩)] w fun e w'=>e= .returned (.tuple #[])∧w=w':=by
 go_enter Tryz.func61,Tryz.ntmps61
 go_wp2
 refine wp_loop_rounds 1 ?_
 rw[rounds_succ]
 go_wp2
 go_end0
 exact⟨rfl,rfl⟩
theorem ZaN (bk:Nat)(w:World)(h:w.cell? ⟨bk,3,none⟩=some (.slice none 0 0)):Calls Tryz.prog 76 #[.pointer (some ⟨bk,0,none⟩)] w fun e w'=>e= .returned (.bool true)∧w=w':=by
 go_enter Tryz.func76,Tryz.ntmps76
 go_wp2
 refine wp_loop_rounds 1 ?_
 rw[rounds_succ]
 go_wp2
 go_ret
 exact⟨rfl,rfl⟩
theorem ZaO (bk:Nat)(w:World)(h:w.cell? ⟨bk,7,none⟩=some (.slice none 0 0)):Calls Tryz.prog 50 #[.pointer (some ⟨bk,0,none⟩)] w fun e w'=>e= .returned (.tuple #[])∧w=w':=by
 go_enter Tryz.func50,Tryz.ntmps50
 go_wp2
 refine wp_loop_rounds 1 ?_
 rw[rounds_succ]
 go_wp2
 go_end0
 exact⟨rfl,rfl⟩
theorem ZaP (bk:Nat)(w:World)(h:w.cell? ⟨bk,7,none⟩=some (.slice none 0 0)):Calls Tryz.prog 65 #[.pointer (some ⟨bk,0,none⟩)] w fun e w'=>e= .returned (.tuple #[])∧w=w':=by
 go_enter Tryz.func65,Tryz.ntmps65
 go_wp2
 refine wp_loop_rounds 1 ?_
 rw[rounds_succ]
 go_wp2
 go_end0
 exact⟨rfl,rfl⟩
theorem ZaQ (bk:Nat)(w:World)(h:w.cell? ⟨bk,7,none⟩=some (.slice none 0 0)):Calls Tryz.prog 80 #[.pointer (some ⟨bk,0,none⟩)] w fun e w'=>e= .returned (.bool true)∧w=w':=by
 go_enter Tryz.func80,Tryz.ntmps80
 go_wp2
 refine wp_loop_rounds 1 ?_
 rw[rounds_succ]
 go_wp2
 go_ret
 exact⟨rfl,rfl⟩
theorem ZaR (bk:Nat)(w:World)(h:w.cell? ⟨bk,10,none⟩=some (.slice none 0 0)):Calls Tryz.prog 53 #[.pointer (some ⟨bk,0,none⟩)] w fun e w'=>e= .returned (.tuple #[])∧w=w':=by
 go_enter Tryz.func53,Tryz.ntmps53
 go_wp2
 refine wp_loop_rounds 1 ?_
 rw[rounds_succ]
 go_wp2
 go_end0
 exact⟨rfl,rfl⟩
theorem ZaS (bk:Nat)(w:World)(h:w.cell? ⟨bk,10,none⟩=some (.slice none 0 0)):Calls Tryz.prog 68 #[.pointer (some ⟨bk,0,none⟩)] w fun e w'=>e= .returned (.tuple #[])∧w=w':=by
 go_enter Tryz.func68,Tryz.ntmps68
 go_wp2
 refine wp_loop_rounds 1 ?_
 rw[rounds_succ]
 go_wp2
 go_end0
 exact⟨rfl,rfl⟩
theorem ZaT (bk:Nat)(w:World)(h:w.cell? ⟨bk,10,none⟩=some (.slice none 0 0)):Calls Tryz.prog 83 #[.pointer (some ⟨bk,0,none⟩)] w fun e w'=>e= .returned (.bool true)∧w=w':=by
 go_enter Tryz.func83,Tryz.ntmps83
 go_wp2
 refine wp_loop_rounds 1 ?_
 rw[rounds_succ]
 go_wp2
 go_ret
 exact⟨rfl,rfl⟩
theorem QI (bk:Nat)(w:World)(h:w.cell? ⟨bk,12,none⟩=some (.slice none 0 0)):Calls Tryz.prog 55 #[.pointer (some ⟨bk,0,none⟩)] w fun e w'=>e= .returned (.tuple #[])∧w=w':=by
 go_enter Tryz.func55,Tryz.ntmps55
 go_wp2
 refine wp_loop_rounds 1 ?_
 rw[rounds_succ]
 go_wp2
 go_end0
 exact⟨rfl,rfl⟩
theorem QJ (bk:Nat)(w:World)(h:w.cell? ⟨bk,12,none⟩=some (.slice none 0 0)):Calls Tryz.prog 70 #[.pointer (some ⟨bk,0,none⟩)] w fun e w'=>e= .returned (.tuple #[])∧w=w':=by
 go_enter Tryz.func70,Tryz.ntmps70
 go_wp2
 refine wp_loop_rounds 1 ?_
 rw[rounds_succ]
 go_wp2
 go_end0
 exact⟨rfl,rfl⟩
theorem QK (bk:Nat)(w:World)(h:w.cell? ⟨bk,12,none⟩=some (.slice none 0 0)):Calls Tryz.prog 85 #[.pointer (some ⟨bk,0,none⟩)] w fun e w'=>e= .returned (.bool true)∧w=w':=by
 go_enter Tryz.func85,Tryz.ntmps85
 go_wp2
 refine wp_loop_rounds 1 ?_
 rw[rounds_succ]
 go_wp2
 go_ret
 exact⟨rfl,rfl⟩
theorem QT (bk:Nat)(w:World)(h:w.cell? ⟨bk,13,none⟩=some (.slice none 0 0)):Calls Tryz.prog 56 #[.pointer (some ⟨bk,0,none⟩)] w fun e w'=>e= .returned (.tuple #[])∧w=w':=by
 go_enter Tryz.func56,Tryz.ntmps56
 go_wp2
 refine wp_loop_rounds 1 ?_
 rw[rounds_succ]
 go_wp2
 go_end0
 exact⟨rfl,rfl⟩
theorem QU (bk:Nat)(w:World)(h:w.cell? ⟨bk,13,none⟩=some (.slice none 0 0)):Calls Tryz.prog 71 #[.pointer (some ⟨bk,0,none⟩)] w fun e w'=>e= .returned (.tuple #[])∧w=w':=by
 go_enter Tryz.func71,Tryz.ntmps71
 go_wp2
 refine wp_loop_rounds 1 ?_
 rw[rounds_succ]
 go_wp2
 go_end0
 exact⟨rfl,rfl⟩
theorem QV (bk:Nat)(w:World)(h:w.cell? ⟨bk,13,none⟩=some (.slice none 0 0)):Calls Tryz.prog 86 #[.pointer (some ⟨bk,0,none⟩)] w fun e w'=>e= .returned (.bool true)∧w=w':=by
 go_enter Tryz.func86,Tryz.ntmps86
 go_wp2
 refine wp_loop_rounds 1 ?_
 rw[rounds_succ]
 go_wp2
 go_ret
 exact⟨rfl,rfl⟩
theorem ZaU (bk:Nat)(w:World)(h:w.cell? ⟨bk,14,none⟩=some (.slice none 0 0)):Calls Tryz.prog 57 #[.pointer (some ⟨bk,0,none⟩)] w fun e w'=>e= .returned (.tuple #[])∧w=w':=by
 go_enter Tryz.func57,Tryz.ntmps57
 go_wp2
 refine wp_loop_rounds 1 ?_
 rw[rounds_succ]
 go_wp2
 go_end0
 exact⟨rfl,rfl⟩
theorem ZaV (bk:Nat)(w:World)(h:w.cell? ⟨bk,14,none⟩=some (.slice none 0 0)):Calls Tryz.prog 72 #[.pointer (some ⟨bk,0,none⟩)] w fun e w'=>e= .returned (.tuple #[])∧w=w':=by
 go_enter Tryz.func72,Tryz.ntmps72
 go_wp2
 refine wp_loop_rounds 1 ?_
 rw[rounds_succ]
 go_wp2
 go_end0
 exact⟨rfl,rfl⟩
theorem ZaW (bk:Nat)(w:World)(h:w.cell? ⟨bk,14,none⟩=some (.slice none 0 0)):Calls Tryz.prog 87 #[.pointer (some ⟨bk,0,none⟩)] w fun e w'=>e= .returned (.bool true)∧w=w':=by
 go_enter Tryz.func87,Tryz.ntmps87
 go_wp2
 refine wp_loop_rounds 1 ?_
 rw[rounds_succ]
 go_wp2
 go_ret
 exact⟨rfl,rfl⟩
theorem ZaX (bk:Nat)(w:World)(h:w.cell? ⟨bk,15,none⟩=some (.slice none 0 0)):Calls Tryz.prog 58 #[.pointer (some ⟨bk,0,none⟩)] w fun e w'=>e= .returned (.tuple #[])∧w=w':=by
 go_enter Tryz.func58,Tryz.ntmps58
 go_wp2
 refine wp_loop_rounds 1 ?_
 rw[rounds_succ]
 go_wp2
 go_end0
 exact⟨rfl,rfl⟩
theorem ZaY (bk:Nat)(w:World)(h:w.cell? ⟨bk,15,none⟩=some (.slice none 0 0)):Calls Tryz.prog 73 #[.pointer (some ⟨bk,0,none⟩)] w fun e w'=>e= .returned (.tuple #[])∧w=w':=by
 go_enter Tryz.func73,Tryz.ntmps73
 go_wp2
 refine wp_loop_rounds 1 ?_
 rw[rounds_succ]
 go_wp2
 go_end0
 exact⟨rfl,rfl⟩
theorem ZaZ (bk:Nat)(w:World)(h:w.cell? ⟨bk,15,none⟩=some (.slice none 0 0)):Calls Tryz.prog 88 #[.pointer (some ⟨bk,0,none⟩)] w fun e w'=>e= .returned (.bool true)∧w=w':=by
 go_enter Tryz.func88,Tryz.ntmps88
 go_wp2
 refine wp_loop_rounds 1 ?_
 rw[rounds_succ]
 go_wp2
 go_ret
 exact⟨rfl,rfl⟩
end Go.Proofs.YtfmpecnkkbpdlaaGreatDoor
