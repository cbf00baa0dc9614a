import Derived.Test.YtphklakjadchmaaGreatDoorChecked
import Derived.WalkKit
import Derived.LoopTactic
import Derived.Outline
namespace Go.Proofs.YtphklakjadchmaaGreatDoor
open Go.RowKit
theorem fillByte_none (bk:Nat)(w:World)(h:w.cell? ⟨bk,1,none⟩=some (.slice none 0 0)):Calls Tryz.prog 46 #[.pointer (some ⟨bk,0,none⟩)] w fun e w'=>e= .returned (.tuple #[])∧w=w':=by
 go_enter Tryz.func46,Tryz.ntmps46
 go_wp2
 refine wp_loop_rounds 1 ?_
 rw[rounds_succ]
 go_wp2
 go_end0
 exact⟨rfl,rfl⟩
theorem growByte_none (bk:Nat)(w:World)(h:w.cell? ⟨bk,1,none⟩=some (.slice none 0 0)):Calls Tryz.prog 61 #[.pointer (some ⟨bk,0,none⟩)] w fun e w'=>e= .returned (.tuple #[])∧w=w':=by
 go_enter Tryz.func61,Tryz.ntmps61
 go_wp2
 refine wp_loop_rounds 1 ?_
 rw[rounds_succ]
 go_wp2
 go_end0
 exact⟨rfl,rfl⟩
theorem lookByte_none (bk:Nat)(w:World)(h:w.cell? ⟨bk,1,none⟩=some (.slice none 0 0)):Calls Tryz.prog 76 #[.pointer (some ⟨bk,0,none⟩)] w fun e w'=>e= .returned (.bool true)∧w=w':=by
 go_enter Tryz.func76,Tryz.ntmps76
 go_wp2
 refine wp_loop_rounds 1 ?_
 rw[rounds_succ]
 go_wp2
 go_ret
 exact⟨rfl,rfl⟩
theorem fillText_none (bk:Nat)(w:World)(h:w.cell? ⟨bk,3,none⟩=some (.slice none 0 0)):Calls Tryz.prog 48 #[.pointer (some ⟨bk,0,none⟩)] w fun e w'=>e= .returned (.tuple #[])∧w=w':=by
 go_enter Tryz.func48,Tryz.ntmps48
 go_wp2
 refine wp_loop_rounds 1 ?_
 rw[rounds_succ]
 go_wp2
 go_end0
 exact⟨rfl,rfl⟩
theorem growText_none (bk:Nat)(w:World)(h:w.cell? ⟨bk,3,none⟩=some (.slice none 0 0)):Calls Tryz.prog 63 #[.pointer (some ⟨bk,0,none⟩)] w fun e w'=>e= .returned (.tuple #[])∧w=w':=by
 go_enter Tryz.func63,Tryz.ntmps63
 go_wp2
 refine wp_loop_rounds 1 ?_
 rw[rounds_succ]
 go_wp2
 go_end0
 exact⟨rfl,rfl⟩
theorem lookText_none (bk:Nat)(w:World)(h:w.cell? ⟨bk,3,none⟩=some (.slice none 0 0)):Calls Tryz.prog 78 #[.pointer (some ⟨bk,0,none⟩)] w fun e w'=>e= .returned (.bool true)∧w=w':=by
 go_enter Tryz.func78,Tryz.ntmps78
 go_wp2
 refine wp_loop_rounds 1 ?_
 rw[rounds_succ]
 go_wp2
 go_ret
 exact⟨rfl,rfl⟩
theorem fillPair_none (bk:Nat)(w:World)(h:w.cell? ⟨bk,7,none⟩=some (.slice none 0 0)):Calls Tryz.prog 52 #[.pointer (some ⟨bk,0,none⟩)] w fun e w'=>e= .returned (.tuple #[])∧w=w':=by
 go_enter Tryz.func52,Tryz.ntmps52
 go_wp2
 refine wp_loop_rounds 1 ?_
 rw[rounds_succ]
 go_wp2
 go_end0
 exact⟨rfl,rfl⟩
theorem growPair_none (bk:Nat)(w:World)(h:w.cell? ⟨bk,7,none⟩=some (.slice none 0 0)):Calls Tryz.prog 67 #[.pointer (some ⟨bk,0,none⟩)] w fun e w'=>e= .returned (.tuple #[])∧w=w':=by
 go_enter Tryz.func67,Tryz.ntmps67
 go_wp2
 refine wp_loop_rounds 1 ?_
 rw[rounds_succ]
 go_wp2
 go_end0
 exact⟨rfl,rfl⟩
theorem lookPair_none (bk:Nat)(w:World)(h:w.cell? ⟨bk,7,none⟩=some (.slice none 0 0)):Calls Tryz.prog 82 #[.pointer (some ⟨bk,0,none⟩)] w fun e w'=>e= .returned (.bool true)∧w=w':=by
 go_enter Tryz.func82,Tryz.ntmps82
 go_wp2
 refine wp_loop_rounds 1 ?_
 rw[rounds_succ]
 go_wp2
 go_ret
 exact⟨rfl,rfl⟩
theorem fillNode_none (bk:Nat)(w:World)(h:w.cell? ⟨bk,8,none⟩=some (.slice none 0 0)):Calls Tryz.prog 53 #[.pointer (some ⟨bk,0,none⟩)] w fun e w'=>e= .returned (.tuple #[])∧w=w':=by
 go_enter Tryz.func53,Tryz.ntmps53
 go_wp2
 refine wp_loop_rounds 1 ?_
 rw[rounds_succ]
 go_wp2
 go_end0
 exact⟨rfl,rfl⟩
theorem growNode_none (bk:Nat)(w:World)(h:w.cell? ⟨bk,8,none⟩=some (.slice none 0 0)):Calls Tryz.prog 68 #[.pointer (some ⟨bk,0,none⟩)] w fun e w'=>e= .returned (.tuple #[])∧w=w':=by
 go_enter Tryz.func68,Tryz.ntmps68
 go_wp2
 refine wp_loop_rounds 1 ?_
 rw[rounds_succ]
 go_wp2
 go_end0
 exact⟨rfl,rfl⟩
theorem lookNode_none (bk:Nat)(w:World)(h:w.cell? ⟨bk,8,none⟩=some (.slice none 0 0)):Calls Tryz.prog 83 #[.pointer (some ⟨bk,0,none⟩)] w fun e w'=>e= .returned (.bool true)∧w=w':=by
 go_enter Tryz.func83,Tryz.ntmps83
 go_wp2
 refine wp_loop_rounds 1 ?_
 rw[rounds_succ]
 go_wp2
 go_ret
 exact⟨rfl,rfl⟩
theorem fillBound_none (bk:Nat)(w:World)(h:w.cell? ⟨bk,9,none⟩=some (.slice none 0 0)):Calls Tryz.prog 54 #[.pointer (some ⟨bk,0,none⟩)] w fun e w'=>e= .returned (.tuple #[])∧w=w':=by
 go_enter Tryz.func54,Tryz.ntmps54
 go_wp2
 refine wp_loop_rounds 1 ?_
 rw[rounds_succ]
 go_wp2
 go_end0
 exact⟨rfl,rfl⟩
theorem growBound_none (bk:Nat)(w:World)(h:w.cell? ⟨bk,9,none⟩=some (.slice none 0 0)):Calls Tryz.prog 69 #[.pointer (some ⟨bk,0,none⟩)] w fun e w'=>e= .returned (.tuple #[])∧w=w':=by
 go_enter Tryz.func69,Tryz.ntmps69
 go_wp2
 refine wp_loop_rounds 1 ?_
 rw[rounds_succ]
 go_wp2
 go_end0
 exact⟨rfl,rfl⟩
theorem lookBound_none (bk:Nat)(w:World)(h:w.cell? ⟨bk,9,none⟩=some (.slice none 0 0)):Calls Tryz.prog 84 #[.pointer (some ⟨bk,0,none⟩)] w fun e w'=>e= .returned (.bool true)∧w=w':=by
 go_enter Tryz.func84,Tryz.ntmps84
 go_wp2
 refine wp_loop_rounds 1 ?_
 rw[rounds_succ]
 go_wp2
 go_ret
 exact⟨rfl,rfl⟩
theorem fillTerm_none (bk:Nat)(w:World)(h:w.cell? ⟨bk,10,none⟩=some (.slice none 0 0)):Calls Tryz.prog 55 #[.pointer (some ⟨bk,0,none⟩)] w fun e w'=>e= .returned (.tuple #[])∧w=w':=by
 go_enter Tryz.func55,Tryz.ntmps55
 go_wp2
 refine wp_loop_rounds 1 ?_
 rw[rounds_succ]
 go_wp2
 go_end0
 exact⟨rfl,rfl⟩
theorem growTerm_none (bk:Nat)(w:World)(h:w.cell? ⟨bk,10,none⟩=some (.slice none 0 0)):Calls Tryz.prog 70 #[.pointer (some ⟨bk,0,none⟩)] w fun e w'=>e= .returned (.tuple #[])∧w=w':=by
 go_enter Tryz.func70,Tryz.ntmps70
 go_wp2
 refine wp_loop_rounds 1 ?_
 rw[rounds_succ]
 go_wp2
 go_end0
 exact⟨rfl,rfl⟩
theorem lookTerm_none (bk:Nat)(w:World)(h:w.cell? ⟨bk,10,none⟩=some (.slice none 0 0)):Calls Tryz.prog 85 #[.pointer (some ⟨bk,0,none⟩)] w fun e w'=>e= .returned (.bool true)∧w=w':=by
 go_enter Tryz.func85,Tryz.ntmps85
 go_wp2
 refine wp_loop_rounds 1 ?_
 rw[rounds_succ]
 go_wp2
 go_ret
 exact⟨rfl,rfl⟩
theorem fillImport_none (bk:Nat)(w:World)(h:w.cell? ⟨bk,12,none⟩=some (.slice none 0 0)):Calls Tryz.prog 57 #[.pointer (some ⟨bk,0,none⟩)] w fun e w'=>e= .returned (.tuple #[])∧w=w':=by
 go_enter Tryz.func57,Tryz.ntmps57
 go_wp2
 refine wp_loop_rounds 1 ?_
 rw[rounds_succ]
 go_wp2
 go_end0
 exact⟨rfl,rfl⟩
theorem growImport_none (bk:Nat)(w:World)(h:w.cell? ⟨bk,12,none⟩=some (.slice none 0 0)):Calls Tryz.prog 72 #[.pointer (some ⟨bk,0,none⟩)] w fun e w'=>e= .returned (.tuple #[])∧w=w':=by
 go_enter Tryz.func72,Tryz.ntmps72
 go_wp2
 refine wp_loop_rounds 1 ?_
 rw[rounds_succ]
 go_wp2
 go_end0
 exact⟨rfl,rfl⟩
theorem lookImport_none (bk:Nat)(w:World)(h:w.cell? ⟨bk,12,none⟩=some (.slice none 0 0)):Calls Tryz.prog 87 #[.pointer (some ⟨bk,0,none⟩)] w fun e w'=>e= .returned (.bool true)∧w=w':=by
 go_enter Tryz.func87,Tryz.ntmps87
 go_wp2
 refine wp_loop_rounds 1 ?_
 rw[rounds_succ]
 go_wp2
 go_ret
 exact⟨rfl,rfl⟩
theorem fillEntry_none (bk:Nat)(w:World)(h:w.cell? ⟨bk,13,none⟩=some (.slice none 0 0)):Calls Tryz.prog 58 #[.pointer (some ⟨bk,0,none⟩)] w fun e w'=>e= .returned (.tuple #[])∧w=w':=by
 go_enter Tryz.func58,Tryz.ntmps58
 go_wp2
 refine wp_loop_rounds 1 ?_
 rw[rounds_succ]
 go_wp2
 go_end0
 exact⟨rfl,rfl⟩
theorem growEntry_none (bk:Nat)(w:World)(h:w.cell? ⟨bk,13,none⟩=some (.slice none 0 0)):Calls Tryz.prog 73 #[.pointer (some ⟨bk,0,none⟩)] w fun e w'=>e= .returned (.tuple #[])∧w=w':=by
 go_enter Tryz.func73,Tryz.ntmps73
 go_wp2
 refine wp_loop_rounds 1 ?_
 rw[rounds_succ]
 go_wp2
 go_end0
 exact⟨rfl,rfl⟩
theorem lookEntry_none (bk:Nat)(w:World)(h:w.cell? ⟨bk,13,none⟩=some (.slice none 0 0)):Calls Tryz.prog 88 #[.pointer (some ⟨bk,0,none⟩)] w fun e w'=>e= .returned (.bool true)∧w=w':=by
 go_enter Tryz.func88,Tryz.ntmps88
 go_wp2
 refine wp_loop_rounds 1 ?_
 rw[rounds_succ]
 go_wp2
 go_ret
 exact⟨rfl,rfl⟩
theorem fillItem_none (bk:Nat)(w:World)(h:w.cell? ⟨bk,14,none⟩=some (.slice none 0 0)):Calls Tryz.prog 59 #[.pointer (some ⟨bk,0,none⟩)] w fun e w'=>e= .returned (.tuple #[])∧w=w':=by
 go_enter Tryz.func59,Tryz.ntmps59
 go_wp2
 refine wp_loop_rounds 1 ?_
 rw[rounds_succ]
 go_wp2
 go_end0
 exact⟨rfl,rfl⟩
theorem growItem_none (bk:Nat)(w:World)(h:w.cell? ⟨bk,14,none⟩=some (.slice none 0 0)):Calls Tryz.prog 74 #[.pointer (some ⟨bk,0,none⟩)] w fun e w'=>e= .returned (.tuple #[])∧w=w':=by
 go_enter Tryz.func74,Tryz.ntmps74
 go_wp2
 refine wp_loop_rounds 1 ?_
 rw[rounds_succ]
 go_wp2
 go_end0
 exact⟨rfl,rfl⟩
theorem lookItem_none (bk:Nat)(w:World)(h:w.cell? ⟨bk,14,none⟩=some (.slice none 0 0)):Calls Tryz.prog 89 #[.pointer (some ⟨bk,0,none⟩)] w fun e w'=>e= .returned (.bool true)∧w=w':=by
 go_enter Tryz.func89,Tryz.ntmps89
 go_wp2
 refine wp_loop_rounds 1 ?_
 rw[rounds_succ]
 go_wp2
 go_ret
 exact⟨rfl,rfl⟩
theorem fillWord_none (bk:Nat)(w:World)(h:w.cell? ⟨bk,15,none⟩=some (.slice none 0 0)):Calls Tryz.prog 60 #[.pointer (some ⟨bk,0,none⟩)] w fun e w'=>e= .returned (.tuple #[])∧w=w':=by
 go_enter Tryz.func60,Tryz.ntmps60
 go_wp2
 refine wp_loop_rounds 1 ?_
 rw[rounds_succ]
 go_wp2
 go_end0
 exact⟨rfl,rfl⟩
theorem growWord_none (bk:Nat)(w:World)(h:w.cell? ⟨bk,15,none⟩=some (.slice none 0 0)):Calls Tryz.prog 75 #[.pointer (some ⟨bk,0,none⟩)] w fun e w'=>e= .returned (.tuple #[])∧w=w':=by
 go_enter Tryz.func75,Tryz.ntmps75
 go_wp2
 refine wp_loop_rounds 1 ?_
 rw[rounds_succ]
 go_wp2
 go_end0
 exact⟨rfl,rfl⟩
theorem lookWord_none (bk:Nat)(w:World)(h:w.cell? ⟨bk,15,none⟩=some (.slice none 0 0)):Calls Tryz.prog 90 #[.pointer (some ⟨bk,0,none⟩)] w fun e w'=>e= .returned (.bool true)∧w=w':=by
 go_enter Tryz.func90,Tryz.ntmps90
 go_wp2
 refine wp_loop_rounds 1 ?_
 rw[rounds_succ]
 go_wp2
 go_ret
 exact⟨rfl,rfl⟩
end Go.Proofs.YtphklakjadchmaaGreatDoor
