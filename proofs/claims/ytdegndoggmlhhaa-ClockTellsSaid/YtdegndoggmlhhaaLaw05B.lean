/-
  THE LAWS OF LAYER 5: the walk of ClockTells.
-/
import Derived.Test.YtdegndoggmlhhaaLaw05A
namespace Go.Proofs.Ytdegndoggmlhhaa
open Go.RowKit

theorem ext2 (w : World) (o o' : Obj) : Ext w ((w.alloc o).alloc o').drew := (((Ext.alloc w o).trans (Ext.alloc _ o')).trans (Ext.drew _))
set_option maxRecDepth 100000 in
set_option maxHeartbeats 3200000 in
theorem clockTells.walk (c s l u a d n : Int) (w : World) (hc : (Lit.int .i64 c).wf = true) (hs : (Lit.int .i64 s).wf = true) (hl : (Lit.int .i64 l).wf = true) (hu : (Lit.int .i64 u).wf = true)
    (ha : (Lit.int .i64 a).wf = true) (hd : (Lit.int .i64 d).wf = true) (hn : (Lit.int .i64 n).wf = true) :
    Calls Try.prog 4 #[.agg #[.int .i64 c, .int .i64 s, .int .i64 l, .int .i64 u], .agg #[.int .i64 a, .int .i64 d], .int .i64 n] w fun e w' => e = .returned (.bool true) ∧ Ext w w' := by
  have e0 := ext2 w (.cells #[.int .i64 c, .int .i64 s, .int .i64 l, .int .i64 u] 23) (.cells #[.int .i64 a, .int .i64 d] 31)
  have g0 : ((w.alloc (.cells #[.int .i64 c, .int .i64 s, .int .i64 l, .int .i64 u] 23)).alloc (.cells #[.int .i64 a, .int .i64 d] 31)).drew.heap[w.heap.size]? = some (.cells #[.int .i64 c, .int .i64 s, .int .i64 l, .int .i64 u] 23) := heap_alloc2_old w _ _
  go_enter Try.func4, Try.ntmps4
  go_wp2_with fail
  go_region
  go_wp2_with fail
  generalize ((w.alloc (.cells #[.int .i64 c, .int .i64 s, .int .i64 l, .int .i64 u] 23)).alloc (.cells #[.int .i64 a, .int .i64 d] 31)).drew = v0 at e0 g0 ⊢
  obtain ⟨B, hB⟩ : ∃ B, B = w.heap.size := ⟨_, rfl⟩
  rw [← hB] at g0 ⊢
  clear hB
  have c0 := Later.cell (cell_of_row v0 B 0 _ _ _ g0)
  have c1 := Later.cell (cell_of_row v0 B 1 _ _ _ g0)
  have c2 := Later.cell (cell_of_row v0 B 2 _ _ _ g0)
  have c3 := Later.cell (cell_of_row v0 B 3 _ _ _ g0)
  refine wp_region_later (by kernel_rfl) (by kernel_rfl) ?_
  repeat (go_big_quiet_step (first
    | (go_at_call 10; exact later_of (kright_any c s l u _ hc hs hl hu))
    | (go_at_call 11; exact later_of (rright_any c s l u _))
    | (go_at_call 12; exact later_of (kclamp_any a _ ha))
    | (go_at_call 13; exact later_same (rclamp_any a _))
    | (go_at_call 14; exact later_of (kadd_any a d _ ha hd))
    | (go_at_call 15; exact later_same (radd_any a d _))
    | (go_at_call 16; exact later_of (ksince_any a d _ ha hd))
    | (go_at_call 17; exact later_same (rsince_any a d _))
    | (go_at_call 18; exact later_of (kspan_any c s l u n _ hc hs hl hu hn))
    | (go_at_call 19; exact later_of (rspan_any c s l u n _))
    | (go_at_call 9; exact later_of (sure5_any _))))
  refine wpQuiet_nil ?_
  intro _ hw'
  obtain ⟨x, rfl⟩ := hw'
  have e1 := e0.trans x.ext
  generalize x.at = w9 at e1 ⊢
  go_wp2
  go_ret
  exact ⟨rfl, e1⟩
end Go.Proofs.Ytdegndoggmlhhaa
