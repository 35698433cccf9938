/-
  CONTRACTS: bilgeref08.Add.
-/
import Derived.Test.YtneekigkihbpiaaRows
import Derived.Test.YtneekigkihbpiaaKeep
import Derived.Test.YtneekigkihbpiaaLater
import Derived.Test.YtneekigkihbpiaaStructs
import Derived.Laws.CopyOwn
import Derived.WalkLawsBesides
import Derived.WalkSpells
import Derived.Deep.QuietTactic
import Derived.BigQuiet
import Derived.RegionTactic
import Derived.Outline
import Derived.Lib.Hide
import Derived.Handy
import Derived.IntWalk
namespace Go.Proofs.Ytneekigkihbpiaa
open Go.RowKit

/-- Eight counters, as an array's cells. -/
def Eight (cs : Array Value) (f : Nat → Int) : Prop := cs.size = 8 ∧ ∀ i, i < 8 → cs[i]? = some (.int .u16 (f i))
def Small8 (f : Nat → Int) : Prop := ∀ i, i < 8 → 0 ≤ f i ∧ f i < 65536
theorem Eight.set {cs : Array Value} {f : Nat → Int} (h : Eight cs f) (j : Nat) (v : Int) : Eight (cs.setIfInBounds j (.int .u16 v)) (upd f j v) := by
  refine ⟨by simpa using h.1, fun i hi => ?_⟩
  by_cases e : i = j
  · subst e; rw [upd_same]; simp [h.1, hi]
  · rw [upd_other _ _ _ _ e, Array.getElem?_setIfInBounds_ne (Ne.symm e)]; exact h.2 i hi
theorem Eight.one {cs : Array Value} {f : Nat → Int} (h : Eight cs f) : cs.all (·.oneCell') = true := by
  rw [Array.all_eq_true]
  intro i hi
  have h8 : i < 8 := by rw [← h.1]; exact hi
  have := h.2 i h8
  rw [Array.getElem?_eq_getElem hi] at this
  rw [Option.some.inj this]; rfl
theorem set_block {w : World} {B : Nat} {cs : Array Value} {t : TypeId} (h : w.heap[B]? = some (.cells cs t (0, 0))) (j : Nat) (v : Value) : (w.setCell ⟨B, j, none⟩ v).heap[B]? = some (.cells (cs.setIfInBounds j v) t (0, 0)) := by
  simp [World.setCell, Array.getElem?_modify, h]
set_option maxHeartbeats 2000000 in
theorem radd_out (cs : Array Value) (i n : Int) (w : World) (hs : cs.size = 8) (h1 : cs.all (·.oneCell') = true) (h : ¬ (0 ≤ i ∧ i ≤ 7 ∧ 0 ≤ n ∧ n ≤ 65536)) :
    Calls Try.prog 7 #[.agg cs, .int .i64 i, .int .i64 n] w fun e w' => e = .returned (.tuple #[.agg cs, .bool false]) ∧ Ext w w' := by
  have x2 : Ext w ((w.alloc (.cells cs 27)).alloc (.cells #[.int .u16 0, .int .u16 0, .int .u16 0, .int .u16 0, .int .u16 0, .int .u16 0, .int .u16 0, .int .u16 0] 27)) := (Ext.alloc w _).trans (Ext.alloc _ _)
  have g0 := heap_alloc2_old w (.cells cs 27) (.cells #[.int .u16 0, .int .u16 0, .int .u16 0, .int .u16 0, .int .u16 0, .int .u16 0, .int .u16 0, .int .u16 0] 27)
  have g1 := heap_alloc2_new w (.cells cs 27) (.cells #[.int .u16 0, .int .u16 0, .int .u16 0, .int .u16 0, .int .u16 0, .int .u16 0, .int .u16 0, .int .u16 0] 27)
  rcases (show i < 0 ∨ (0 ≤ i ∧ 7 < i) ∨ (0 ≤ i ∧ i ≤ 7 ∧ n < 0) ∨ (0 ≤ i ∧ i ≤ 7 ∧ 0 ≤ n ∧ 65536 < n) by omega) with h2 | ⟨h2, h3⟩ | ⟨h2, h3, h4⟩ | ⟨h2, h3, h4, h5⟩
  all_goals
    clear h
    go_enter Try.func7, Try.ntmps7
    go_wp2_with (first | (refine wpList_load_row rfl 27 (.tmp 3) rfl w.heap.size rfl 27 _ (0, 0) _ g0 Try.underlying27 rfl (by rw [hs]; kernel_rfl) ?_) | (refine wpList_store_row rfl 27 (.tmp 6) (.tmp 22) rfl (w.heap.size + 1) _ rfl rfl 27 _ g1 (by rw [hs]; kernel_rfl) (by rw [hs]; rfl) h1 ?_))
    refine bodyPost_ret (results_row_tmp rfl _ _ (w.heap.size + 1) 27 _ (0, 0) _ rfl (setRow_heap _ _ _ _ _ _ g1) Try.underlying27 rfl (by rw [hs]; kernel_rfl)) rfl ⟨rfl, below_setRow x2 (Nat.le_succ _) _⟩
set_option maxHeartbeats 2000000 in
theorem radd_in (cs : Array Value) (f : Nat → Int) (k : Nat) (n : Int) (w : World) (hs : Eight cs f) (hf : Small8 f) (hk : k < 8) (h0 : 0 ≤ n) (h1 : n ≤ 65536) :
    Calls Try.prog 7 #[.agg cs, .int .i64 k, .int .i64 n] w fun e w' => e = .returned (.tuple #[.agg (cs.setIfInBounds k (.int .u16 ((f k + n) % 65536))), .bool true]) ∧ Ext w w' := by
  have x2 : Ext w ((w.alloc (.cells cs 27)).alloc (.cells #[.int .u16 0, .int .u16 0, .int .u16 0, .int .u16 0, .int .u16 0, .int .u16 0, .int .u16 0, .int .u16 0] 27)) := (Ext.alloc w _).trans (Ext.alloc _ _)
  have g0 := heap_alloc2_old w (.cells cs 27) (.cells #[.int .u16 0, .int .u16 0, .int .u16 0, .int .u16 0, .int .u16 0, .int .u16 0, .int .u16 0, .int .u16 0] 27)
  have g1 := heap_alloc2_new w (.cells cs 27) (.cells #[.int .u16 0, .int .u16 0, .int .u16 0, .int .u16 0, .int .u16 0, .int .u16 0, .int .u16 0, .int .u16 0] 27)
  obtain ⟨f0, f1⟩ := hf k hk
  have c0 : ((w.alloc (.cells cs 27)).alloc (.cells #[.int .u16 0, .int .u16 0, .int .u16 0, .int .u16 0, .int .u16 0, .int .u16 0, .int .u16 0, .int .u16 0] 27)).cell? ⟨w.heap.size, k, none⟩ = some (.int .u16 (f k)) := by
    rw [cell_of_row _ _ _ _ _ _ g0]; exact hs.2 k hk
  have hk1 : (k : Int) < 8 := by omega
  have hk2 : (k : Int) ≤ 7 := by omega
  have e1 : (f k + n).tmod 65536 = (f k + n) % 65536 := Int.tmod_eq_emod_of_nonneg (by omega)
  have e2 : 0 ≤ (f k + n) % 65536 := Int.emod_nonneg _ (by omega)
  have e3 : (f k + n) % 65536 < 65536 := Int.emod_lt_of_pos _ (by omega)
  generalize f k = v at *
  have hs1 := hs.1
  have hone := hs.one
  have e4 : IntKind.u16.wrap ((v + n) % 65536) = (v + n) % 65536 := by rw [IntKind.wrap_u16]; omega
  have hset : (cs.setIfInBounds k (.int .u16 ((v + n) % 65536))).all (·.oneCell') = true := by
    rw [Array.all_eq_true]
    intro i hi
    have hi' : i < cs.size := by simpa using hi
    rw [Array.getElem_setIfInBounds]
    split
    · rfl
    · exact (Array.all_eq_true.1 hone) i hi'
  have hsz : (cs.setIfInBounds k (.int .u16 ((v + n) % 65536))).size = 8 := by simpa using hs1
  have h0' := heap_alloc2_old w (.cells (cs.setIfInBounds k (.int .u16 ((v + n) % 65536))) 27) (.cells #[.int .u16 0, .int .u16 0, .int .u16 0, .int .u16 0, .int .u16 0, .int .u16 0, .int .u16 0, .int .u16 0] 27)
  have h1' := heap_alloc2_new w (.cells (cs.setIfInBounds k (.int .u16 ((v + n) % 65536))) 27) (.cells #[.int .u16 0, .int .u16 0, .int .u16 0, .int .u16 0, .int .u16 0, .int .u16 0, .int .u16 0, .int .u16 0] 27)
  clear hs hone hf x2 g1
  go_enter Try.func7, Try.ntmps7
  go_wp2_with (first
    | (refine wpList_load_row rfl 27 (.tmp 3) rfl w.heap.size rfl 27 _ (0, 0) _ h0' Try.underlying27 rfl (by rw [hsz]; kernel_rfl) ?_)
    | (refine wpList_store_row rfl 27 (.tmp 6) (.tmp 33) rfl (w.heap.size + 1) _ rfl rfl 27 _ h1' (by rw [hsz]; kernel_rfl) (by rw [hsz]; rfl) hset ?_))
  refine bodyPost_ret (results_row_tmp rfl _ _ (w.heap.size + 1) 27 _ (0, 0) _ rfl (setRow_heap _ _ _ _ _ _ h1') Try.underlying27 rfl (by rw [hsz]; kernel_rfl)) rfl ⟨rfl, below_setRow ((Ext.alloc w _).trans (Ext.alloc _ _)) (Nat.le_succ _) _⟩
end Go.Proofs.Ytneekigkihbpiaa
