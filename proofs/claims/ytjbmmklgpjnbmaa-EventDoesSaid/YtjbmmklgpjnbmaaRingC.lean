/-
  CONTRACTS: package ring: 'RG w p F room L': the log at block p has this room and holds just L, the last one first; F: the blocks that it may change.
-/
import Derived.Test.YtjbmmklgpjnbmaaRingR
import Derived.Test.YtjbmmklgpjnbmaaStructs
import Derived.Laws.Tables
import Derived.Laws.CopyOwn
import Derived.Deep.LoopGhost
import Derived.MakeChecks
namespace Go.Proofs.Ytjbmmklgpjnbmaa
open Go.RowKit
set_option linter.unusedVariables false

/-- The cells of a log: what is kept, the room, the next place, how many. -/
structure LogCells (cs : Array Value) (kept : Nat → Int) (room next count : Nat) : Prop where
  size : cs.size = 67
  kept : ∀ i, i < 64 → cs[i]? = some (.int .u8 (kept i))
  room : cs[64]? = some (.int .i64 room)
  next : cs[65]? = some (.int .i64 next)
  count : cs[66]? = some (.int .i64 count)
structure Log (w : World) (p : Nat) (kept : Nat → Int) (room next count : Nat) : Prop where
  cells : ∃ cs, w.heap[p]? = some (.cells cs 63 (0, 0)) ∧ LogCells cs kept room next count
  room0 : 1 ≤ room
  room1 : room ≤ 64
  next1 : next < room
  count1 : count ≤ room
  small : ∀ i, i < 64 → 0 ≤ kept i ∧ kept i < 256
def RG (w : World) (p : Nat) (F : Nat → Prop) (room : Nat) (L : List Int) : Prop :=
  (∀ i, F i ↔ i = p) ∧ ∃ kept next count, Log w p kept room next count ∧ L.length = count ∧ ∀ k, k < count → ofL L k = kept ((next + room - 1 - k) % room)
theorem Log.lt {w : World} {p : Nat} {kept : Nat → Int} {room next count : Nat} (h : Log w p kept room next count) : p < w.heap.size := by
  obtain ⟨cs, hc, _⟩ := h.cells
  rcases Nat.lt_or_ge p w.heap.size with hlt | hge
  · exact hlt
  · rw [Array.getElem?_eq_none hge] at hc; cases hc
theorem Log.of_block {w w' : World} {p : Nat} {kept : Nat → Int} {room next count : Nat} (h : Log w p kept room next count) (e : w'.heap[p]? = w.heap[p]?) : Log w' p kept room next count := by
  obtain ⟨⟨cs, hc, hl⟩, a, b, c, d, s⟩ := h
  exact ⟨⟨cs, e.trans hc, hl⟩, a, b, c, d, s⟩
theorem RG.keep {G F : Nat → Prop} {w w' : World} {p room : Nat} {L : List Int} (h : RG w p F room L) (k : Keep G w w') (hG : ∀ i, F i → ¬ G i) : RG w' p F room L := by
  obtain ⟨hF, kept, next, count, h, hl, hk⟩ := h
  exact ⟨hF, kept, next, count, h.of_block (k.block p h.lt (hG p ((hF p).2 rfl))), hl, hk⟩
theorem RG.lt {F : Nat → Prop} {w : World} {p room : Nat} {L : List Int} (h : RG w p F room L) : ∀ i, F i → i < w.heap.size := by
  obtain ⟨hF, kept, next, count, h, _⟩ := h
  intro i hi; rw [(hF i).1 hi]; exact h.lt
theorem RG.may {F : Nat → Prop} {w : World} {p room : Nat} {L : List Int} (h : RG w p F room L) : L.length ≤ room ∧ 1 ≤ room ∧ room ≤ 64 ∧ ∀ x ∈ L, 0 ≤ x ∧ x < 256 := by
  obtain ⟨hF, kept, next, count, h, hl, hk⟩ := h
  refine ⟨hl ▸ h.count1, h.room0, h.room1, fun x hx => ?_⟩
  obtain ⟨k, hlt, rfl⟩ := List.mem_iff_getElem.1 hx
  rw [← ofL_get hlt, hk k (hl ▸ hlt)]
  have h0 := h.room0
  exact h.small _ (Nat.lt_of_lt_of_le (Nat.mod_lt _ (by omega)) h.room1)
theorem Log.kcell {w : World} {p : Nat} {kept : Nat → Int} {room next count : Nat} (h : Log w p kept room next count) (i : Nat) (hi : i < 64) : w.cell? ⟨p, i, none⟩ = some (.int .u8 (kept i)) := by
  obtain ⟨cs, hc, hl⟩ := h.cells
  rw [cell_of_row _ _ _ _ _ _ hc]; exact hl.kept i hi
theorem Log.croom {w : World} {p : Nat} {kept : Nat → Int} {room next count : Nat} (h : Log w p kept room next count) : w.cell? ⟨p, 64, none⟩ = some (.int .i64 room) := by
  obtain ⟨cs, hc, hl⟩ := h.cells
  rw [cell_of_row _ _ _ _ _ _ hc]; exact hl.room
theorem Log.cnext {w : World} {p : Nat} {kept : Nat → Int} {room next count : Nat} (h : Log w p kept room next count) : w.cell? ⟨p, 65, none⟩ = some (.int .i64 next) := by
  obtain ⟨cs, hc, hl⟩ := h.cells
  rw [cell_of_row _ _ _ _ _ _ hc]; exact hl.next
theorem Log.ccount {w : World} {p : Nat} {kept : Nat → Int} {room next count : Nat} (h : Log w p kept room next count) : w.cell? ⟨p, 66, none⟩ = some (.int .i64 count) := by
  obtain ⟨cs, hc, hl⟩ := h.cells
  rw [cell_of_row _ _ _ _ _ _ hc]; exact hl.count
theorem Log.frozen {w : World} {p : Nat} {kept : Nat → Int} {room next count : Nat} (h : Log w p kept room next count) (j : Nat) : w.frozen? ⟨p, j, none⟩ = false := by
  obtain ⟨cs, hc, hl⟩ := h.cells
  exact frozen_of_row _ _ _ _ _ hc
/-- A log as it is made: of so much room. -/
def logZero (room : Int) : Array Value := (Array.replicate 64 (.int .u8 0) ++ #[.int .i64 room, .int .i64 0, .int .i64 0] : Array Value)
theorem logZero_cells (room : Nat) : LogCells (logZero room) (fun _ => 0) room 0 0 := by
  unfold logZero
  refine ⟨by simp, fun i hi => ?_, by simp, by simp, by simp⟩
  rw [Array.getElem?_append_left (by simpa using hi)]
  simp [hi]
theorem logZero_one (room : Int) : (logZero room).all (·.oneCell') = true := by
  unfold logZero; kernel_rfl
theorem log_build (room : Int) (w : World) : (Instr.build 63 #[(1, .int .i64 room)]).run Try.prog w = .ok (.agg (logZero room)) w := run_build w _ _ _ (by kernel_rfl)
theorem log_zero (w : World) : (zeroValue 63).run Try.prog w = .ok (.agg (logZero 0)) w := by kernel_rfl
theorem logZero_size (room : Int) : (logZero room).size = 67 := by unfold logZero; simp
theorem Log.made (w : World) (room : Nat) (h1 : 1 ≤ room) (h2 : room ≤ 64) : Log (w.alloc (.cells (logZero room) 63)) w.heap.size (fun _ => 0) room 0 0 :=
  ⟨⟨_, heap_alloc_new w _, logZero_cells room⟩, h1, h2, by omega, by omega, fun i hi => by constructor <;> decide⟩
theorem RG.made {w : World} {p room : Nat} {kept : Nat → Int} (h : ∃ next, Log w p kept room next 0) : RG w p (fun i => i = p) room [] := by
  obtain ⟨next, h⟩ := h
  exact ⟨fun i => Iff.rfl, kept, next, 0, h, rfl, fun k hk => absurd hk (by omega)⟩

section
variable {P : Program}
theorem wpList_built {ops : Array Oper} {rest : List Oper} {o : Oper} {a : Act} {w : World} {Q : Exit → Act → World → Prop} (hg : o.guard = none) (t : TypeId) (parts : Array (Nat × Operand)) (ho : o.op = .build t parts) (cells : Array Value)
    (hc : P.built t (parts.map fun (i, x) => (i, a.eval x)).toList = some cells)
    (h : wpList P ops Q rest (a.put o.dst (.agg cells)) w) : wpList P ops Q (o :: rest) a w :=
  wpList_build hg t parts ho (by rw [hc]; rfl) (by rw [hc]; exact h)
theorem wpList_allocd {ops : Array Oper} {rest : List Oper} {o : Oper} {a : Act} {w : World} {Q : Exit → Act → World → Prop} (hg : o.guard = none) (t : TypeId) (ho : o.op = .alloc t) (z : Array Value)
    (hz : (zeroValue t).run P w = .ok (.agg z) w)
    (h : wpList P ops Q rest (a.put o.dst (.pointer (some ⟨w.heap.size, 0, none⟩))) (w.alloc (.cells z t))) : wpList P ops Q (o :: rest) a w :=
  wpList_plain hg fun _ hK => by
    unfold Oper.wp execOp
    simp only [ho, Instr.alloc, Sem.run_bind, hz, Result.andThen_ok]
    simp [newVar, newRow]
    exact hK _ _ h
end

theorem gnew_ok (room : Nat) (w : World) (h1 : 1 ≤ room) (h2 : room ≤ 64) : Calls Try.prog 25 #[.int .i64 room] w fun e w' => ∃ p F, e = .returned (.pointer (some ⟨p, 0, none⟩)) ∧ Ext w w' ∧ RG w' p F room [] ∧ Above w F := by
  have h3 : ¬ ((room : Int) < 1) := by omega
  have h4 : ¬ ((64 : Int) < (room : Int)) := by omega
  go_enter Try.func25, Try.ntmps25
  go_wp2_with (refine wpList_built rfl 63 #[(1, .tmp 9)] rfl (logZero room) (by kernel_rfl) ?_)
  go_ret
  exact ⟨_, rfl, Ext.alloc _ _, _, RG.made ⟨0, Log.made w room h1 h2⟩, fun i hi => Nat.le_of_eq hi.symm⟩
theorem gnew_no (z : Int) (w : World) (hz : (Lit.int .i64 z).wf = true) (h : z < 1 ∨ 64 < z) : Calls Try.prog 25 #[.int .i64 z] w fun e w' => e = .returned (.pointer none) ∧ Ext w w' := by
  rcases (show z < 1 ∨ (¬ z < 1 ∧ 64 < z) by omega) with h | ⟨h, h'⟩
  all_goals
    go_enter Try.func25, Try.ntmps25
    go_wp2
    go_ret
    exact ⟨rfl, Ext.refl _⟩
theorem glen_nil_eq (w : World) : Calls Try.prog 37 #[.pointer none] w fun e w' => e = .returned (.int .i64 0) ∧ w' = w := by
  go_enter Try.func37, Try.ntmps37
  go_wp2
  go_ret
  exact ⟨rfl, rfl⟩
theorem glen_raw (p : Nat) (kept : Nat → Int) (room next count : Nat) (w : World) (h : Log w p kept room next count) :
    Calls Try.prog 37 #[.pointer (some ⟨p, 0, none⟩)] w fun e w' => e = .returned (.int .i64 count) ∧ w' = w := by
  have c := h.ccount
  clear h
  go_enter Try.func37, Try.ntmps37
  go_wp2
  go_ret
  exact ⟨rfl, rfl⟩
theorem glen_nil (w : World) : Calls Try.prog 37 #[.pointer none] w fun e w' => e = .returned (.int .i64 0) ∧ Ext w w' :=
  (glen_nil_eq w).mono fun e w' h => ⟨h.1, by rw [h.2]; exact Ext.refl _⟩
theorem gput_nil (b : Int) (w : World) (h0 : 0 ≤ b) (h1 : b < 256) : Calls Try.prog 34 #[.pointer none, .int .u8 b] w fun e w' => e = .returned (.tuple #[]) ∧ Ext w w' := by
  go_enter Try.func34, Try.ntmps34
  go_wp2
  go_returns
  exact ⟨rfl, Ext.refl _⟩
theorem log_set {w : World} {p : Nat} {kept : Nat → Int} {room next count : Nat} (h : Log w p kept room next count) {o : Nat} {v : Value} {kept' : Nat → Int} {next' count' : Nat}
    (hc : ∀ cs, LogCells cs kept room next count → LogCells (cs.setIfInBounds o v) kept' room next' count') (hn : next' < room) (hk : count' ≤ room) (hs : ∀ i, i < 64 → 0 ≤ kept' i ∧ kept' i < 256) :
    Log (w.setCell ⟨p, o, none⟩ v).drew p kept' room next' count' ∧ Keep (fun i => i = p) w (w.setCell ⟨p, o, none⟩ v).drew := by
  have hh := h
  obtain ⟨⟨cs, hg, hl⟩, a, b, c, d, s⟩ := h
  refine ⟨⟨⟨_, ?_, hc cs hl⟩, a, b, hn, hk, hs⟩, ⟨rfl, rfl, rfl, ?_, fun k hk hF => ?_⟩⟩
  · rw [heap_drew]; exact heap_setCell_same _ _ _ _ _ _ hg
  · rw [heap_drew]; simp [World.setCell]
  · rw [heap_drew]; exact heap_setCell_other _ _ _ _ hF
theorem LogCells.put {cs : Array Value} {kept : Nat → Int} {room next count : Nat} (h : LogCells cs kept room next count) {i : Nat} (hi : i < 64) (b : Int) : LogCells (cs.setIfInBounds i (.int .u8 b)) (upd kept i b) room next count := by
  refine ⟨by simpa using h.size, fun j hj => ?_, ?_, ?_, ?_⟩
  · by_cases e : j = i
    · subst e; rw [upd_same, Array.getElem?_setIfInBounds_self, if_pos (by rw [h.size]; omega)]
    · rw [upd_other _ _ _ _ e, Array.getElem?_setIfInBounds_ne (Ne.symm e)]; exact h.kept j hj
  · rw [Array.getElem?_setIfInBounds_ne (by omega)]; exact h.room
  · rw [Array.getElem?_setIfInBounds_ne (by omega)]; exact h.next
  · rw [Array.getElem?_setIfInBounds_ne (by omega)]; exact h.count
theorem LogCells.setNext {cs : Array Value} {kept : Nat → Int} {room next count : Nat} (h : LogCells cs kept room next count) (n : Nat) : LogCells (cs.setIfInBounds 65 (.int .i64 n)) kept room n count := by
  refine ⟨by simpa using h.size, fun j hj => ?_, ?_, by simp [h.size], ?_⟩
  · rw [Array.getElem?_setIfInBounds_ne (by omega)]; exact h.kept j hj
  · rw [Array.getElem?_setIfInBounds_ne (by omega)]; exact h.room
  · rw [Array.getElem?_setIfInBounds_ne (by omega)]; exact h.count
theorem LogCells.setCount {cs : Array Value} {kept : Nat → Int} {room next count : Nat} (h : LogCells cs kept room next count) (n : Nat) : LogCells (cs.setIfInBounds 66 (.int .i64 n)) kept room next n := by
  refine ⟨by simpa using h.size, fun j hj => ?_, ?_, ?_, by simp [h.size]⟩
  · rw [Array.getElem?_setIfInBounds_ne (by omega)]; exact h.kept j hj
  · rw [Array.getElem?_setIfInBounds_ne (by omega)]; exact h.room
  · rw [Array.getElem?_setIfInBounds_ne (by omega)]; exact h.next
theorem gput_raw (p : Nat) (kept : Nat → Int) (room next count : Nat) (b : Int) (w : World) (h : Log w p kept room next count) (h0 : 0 ≤ b) (h1 : b < 256) :
    Calls Try.prog 34 #[.pointer (some ⟨p, 0, none⟩), .int .u8 b] w fun e w' => e = .returned (.tuple #[]) ∧ Keep (fun i => i = p) w w' ∧ Log w' p (upd kept next b) room ((next + 1) % room) (min (count + 1) room) := by
  have hnx : next < 64 := by have := h.next1; have := h.room1; omega
  have hm : (next + 1) % room < room := Nat.mod_lt _ (by have := h.room0; omega)
  obtain ⟨l1, y1⟩ := log_set (v := .int .u8 b) h (fun cs hc => hc.put hnx b) h.next1 h.count1 (fun i hi => by
    by_cases e : i = next
    · rw [e, upd_same]; exact ⟨h0, h1⟩
    · rw [upd_other _ _ _ _ e]; exact h.small i hi)
  obtain ⟨l2, y2⟩ := log_set (v := .int .i64 ((next + 1) % room : Nat)) l1 (fun cs hc => hc.setNext ((next + 1) % room)) hm h.count1 l1.small
  obtain ⟨l3, y3⟩ := log_set (v := .int .i64 (min (count + 1) room : Nat)) l2 (fun cs hc => hc.setCount (min (count + 1) room)) hm (Nat.min_le_right _ _) l1.small
  have y := (y1.trans y2 fun i hi => .inl hi).trans y3 fun i hi => .inl hi
  have c0 := h.kcell next hnx
  have f0 := h.frozen next
  have c64 := h.croom
  have c65 := h.cnext
  have c64' := l1.croom
  have c65' := l1.cnext
  have f1 := l1.frozen 65
  have c64'' := l2.croom
  have c66'' := l2.ccount
  have f2 := l2.frozen 66
  have r0 : (1 : Int) ≤ room := by have := h.room0; omega
  have r1 : (room : Int) ≤ 64 := by have := h.room1; omega
  have n1 : (next : Int) < room := by have := h.next1; omega
  have k1 : (count : Int) ≤ room := by have := h.count1; omega
  have e0 : ((next : Int) + 1).tmod room = ((next + 1) % room : Nat) := by
    rw [Int.tmod_eq_emod_of_nonneg (by omega)]; push_cast; rfl
  have hend := And.intro y l3
  obtain ⟨w1, hw1⟩ : ∃ x, x = (w.setCell ⟨p, next, none⟩ (.int .u8 b)).drew := ⟨_, rfl⟩
  rw [← hw1] at c64' c65' f1 hend c64'' c66'' f2
  obtain ⟨w2, hw2⟩ : ∃ x, x = (w1.setCell ⟨p, 65, none⟩ (.int .i64 ((next + 1) % room : Nat))).drew := ⟨_, rfl⟩
  rw [← hw2] at hend c64'' c66'' f2
  have HW1 := Lib.hid hw1
  have HW2 := Lib.hid hw2
  have hcnt : ((count : Int) + 1 ≤ room ∧ ((min (count + 1) room : Nat) : Int) = count + 1) ∨ (¬ (count : Int) + 1 ≤ room ∧ ((min (count + 1) room : Nat) : Int) = room) := by omega
  generalize ((min (count + 1) room : Nat) : Int) = m at hcnt hend
  generalize (((next + 1) % room : Nat) : Int) = nx at e0 c65' HW2 hend c64'' c66'' f2
  have HEnd := Lib.hid hend
  clear h l1 l2 l3 y1 y2 y3 y hend hw1 hw2 hm hnx h0 h1
  rcases hcnt with ⟨q1, q2⟩ | ⟨q1, q2⟩
  all_goals
    subst q2
    go_enter Try.func34, Try.ntmps34
    go_wp2
    go_region
    rw [← HW1.out]
    clear HW1 c0 c64 c65 f0
    go_wp2
    go_region
    rw [← HW2.out]
    clear HW2 c64' c65' f1
    go_wp2
    go_region
    go_end0
    exact ⟨rfl, HEnd.out⟩
theorem back_raw (p : Nat) (kept : Nat → Int) (room next count n : Nat) (w : World) (h : Log w p kept room next count) (hn : n < room) :
    Calls Try.prog 38 #[.pointer (some ⟨p, 0, none⟩), .int .i64 n] w fun e w' => e = .returned (.int .u8 (kept ((next + room - 1 - n) % room))) ∧ Ext w w' := by
  have hlt : (next + room - 1 - n) % room < room := Nat.mod_lt _ (by omega)
  have c0 := h.kcell ((next + room - 1 - n) % room) (by have := h.room1; omega)
  have c64 := h.croom
  have c65 := h.cnext
  have r0 : (1 : Int) ≤ room := by have := h.room0; omega
  have r1 : (room : Int) ≤ 64 := by have := h.room1; omega
  have n1 : (next : Int) < room := by have := h.next1; omega
  have n2 : (n : Int) < room := by omega
  have e0 : ((next : Int) + room - 1 - n).tmod room = ((next + room - 1 - n) % room : Nat) := by
    rw [Int.tmod_eq_emod_of_nonneg (by omega)]; push_cast; congr 1; omega
  generalize kept ((next + room - 1 - n) % room) = v at *
  generalize (next + room - 1 - n) % room = i at *
  have i1 : (i : Int) < 64 := by omega
  clear h hn hlt
  go_enter Try.func38, Try.ntmps38
  go_wp2
  go_quiet (fail)
  go_wp2
  go_ret
  exact ⟨rfl, Ext.drewN _ _⟩
theorem back_some (p : Nat) (F : Nat → Prop) (L : List Int) (room n : Nat) (w : World) (h : RG w p F room L) (hn : n < L.length) :
    Calls Try.prog 38 #[.pointer (some ⟨p, 0, none⟩), .int .i64 n] w fun e w' => e = .returned (.int .u8 (ofL L n)) ∧ Ext w w' := by
  obtain ⟨hF, kept, next, count, h, hl, hk⟩ := h
  rw [hk n (hl ▸ hn)]
  exact back_raw p kept room next count n w h (by have := h.count1; omega)
theorem glen_eq (p room : Nat) (F : Nat → Prop) (L : List Int) (w : World) (h : RG w p F room L) :
    Calls Try.prog 37 #[.pointer (some ⟨p, 0, none⟩)] w fun e w' => e = .returned (.int .i64 (L.length : Int)) ∧ w' = w := by
  obtain ⟨hF, kept, next, count, h, hl, hk⟩ := h
  rw [hl]
  exact glen_raw p kept room next count w h
theorem glen_any (p room : Nat) (F : Nat → Prop) (L : List Int) (w : World) (h : RG w p F room L) :
    Calls Try.prog 37 #[.pointer (some ⟨p, 0, none⟩)] w fun e w' => e = .returned (.int .i64 (L.length : Int)) ∧ Ext w w' :=
  (glen_eq p room F L w h).mono fun e w' h => ⟨h.1, by rw [h.2]; exact Ext.refl _⟩
theorem RG.ext {F : Nat → Prop} {w w' : World} {p room : Nat} {L : List Int} (h : RG w p F room L) (x : Ext w w') : RG w' p F room L := h.keep (G := fun _ => False) (.of_ext x) (fun _ _ e => e)
set_option maxHeartbeats 1600000 in
theorem glist_any (p room : Nat) (F : Nat → Prop) (L : List Int) (w : World) (h : RG w p F room L) :
    Calls Try.prog 31 #[.pointer (some ⟨p, 0, none⟩)] w fun e w' => ∃ z u, e = .returned (.slice z L.length u) ∧ L.length ≤ u ∧ u ≤ maxLen ∧ Holds .u8 w' z L.length (ofL L) ∧ Ext w w' := by
  obtain ⟨i8, hi8, hz80, hz81, hz82⟩ := info_parts Try.info8r
  have hn : L.length ≤ 64 := by have := h.may; omega
  have hlen := fun w (h : RG w p F room L) => glen_eq p room F L w h
  have hback := fun n w (h : RG w p F room L) (hn : n < L.length) => back_some p F L room n w h hn
  generalize ofL L = f at *
  generalize L.length = n at *
  have HLen := Lib.hid hlen
  have HBack := Lib.hid hback
  have hn0 : decide ((n : Int) < 0) = false := by simp
  clear hlen hback
  go_enter Try.func31, Try.ntmps31
  go_wp2_with fail
  refine (HLen.out _ h).mono ?_; rintro e w' ⟨rfl, rfl⟩
  go_wp2_with (at_make; refine wpList_make_full _ rfl _ _ 27 rfl w'.heap.size 5 i8 (.int .u8 0) 1 Try.underlying27 hi8 hz80 hz81 .i64 .i64 n n n rfl rfl rfl rfl (by rw [hz82]; omega) (by unfold maxLen; omega) (Nat.le_refl _) ?_; intro w1 hown1 hgrow1)
  have hb1 : Below w'.heap.size w' w1 := (Below.refl _ _).grown hgrow1 (Nat.le_refl _) (fun k hk => by cases hk)
  have hr1 : Row (Value.int .u8) 5 w1 w'.heap.size n (fun _ => 0) := Row.made hown1
  obtain ⟨B, hB⟩ : ∃ B, B = w'.heap.size := ⟨_, rfl⟩
  rw [← hB] at hr1 hb1 ⊢
  have HB := Lib.hid hB
  clear hB hown1 hgrow1
  have h1 : RG w1 p F room L := h.ext (by rw [Ext, ← HB.out]; exact hb1)
  iterate 3 (try go_step3; go_wp2_with fail)
  refine (HLen.out _ h1).mono ?_; rintro e w2 ⟨rfl, rfl⟩
  go_wp2_with fail
  go_loopg [10] n (fun g i wr => ∃ k : Nat, k + g = n ∧ i = .int .i64 k ∧ Row (Value.int .u8) 5 wr B n (fun t => if t < k then f t else 0) ∧ Below B w' wr)
  case atStart => exact ⟨0, by omega, rfl, hr1.congr (fun t _ => by simp), hb1⟩
  case round =>
    obtain ⟨k, hk, rfl, hr, hbl⟩ := hrel
    clear hr1 hb1 h1
    have hx : Ext w' wr := by rw [Ext, ← HB.out]; exact hbl
    cases gk with
    | zero =>
      have hkz : ¬ ((k : Int) < n) := by omega
      go_wp2_with fail
      try rw [Exit.noGoto_ret]
      go_ret
      exact ⟨_, _, rfl, Nat.le_refl _, by unfold maxLen; omega, (hr.congr (fun t ht => by simp; omega)).holds, hx⟩
    | succ g =>
      have hkz : (k : Int) < n := by omega
      have hg := h.ext hx
      have hkn : k < n := by omega
      go_wp2_with fail
      refine (HBack.out k _ hg hkn).mono ?_; rintro e w3 ⟨rfl, x3⟩
      have hr3 := hr.ext x3
      have c3 := hr3.cell k hkn
      have f3 := hr3.frozen k
      have hb3 : Below B w' w3 := Below.trans hbl (x3.mono (by rw [HB.out]; exact hx.size))
      clear hr hbl hx hg x3
      go_wp2
      go_roundg g
      case rel => exact ⟨k + 1, by omega, by go_num, (hr3.set k (f k)).congr (fun t ht => by
        by_cases e : t = k
        · rw [e, upd_same]; simp
        · rw [upd_other _ _ _ _ e]
          by_cases e2 : t < k
          · rw [if_pos e2, if_pos (by omega)]
          · rw [if_neg e2, if_neg (by omega)]), Below.set hb3 (Nat.le_refl _) _⟩
      case measure => omega
theorem logs_same {w : World} {p : Nat} {kept : Nat → Int} {room next count : Nat} (h : Log w p kept room next count) : ∃ cs, w.heap[p]? = some (.cells cs 63 (0, 0)) ∧ LogCells cs kept room next count := h.cells
theorem gclear_any (p room : Nat) (F : Nat → Prop) (L : List Int) (w : World) (h : RG w p F room L) :
    Calls Try.prog 29 #[.pointer (some ⟨p, 0, none⟩)] w fun e w' => e = .returned (.tuple #[]) ∧ ∃ G, Keep F w w' ∧ RG w' p G room [] ∧ Grows F G w := by
  obtain ⟨hF, kept, next, count, h, hl, hk⟩ := h
  obtain ⟨cs, hg, hc⟩ := h.cells
  have c64 := h.croom
  have hs : cs.size = (logZero room).size := by rw [hc.size, logZero_size]
  have hkeep : Keep F w (w.setRow p (logZero room)) := ⟨rfl, rfl, rfl, by simp, fun k hk hF' => setRow_other _ _ _ _ (fun e => hF' ((hF k).2 e))⟩
  have hnew : RG (w.setRow p (logZero room)) p (fun i => i = p) room [] := RG.made ⟨0, ⟨_, setRow_heap _ _ _ _ _ _ hg, logZero_cells room⟩, h.room0, h.room1, by have := h.room0; omega, by omega, fun i hi => by constructor <;> decide⟩
  have hgr : Grows F (fun i => i = p) w := fun i hi => .inl ((hF i).2 hi)
  clear h
  go_enter Try.func29, Try.ntmps29
  go_wp2_with (first
    | (refine wpList_built rfl 63 #[(1, .tmp 8)] rfl (logZero room) (by kernel_rfl) ?_)
    | (refine wpList_store_row rfl 63 (.tmp 10) (.tmp 9) rfl p (logZero room) rfl rfl 63 cs hg (by rw [logZero_size]; kernel_rfl) hs (logZero_one _) ?_))
  go_end0
  exact ⟨rfl, hkeep, _, hnew, hgr⟩
theorem gclone_any (p room : Nat) (F : Nat → Prop) (L : List Int) (w : World) (h : RG w p F room L) :
    Calls Try.prog 30 #[.pointer (some ⟨p, 0, none⟩)] w fun e w' => ∃ r G, e = .returned (.pointer (some ⟨r, 0, none⟩)) ∧ Ext w w' ∧ RG w' r G room L ∧ Above w G := by
  obtain ⟨hF, kept, next, count, h, hl, hk⟩ := h
  obtain ⟨cs, hg, hc⟩ := h.cells
  have hs0 : cs.size = 67 := hc.size
  have hone : cs.all (·.oneCell') = true := by
    rw [Array.all_eq_true]
    intro i hi
    have := Array.getElem?_eq_getElem hi
    rcases (show i < 64 ∨ i = 64 ∨ i = 65 ∨ i = 66 by omega) with e | rfl | rfl | rfl
    · rw [hc.kept i e] at this; rw [← Option.some.inj this]; rfl
    · rw [hc.room] at this; rw [← Option.some.inj this]; rfl
    · rw [hc.next] at this; rw [← Option.some.inj this]; rfl
    · rw [hc.count] at this; rw [← Option.some.inj this]; rfl
  have g1 := heap_alloc_new w (.cells (logZero 0) 63)
  have hnew : RG ((w.alloc (.cells (logZero 0) 63)).setRow w.heap.size cs) w.heap.size (fun i => i = w.heap.size) room L :=
    ⟨fun i => Iff.rfl, kept, next, count, ⟨⟨cs, setRow_heap _ _ _ _ _ _ g1, hc⟩, h.room0, h.room1, h.next1, h.count1, h.small⟩, hl, hk⟩
  clear h
  go_enter Try.func30, Try.ntmps30
  go_wp2_with (first
    | (refine wpList_load_row rfl 63 (.tmp 7) rfl p rfl 63 cs (0, 0) _ hg Try.underlying63 rfl (by rw [hs0]; kernel_rfl) ?_)
    | (refine wpList_allocd rfl 63 rfl (logZero 0) (log_zero _) ?_)
    | (refine wpList_store_row rfl 63 (.tmp 3) (.tmp 8) rfl w.heap.size cs rfl rfl 63 (logZero 0) g1 (by rw [hs0]; kernel_rfl) (by rw [hs0, logZero_size]) hone ?_))
  go_ret
  exact ⟨_, _, rfl, below_setRow (Ext.alloc w _) (Nat.le_refl _) _, hnew, fun i hi => Nat.le_of_eq hi.symm⟩
theorem gput_any (p room : Nat) (F : Nat → Prop) (L : List Int) (b : Int) (w : World) (h : RG w p F room L) (h0 : 0 ≤ b) (h1 : b < 256) :
    Calls Try.prog 34 #[.pointer (some ⟨p, 0, none⟩), .int .u8 b] w fun e w' => e = .returned (.tuple #[]) ∧ ∃ G, Keep F w w' ∧ RG w' p G room (putL L room b) ∧ Grows F G w := by
  obtain ⟨hF, kept, next, count, h, hl, hk⟩ := h
  refine (gput_raw p kept room next count b w h h0 h1).mono ?_
  rintro e w' ⟨rfl, hkeep, hlog⟩
  have hr0 := h.room0
  have hn1 := h.next1
  refine ⟨rfl, fun i => i = p, hkeep.mono fun i hi => (hF i).2 hi, ⟨fun i => Iff.rfl, _, _, _, hlog, ?_, ?_⟩, fun i hi => .inl ((hF i).2 hi)⟩
  · rw [putL_length, hl]; omega
  · intro k hk'
    have hkr : k < room := by omega
    have e1 : ofL (putL L room b) k = ofL (b :: L) k := ofL_take hkr
    rw [e1]
    have e2 : (next + 1) % room + room - 1 - k = (next + 1) % room + (room - 1 - k) := by omega
    have e3 : ((next + 1) % room + (room - 1 - k)) % room = (next + (room - k)) % room := by
      rw [Nat.add_mod, Nat.mod_mod, ← Nat.add_mod]; congr 1; omega
    rw [e2, e3]
    cases k with
    | zero =>
      have : (next + (room - 0)) % room = next := by rw [Nat.sub_zero, Nat.add_mod_right, Nat.mod_eq_of_lt hn1]
      rw [this, upd_same]; rfl
    | succ k =>
      have e4 : next + (room - (k + 1)) = next + room - 1 - k := by omega
      have e5 : (next + room - 1 - k) % room ≠ next := by
        rcases Nat.lt_or_ge (next + room - 1 - k) room with e | e
        · rw [Nat.mod_eq_of_lt e]; omega
        · rw [Nat.mod_eq_sub_mod e, Nat.mod_eq_of_lt (by omega)]; omega
      rw [e4, upd_other _ _ _ _ e5]
      exact hk k (by omega)
end Go.Proofs.Ytjbmmklgpjnbmaa
