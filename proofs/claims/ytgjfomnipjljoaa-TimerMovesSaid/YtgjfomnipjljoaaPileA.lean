/-
  PILES (package timer): what a pile holds, in its list and in its map; Len, ahead, Less.
-/
import Derived.Test.YtgjfomnipjljoaaMapTab
import Derived.Test.YtgjfomnipjljoaaTimerM
import Derived.Test.YtgjfomnipjljoaaHeapMath
import Derived.WideKeyEntry
import Derived.BigRegion
namespace Go.Proofs.Ytgjfomnipjljoaa
open Go.RowKit

def lstT (a : Nat → Int × Int) (n : Nat) : List (Int × Int) := (List.range n).map a
theorem lstT_length (a : Nat → Int × Int) (n : Nat) : (lstT a n).length = n := by simp [lstT]
theorem lstT_succ (a : Nat → Int × Int) (n : Nat) : lstT a (n + 1) = lstT a n ++ [a n] := by simp [lstT, List.range_succ]
theorem lstT_get (a : Nat → Int × Int) {n i : Nat} (h : i < n) : (lstT a n)[i]? = some (a i) := by simp [lstT, h]
theorem lstT_congr {a b : Nat → Int × Int} {n : Nat} (h : ∀ i, i < n → a i = b i) : lstT a n = lstT b n := List.map_congr_left fun i hi => h i (List.mem_range.1 hi)
/-- At which place a number stands. -/
def plc (a : Nat → Int × Int) (n : Nat) : Int → Option Int := fun q => ((List.range n).find? fun k => (a k).1 == q).map fun k => (k : Int)
def Once (a : Nat → Int × Int) (n : Nat) : Prop := ∀ i j, i < n → j < n → (a i).1 = (a j).1 → i = j
theorem plc_none {a : Nat → Int × Int} {n : Nat} {q : Int} (h : ∀ k, k < n → (a k).1 ≠ q) : plc a n q = none := by
  unfold plc
  rw [List.find?_eq_none.2 fun k hk => by simpa using h k (List.mem_range.1 hk)]; rfl
theorem plc_some {a : Nat → Int × Int} {n k : Nat} {q : Int} (o : Once a n) (hk : k < n) (h : (a k).1 = q) : plc a n q = some (k : Int) := by
  unfold plc
  cases hf : (List.range n).find? fun k => (a k).1 == q with
  | none => rw [List.find?_eq_none] at hf; exact absurd h (by simpa using hf k (List.mem_range.2 hk))
  | some j =>
    have h1 := List.find?_some hf
    have h2 := List.mem_range.1 (List.mem_of_find?_eq_some hf)
    have : j = k := o j k h2 hk (by rw [h]; simpa using h1)
    subst this; rfl
theorem plc_cases (a : Nat → Int × Int) (n : Nat) (q : Int) (o : Once a n) : (plc a n q = none ∧ ∀ k, k < n → (a k).1 ≠ q) ∨ ∃ k, k < n ∧ (a k).1 = q ∧ plc a n q = some (k : Int) := by
  by_cases h : ∃ k, k < n ∧ (a k).1 = q
  · obtain ⟨k, hk, e⟩ := h
    exact .inr ⟨k, hk, e, plc_some o hk e⟩
  · have h' : ∀ k, k < n → (a k).1 ≠ q := fun k hk e => h ⟨k, hk, e⟩
    exact .inl ⟨plc_none h', h'⟩
def WfP (x : Int × Int) : Prop := (Lit.int .i64 x.1).wf = true ∧ (Lit.int .i64 x.2).wf = true

/-- What a queue's pile holds: block p is the queue, pb the pile; v its list, M its map. -/
structure PileAt (p pb : Nat) (F : Nat → Prop) (w : World) (a : Nat → Int × Int) (n : Nat) (v : Value) (M : Nat) : Prop where
  foot : ∀ i, F i ↔ i = p ∨ i = pb ∨ i = M ∨ v.ownBlock = some i
  queue : w.heap[p]? = some (.cells #[.pointer (some ⟨pb, 0, none⟩)] 57 (0, 0))
  pile : w.heap[pb]? = some (.cells #[v, .map (some M)] 55 (0, 0))
  own : w.ownsRow 0 64 2 v n ((lstT a n).flatMap two)
  tab : Tab w M n (plc a n)
  once : Once a n
  may : ∀ i, i < n → WfP (a i)
  few : n ≤ 256
def Pile (p pb : Nat) (F : Nat → Prop) (w : World) (a : Nat → Int × Int) (n : Nat) : Prop := ∃ v M, PileAt p pb F w a n v M

section
variable {p pb : Nat} {F : Nat → Prop} {w : World} {a : Nat → Int × Int} {n : Nat} {v : Value} {M : Nat}
theorem PileAt.cellQ (h : PileAt p pb F w a n v M) : w.cell? ⟨p, 0, none⟩ = some (.pointer (some ⟨pb, 0, none⟩)) := by rw [cell_of_row w p 0 _ _ _ h.queue]; rfl
theorem PileAt.cell0 (h : PileAt p pb F w a n v M) : w.cell? ⟨pb, 0, none⟩ = some v := by rw [cell_of_row w pb 0 _ _ _ h.pile]; rfl
theorem PileAt.cell1 (h : PileAt p pb F w a n v M) : w.cell? ⟨pb, 1, none⟩ = some (.map (some M)) := by rw [cell_of_row w pb 1 _ _ _ h.pile]; rfl
theorem PileAt.frozen (h : PileAt p pb F w a n v M) (i : Nat) : w.frozen? ⟨pb, i, none⟩ = false := by simp [World.frozen?, h.pile]
theorem PileAt.pq (h : PileAt p pb F w a n v M) : p ≠ pb := fun e => by have h1 := h.queue; have h2 := h.pile; rw [e, h2] at h1; simp at h1
theorem PileAt.pM (h : PileAt p pb F w a n v M) : pb ≠ M := fun e => by obtain ⟨es, c, h1, _⟩ := h.tab; have h2 := h.pile; rw [e, h1] at h2; simp at h2
theorem PileAt.qM (h : PileAt p pb F w a n v M) : p ≠ M := fun e => by obtain ⟨es, c, h1, _⟩ := h.tab; have h2 := h.queue; rw [e, h1] at h2; simp at h2
theorem own_block {w : World} {base : Nat} {e : TypeId} {size : Nat} {v : Value} {n : Nat} {xs : List Value} (h : w.ownsRow base e size v n xs) {g : Nat} (hg : v.ownBlock = some g) : ∃ cs, w.heap[g]? = some (.cells cs e (0, 0)) := by
  rcases h.2 with ⟨rfl, _⟩ | ⟨g', cap, cur, rfl, _, hh, _⟩
  · cases hg
  · cases hg; exact ⟨_, hh⟩
theorem PileAt.gp (h : PileAt p pb F w a n v M) {g : Nat} (hg : v.ownBlock = some g) : g ≠ pb := fun e => by obtain ⟨cs, h1⟩ := own_block h.own hg; have h2 := h.pile; rw [← e, h1] at h2; simp at h2
theorem PileAt.gq (h : PileAt p pb F w a n v M) {g : Nat} (hg : v.ownBlock = some g) : g ≠ p := fun e => by obtain ⟨cs, h1⟩ := own_block h.own hg; have h2 := h.queue; rw [← e, h1] at h2; simp at h2
theorem PileAt.gM (h : PileAt p pb F w a n v M) {g : Nat} (hg : v.ownBlock = some g) : g ≠ M := fun e => by obtain ⟨cs, h1⟩ := own_block h.own hg; obtain ⟨es, c, h2, _⟩ := h.tab; rw [← e, h1] at h2; simp at h2
theorem PileAt.lt (h : PileAt p pb F w a n v M) : ∀ i, F i → i < w.heap.size := fun i hi => by
  rcases (h.foot i).1 hi with rfl | rfl | rfl | hg
  · exact (Array.getElem?_eq_some_iff.1 h.queue).1
  · exact (Array.getElem?_eq_some_iff.1 h.pile).1
  · exact h.tab.lt
  · obtain ⟨cs, h1⟩ := own_block h.own hg; exact (Array.getElem?_eq_some_iff.1 h1).1
theorem own_kept {w w' : World} {base : Nat} {e : TypeId} {size : Nat} {v : Value} {n : Nat} {xs : List Value} (h : w.ownsRow base e size v n xs) (hk : ∀ g, v.ownBlock = some g → w'.heap[g]? = w.heap[g]?) : w'.ownsRow base e size v n xs := by
  refine ⟨h.1, ?_⟩
  rcases h.2 with h | ⟨g, cap, cur, hv, hg, hh, r⟩
  · exact .inl h
  · subst hv
    exact .inr ⟨g, cap, cur, rfl, hg, (hk g rfl).trans hh, r⟩
/-- As long as its blocks are as they were. -/
theorem PileAt.kept {w' : World} (h : PileAt p pb F w a n v M) (hk : ∀ i, F i → w'.heap[i]? = w.heap[i]?) : PileAt p pb F w' a n v M :=
  ⟨h.foot, (hk p ((h.foot p).2 (.inl rfl))).trans h.queue, (hk pb ((h.foot pb).2 (.inr (.inl rfl)))).trans h.pile, own_kept h.own fun g hg => hk g ((h.foot g).2 (.inr (.inr (.inr hg)))),
    h.tab.of_block (hk M ((h.foot M).2 (.inr (.inr (.inl rfl))))), h.once, h.may, h.few⟩
theorem PileAt.ext {w' : World} (h : PileAt p pb F w a n v M) (x : Ext w w') : PileAt p pb F w' a n v M := h.kept fun i hi => Below.block x i (h.lt i hi)
theorem Pile.ext {w' : World} (h : Pile p pb F w a n) (x : Ext w w') : Pile p pb F w' a n := by obtain ⟨v, M, h⟩ := h; exact ⟨v, M, h.ext x⟩
/-- Where there is something in it: its list, and the cells of each. -/
theorem PileAt.form (h : PileAt p pb F w a n v M) (hn : 0 < n) : ∃ g cap, v = .slice (some ⟨g, 0, none⟩) n cap ∧ n ≤ cap ∧ cap ≤ maxLen ∧ (∀ i, i < n → w.cell? ⟨g, i * 2, none⟩ = some (.int .i64 (a i).1) ∧ w.cell? ⟨g, i * 2 + 1, none⟩ = some (.int .i64 (a i).2)) ∧ ∀ i, w.frozen? ⟨g, i, none⟩ = false := by
  obtain ⟨A, c, hv, hnc, hc, hh, hA⟩ := HoldsL.of_own two_length h.own (lstT_length a n).symm
  obtain ⟨g, cap, hv2, _⟩ := h.own.form hn
  rw [hv] at hv2
  injection hv2 with e1 e2 e3
  subst e1 e3
  refine ⟨g, c, hv, hnc, hc, fun i hi => ?_, fun i => ?_⟩
  · have := HoldsL.two_at hh i (by rw [lstT_length]; exact hi)
    have e : (lstT a n)[i]'(by rw [lstT_length]; exact hi) = a i := by simp [lstT]
    rw [e] at this
    simpa using this
  · obtain ⟨cs, h1⟩ := own_block h.own (g := g) (by rw [hv]; rfl)
    simp [World.frozen?, h1]
theorem PileAt.form0 (h : PileAt p pb F w a n v M) : ∃ A cap, v = .slice A n cap ∧ n ≤ cap ∧ cap ≤ maxLen := by
  obtain ⟨A, c, hv, hnc, hc, _⟩ := HoldsL.of_own two_length h.own (lstT_length a n).symm
  exact ⟨A, c, hv, hnc, hc⟩
end

/-- How a number with its time goes into an interface. -/
def enc2 (x : Int × Int) : Value := .iface 64 (.agg #[.int .i64 x.1, .int .i64 x.2])
theorem plen_any (p pb : Nat) (F : Nat → Prop) (w : World) (a : Nat → Int × Int) (n : Nat) (h : Pile p pb F w a n) :
    Calls Try.prog 22 #[.pointer (some ⟨pb, 0, none⟩)] w fun e w' => e = .returned (.int .i64 n) ∧ w = w' := by
  obtain ⟨v, M, h⟩ := h
  obtain ⟨A, cap, rfl, _, _⟩ := h.form0
  have c0 := h.cell0
  clear h
  go_enter Try.func22, Try.ntmps22
  go_wp2
  go_ret
  exact ⟨rfl, rfl⟩
theorem ahead_any (a b c d : Int) (w : World) : Calls Try.prog 55 #[.agg #[.int .i64 a, .int .i64 b], .agg #[.int .i64 c, .int .i64 d]] w fun e w' => e = .returned (.bool (beforeB (a, b) (c, d))) ∧ Ext w w' := by
  have hB := beforeB_iff a b c d
  generalize beforeB (a, b) (c, d) = B at hB ⊢
  have HB := Lib.hid hB
  clear hB
  by_cases hbd : b = d
  · subst hbd
    go_enter Try.func55, Try.ntmps55
    go_wp2
    go_ret
    exact ⟨congrArg (fun b => Ending.returned (.bool b)) (b_dec HB.out ⟨fun h => h.elim (fun h => absurd h (Int.lt_irrefl _)) (fun h => h.2), fun h => .inr ⟨trivial, h⟩⟩), (Ext.alloc _ _).alloc' _⟩
  · have hne : (b != d) = true := by simpa using hbd
    go_enter Try.func55, Try.ntmps55
    go_wp2
    go_ret
    exact ⟨congrArg (fun b => Ending.returned (.bool b)) (b_dec HB.out (by omega)), (Ext.alloc _ _).alloc' _⟩
set_option maxHeartbeats 1000000 in
theorem pless_any (p pb : Nat) (F : Nat → Prop) (w : World) (a : Nat → Int × Int) (n i j : Nat) (h : Pile p pb F w a n) (hi : i < n) (hj : j < n) (hn : n ≤ 1000000) :
    Calls Try.prog 51 #[.pointer (some ⟨pb, 0, none⟩), .int .i64 i, .int .i64 j] w fun e w' => e = .returned (.bool (beforeB (a i) (a j))) ∧ Ext w w' := by
  obtain ⟨v, M, h⟩ := h
  obtain ⟨g, cap, rfl, _, _, hc, _⟩ := h.form (by omega)
  obtain ⟨ci0, ci1⟩ := hc i hi
  obtain ⟨cj0, cj1⟩ := hc j hj
  have c0 := h.cell0
  generalize a i = x at ci0 ci1 ⊢
  generalize a j = y at cj0 cj1 ⊢
  obtain ⟨x0, x1⟩ := x
  obtain ⟨y0, y1⟩ := y
  simp only at ci0 ci1 cj0 cj1
  have hi' : (i : Int) < n := by omega
  have hj' : (j : Int) < n := by omega
  have L0 := Later.cell c0
  have L1 := Later.cell ci0
  have L2 := Later.cell ci1
  have L3 := Later.cell cj0
  have L4 := Later.cell cj1
  clear h hc
  go_enter Try.func51, Try.ntmps51
  go_wp2
  refine wp_region_later (by kernel_rfl) (by kernel_rfl) ?_
  repeat (go_big_quiet_step (first | (go_at_call 55; exact later_of (ahead_any x0 x1 y0 y1 _))))
  refine wpQuiet_nil ?_
  intro _ hw'
  obtain ⟨z, rfl⟩ := hw'
  have x9 := z.ext
  generalize z.at = w9 at x9 ⊢
  clear L0 L1 L2 L3 L4
  go_wp2
  go_ret
  exact ⟨rfl, x9⟩
end Go.Proofs.Ytgjfomnipjljoaa
