/-
  LAYER 13, PLAIN: what is read, and written, of a table of cells.
  CONTRACTS: bilgeref13 (layer 13).
-/
import Derived.Test.YtkgakeknnfnjdaaWinRef
import Derived.Test.YtkgakeknnfnjdaaBlocks
import Derived.Test.YtkgakeknnfnjdaaAppend
import Derived.Test.YtkgakeknnfnjdaaStepAppend
import Derived.Test.YtkgakeknnfnjdaaKeep
namespace Go.Proofs.Ytkgakeknnfnjdaa
open Go.RowKit
set_option linter.unusedVariables false

/-- The error of a call that wants k cells from place x on, of a table of n cells. -/
def rdE (f c n x k : Int) : Int := if rgtB f c = true ∧ n = c ∧ 1 ≤ k then (if holdB f c x k = true then 0 else 2) else 11
/-- How many are told: none, where there is an error. -/
def rdN (f c n x k : Int) (m : Nat) : Nat := if rdE f c n x k = 0 then m else 0
/-- The cells from place x on. -/
def rdF {α : Type} (l : Nat → α) (f x : Int) : Nat → α := fun i => l ((x - f).toNat + i)
/-- A table with others from place x on. -/
def wrF {α : Type} (l v : Nat → α) (f x : Int) (m : Nat) : Nat → α := fun i => if i < (x - f).toNat then l i else if i < (x - f).toNat + m then v (i - (x - f).toNat) else l i
theorem rdE_own {f c n x k : Int} (h : (rgtB f c && decide (n = c)) = false) : rdE f c n x k = 11 := by
  unfold rdE; rw [if_neg]; rintro ⟨h1, h2, _⟩; rw [h1, decide_eq_true h2] at h; cases h
theorem rdE_few {f c n x k : Int} (h : k < 1) : rdE f c n x k = 11 := by unfold rdE; rw [if_neg]; omega
theorem rdE_out {f c n x k : Int} (h : (rgtB f c && decide (n = c)) = true) (h1 : 1 ≤ k) (h2 : holdB f c x k = false) : rdE f c n x k = 2 := by
  rw [Bool.and_eq_true, decide_eq_true_eq] at h
  unfold rdE; rw [if_pos ⟨h.1, h.2, h1⟩, if_neg (by rw [h2]; decide)]
theorem rdE_ok {f c n x k : Int} (h : (rgtB f c && decide (n = c)) = true) (h2 : holdB f c x k = true) : rdE f c n x k = 0 := by
  rw [Bool.and_eq_true, decide_eq_true_eq] at h
  have := (holdB_iff f c x k).1 h2
  unfold rdE; rw [if_pos ⟨h.1, h.2, by omega⟩, if_pos h2]
theorem rdN_no {f c n x k : Int} {m : Nat} {E : Int} (h : rdE f c n x k = E) (hE : E ≠ 0) : rdN f c n x k m = 0 := by unfold rdN; rw [h, if_neg hE]
theorem rdN_ok {f c n x k : Int} {m : Nat} (h : rdE f c n x k = 0) : rdN f c n x k m = m := by unfold rdN; rw [if_pos h]

/-- A block of the call's own whose first n cells are known. -/
def RowN {α : Type} (mk : α → Value) (t : TypeId) (w : World) (B n : Nat) (f : Nat → α) : Prop :=
  ∃ cs : Array Value, w.heap[B]? = some (.cells cs t (0, 0)) ∧ n ≤ cs.size ∧ ∀ i, i < n → cs[i]? = some (mk (f i))
section
variable {α : Type} {mk : α → Value} {t : TypeId} {w w' : World} {B n : Nat} {f : Nat → α}
theorem RowN.of_own {base : Nat} {v : Value} (h : w.ownsRow base t 1 v n (lstG mk f n)) (hn : 0 < n) :
    ∃ B cap, v = .slice (some ⟨B, 0, none⟩) n cap ∧ base ≤ B ∧ n ≤ cap ∧ cap ≤ maxLen ∧ RowN mk t w B n f := by
  obtain ⟨hlen, h2⟩ := id h
  rcases h2 with ⟨hv, hx⟩ | ⟨g, cap, cur, hv, hg, hh, hn2, hm, hs, ht⟩
  · have hl : (lstG mk f n).length = 0 := by rw [hx]; rfl
    rw [lstG_length] at hl; omega
  · subst hv
    refine ⟨g, cap, rfl, hg, hn2, hm, cur, hh, by omega, fun i hi => ?_⟩
    have hx := lstG_get mk f n i hi
    rw [← ht, List.getElem?_take, if_pos (by omega)] at hx
    simpa using hx
theorem RowN.lt (h : RowN mk t w B n f) : B < w.heap.size := by
  obtain ⟨cs, h1, _⟩ := h
  rcases Nat.lt_or_ge B w.heap.size with hlt | hge
  · exact hlt
  · rw [Array.getElem?_eq_none hge] at h1; cases h1
theorem RowN.cell (h : RowN mk t w B n f) (i : Nat) (hi : i < n) : w.cell? ⟨B, i, none⟩ = some (mk (f i)) := by
  obtain ⟨cs, h1, h2, h3⟩ := h
  rw [cell_of_row w B i cs t (0, 0) h1, h3 i hi]
theorem RowN.frozen (h : RowN mk t w B n f) (i : Nat) : w.frozen? ⟨B, i, none⟩ = false := by
  obtain ⟨cs, h1, h2, h3⟩ := h
  simp [World.frozen?, h1]
theorem RowN.congr {g : Nat → α} (h : RowN mk t w B n f) (e : ∀ i, i < n → f i = g i) : RowN mk t w B n g := by
  obtain ⟨cs, h1, h2, h3⟩ := h
  exact ⟨cs, h1, h2, fun i hi => by rw [h3 i hi, e i hi]⟩
theorem RowN.set (h : RowN mk t w B n f) (j : Nat) (v : α) : RowN mk t (w.setCell ⟨B, j, none⟩ (mk v)) B n (upd f j v) := by
  obtain ⟨cs, h1, h2, h3⟩ := h
  refine ⟨cs.setIfInBounds j (mk v), ?_, by simpa using h2, fun i hi => ?_⟩
  · simp [World.setCell, Array.getElem?_modify, h1]
  · by_cases e : i = j
    · subst e; rw [upd_same]; simp [show i < cs.size from by omega]
    · rw [upd_other _ _ _ _ e, Array.getElem?_setIfInBounds_ne (Ne.symm e)]; exact h3 i hi
theorem RowN.drew (h : RowN mk t w B n f) : RowN mk t w.drew B n f := h
theorem RowN.holds (h : RowN mk t w B n f) : HoldsG mk w (some ⟨B, 0, none⟩) n f :=
  .inr ⟨B, 0, rfl, h.lt, fun i hi => by rw [Nat.zero_add]; exact h.cell i hi⟩
end
theorem upd_wrF {α : Type} (l v : Nat → α) (f x : Int) (q : Nat) : upd (wrF l v f x q) ((x - f).toNat + q) (v q) = wrF l v f x (q + 1) := by
  funext i
  unfold upd wrF
  by_cases h : i = (x - f).toNat + q
  · rw [if_pos h, if_neg (by omega), if_pos (by omega), h, show (x - f).toNat + q - (x - f).toNat = q by omega]
  · rw [if_neg h]
    by_cases h1 : i < (x - f).toNat
    · rw [if_pos h1, if_pos h1]
    · rw [if_neg h1, if_neg h1]
      by_cases h2 : i < (x - f).toNat + q
      · rw [if_pos h2, if_pos (by omega)]
      · rw [if_neg h2, if_neg (by omega)]
theorem wrF_zero {α : Type} (l v : Nat → α) (f x : Int) : wrF l v f x 0 = l := by
  funext i; unfold wrF
  by_cases h : i < (x - f).toNat
  · rw [if_pos h]
  · rw [if_neg h, if_neg (by omega)]

theorem Try.infoCb : (Try.prog.info? 4).map (fun i => (i.zero, i.size, i.bytes)) = some (some (.bool false), 1, 1) := by kernel_rfl
theorem Try.infoCw : (Try.prog.info? 89).map (fun i => (i.zero, i.size, i.bytes)) = some (some (.int .u16 0), 1, 2) := by kernel_rfl

/-- What the call owns, as 'HoldsG', and where. -/
theorem HoldsG.of_own_at {α : Type} {mk : α → Value} {w : World} {base : Nat} {e : TypeId} {v : Value} {n : Nat} {f : Nat → α} (h : w.ownsRow base e 1 v n (lstG mk f n)) :
    ∃ a cap, v = .slice a n cap ∧ n ≤ cap ∧ cap ≤ maxLen ∧ HoldsG mk w a n f ∧ ∀ p, a = some p → base ≤ p.block := by
  obtain ⟨hlen, h2⟩ := id h
  rcases h2 with ⟨hv, hx⟩ | ⟨g, cap, cur, hv, hg, hh, r⟩
  · subst hx
    exact ⟨none, 0, hv, Nat.le_refl _, Nat.zero_le _, .inl rfl, fun p hp => by cases hp⟩
  · subst hv
    refine ⟨_, _, rfl, r.1, r.2.1, .inr ⟨g, 0, rfl, (h.lt g rfl).2, fun i hi => ?_⟩, fun p hp => by cases hp; exact hg⟩
    rw [Nat.zero_add, h.cellAt i (by omega), lstG_get _ _ _ _ hi]
/-- What a call that reads tells. -/
def RdPost {α : Type} (mk : α → Value) (f c x k : Int) (n : Nat) (l : Nat → α) (w : World) (e : Ending) (w' : World) : Prop :=
  ∃ b q, e = .returned (.tuple #[.slice b (rdN f c n x k k.toNat) q, .int .i64 (rdE f c n x k)]) ∧ rdN f c n x k k.toNat ≤ q ∧ q ≤ maxLen ∧ HoldsG mk w' b (rdN f c n x k k.toNat) (rdF l f x) ∧ Ext w w'
/-- What a call that writes tells. -/
def WrPost {α : Type} (mk : α → Value) (f c x : Int) (n : Nat) (l : Nat → α) (m : Nat) (v : Nat → α) (w : World) (e : Ending) (w' : World) : Prop :=
  ∃ y q, e = .returned (.tuple #[.slice y (rdN f c n x m n) q, .int .i64 (rdE f c n x m)]) ∧ rdN f c n x m n ≤ q ∧ q ≤ maxLen ∧ HoldsG mk w' y (rdN f c n x m n) (wrF l v f x m) ∧ Ext w w'
/-- The contract of a call that reads. -/
def RdC {α : Type} (mk : α → Value) (F : FuncId) : Prop :=
  ∀ (f c x k : Int) (a : Option Addr) (n d : Nat) (l : Nat → α) (w : World), HoldsG mk w a n l → n ≤ d → d ≤ maxLen → n ≤ 1000000 → (Lit.int .i64 x).wf = true → (Lit.int .i64 k).wf = true →
    Calls Try.prog F #[.agg #[.int .i64 f, .int .i64 c], .slice a n d, .int .i64 x, .int .i64 k] w (RdPost mk f c x k n l w)
/-- The contract of a call that writes. -/
def WrC {α : Type} (mk : α → Value) (F : FuncId) : Prop :=
  ∀ (f c x : Int) (a : Option Addr) (n d : Nat) (l : Nat → α) (b : Option Addr) (m e : Nat) (v : Nat → α) (w : World), HoldsG mk w a n l → n ≤ d → d ≤ maxLen → n ≤ 1000000 → HoldsG mk w b m v → m ≤ e → e ≤ maxLen → m ≤ 1000000 → (Lit.int .i64 x).wf = true →
    Calls Try.prog F #[.agg #[.int .i64 f, .int .i64 c], .slice a n d, .int .i64 x, .slice b m e] w (WrPost mk f c x n l m v w)
/-- What a call that reads tells; the cells are new. -/
def RdPostF {α : Type} (mk : α → Value) (f c x k : Int) (n : Nat) (l : Nat → α) (w : World) (e : Ending) (w' : World) : Prop :=
  ∃ b q, e = .returned (.tuple #[.slice b (rdN f c n x k k.toNat) q, .int .i64 (rdE f c n x k)]) ∧ rdN f c n x k k.toNat ≤ q ∧ q ≤ maxLen ∧ HoldsG mk w' b (rdN f c n x k k.toNat) (rdF l f x) ∧ Ext w w' ∧ Fresh w b
def WrPostF {α : Type} (mk : α → Value) (f c x : Int) (n : Nat) (l : Nat → α) (m : Nat) (v : Nat → α) (w : World) (e : Ending) (w' : World) : Prop :=
  ∃ y q, e = .returned (.tuple #[.slice y (rdN f c n x m n) q, .int .i64 (rdE f c n x m)]) ∧ rdN f c n x m n ≤ q ∧ q ≤ maxLen ∧ HoldsG mk w' y (rdN f c n x m n) (wrF l v f x m) ∧ Ext w w' ∧ Fresh w y
theorem RdPostF.old {α : Type} {mk : α → Value} {f c x k : Int} {n : Nat} {l : Nat → α} {w : World} {e : Ending} {w' : World} (h : RdPostF mk f c x k n l w e w') : RdPost mk f c x k n l w e w' := by
  obtain ⟨b, q, h1, h2, h3, h4, h5, _⟩ := h; exact ⟨b, q, h1, h2, h3, h4, h5⟩
theorem WrPostF.old {α : Type} {mk : α → Value} {f c x : Int} {n : Nat} {l : Nat → α} {m : Nat} {v : Nat → α} {w : World} {e : Ending} {w' : World} (h : WrPostF mk f c x n l m v w e w') : WrPost mk f c x n l m v w e w' := by
  obtain ⟨b, q, h1, h2, h3, h4, h5, _⟩ := h; exact ⟨b, q, h1, h2, h3, h4, h5⟩
def RdCF {α : Type} (mk : α → Value) (F : FuncId) : Prop :=
  ∀ (f c x k : Int) (a : Option Addr) (n d : Nat) (l : Nat → α) (w : World), HoldsG mk w a n l → n ≤ d → d ≤ maxLen → n ≤ 1000000 → (Lit.int .i64 x).wf = true → (Lit.int .i64 k).wf = true →
    Calls Try.prog F #[.agg #[.int .i64 f, .int .i64 c], .slice a n d, .int .i64 x, .int .i64 k] w (RdPostF mk f c x k n l w)
def WrCF {α : Type} (mk : α → Value) (F : FuncId) : Prop :=
  ∀ (f c x : Int) (a : Option Addr) (n d : Nat) (l : Nat → α) (b : Option Addr) (m e : Nat) (v : Nat → α) (w : World), HoldsG mk w a n l → n ≤ d → d ≤ maxLen → n ≤ 1000000 → HoldsG mk w b m v → m ≤ e → e ≤ maxLen → m ≤ 1000000 → (Lit.int .i64 x).wf = true →
    Calls Try.prog F #[.agg #[.int .i64 f, .int .i64 c], .slice a n d, .int .i64 x, .slice b m e] w (WrPostF mk f c x n l m v w)
theorem RdCF.old {α : Type} {mk : α → Value} {F : FuncId} (h : RdCF mk F) : RdC mk F := fun f c x k a n d l w h1 h2 h3 h4 h5 h6 => (h f c x k a n d l w h1 h2 h3 h4 h5 h6).mono fun _ _ => RdPostF.old
theorem WrCF.old {α : Type} {mk : α → Value} {F : FuncId} (h : WrCF mk F) : WrC mk F := fun f c x a n d l b m e v w h1 h2 h3 h4 h5 h6 h7 h8 h9 => (h f c x a n d l b m e v w h1 h2 h3 h4 h5 h6 h7 h8 h9).mono fun _ _ => WrPostF.old
end Go.Proofs.Ytkgakeknnfnjdaa
