/-
  SLICES OF ONE-CELL VALUES AS FUNCTIONS: 'HoldsG mk w a n f': the n cells from the address a on are mk (f 0), mk (f 1) ..; at bools: 'HoldsG Value.bool'.
-/
import Derived.Test.YtebhalehgpigoaaSlices
namespace Go.Proofs.Ytebhalehgpigoaa
open Go.RowKit

def HoldsG {α : Type} (mk : α → Value) (w : World) (a : Option Addr) (n : Nat) (f : Nat → α) : Prop :=
  n = 0 ∨ ∃ b off, a = some ⟨b, off, none⟩ ∧ b < w.heap.size ∧ ∀ i, i < n → w.cell? ⟨b, off + i, none⟩ = some (mk (f i))

section
variable {α : Type} {mk : α → Value} {w w' : World} {a : Option Addr} {n : Nat} {f : Nat → α}
theorem HoldsG.below (h : HoldsG mk w a n f) (hb : Below w.heap.size w w') : HoldsG mk w' a n f := by
  rcases h with h | ⟨b, off, ha, hlt, hc⟩
  · exact .inl h
  · exact .inr ⟨b, off, ha, Nat.lt_of_lt_of_le hlt hb.size, fun i hi => (hb.cell (p := ⟨b, off + i, none⟩) hlt).trans (hc i hi)⟩
theorem HoldsG.ext (h : HoldsG mk w a n f) (x : Ext w w') : HoldsG mk w' a n f := h.below x
theorem HoldsG.congr {g : Nat → α} (h : HoldsG mk w a n f) (e : ∀ i, i < n → f i = g i) : HoldsG mk w a n g := by
  rcases h with h | ⟨b, off, ha, hlt, hc⟩
  · exact .inl h
  · exact .inr ⟨b, off, ha, hlt, fun i hi => by rw [hc i hi, e i hi]⟩
theorem HoldsG.take (h : HoldsG mk w a n f) {m : Nat} (hm : m ≤ n) : HoldsG mk w a m f := by
  rcases h with h | ⟨b, off, ha, hlt, hc⟩
  · exact .inl (by omega)
  · exact .inr ⟨b, off, ha, hlt, fun i hi => hc i (by omega)⟩
theorem HoldsG.drop {b off : Nat} (h : HoldsG mk w (some ⟨b, off, none⟩) n f) {k : Nat} : HoldsG mk w (some ⟨b, off + k, none⟩) (n - k) (fun i => f (k + i)) := by
  rcases h with h | ⟨b', off', ha, hlt, hc⟩
  · exact .inl (by omega)
  · cases ha
    exact .inr ⟨b, off + k, rfl, hlt, fun i hi => by rw [Nat.add_assoc]; exact hc (k + i) (by omega)⟩
end

/-- The n cells as a list of values. -/
def lstG {α : Type} (mk : α → Value) (f : Nat → α) (n : Nat) : List Value := (List.range n).map (fun i => mk (f i))
theorem lstG_length {α : Type} (mk : α → Value) (f : Nat → α) (n : Nat) : (lstG mk f n).length = n := by simp [lstG]
theorem lstG_succ {α : Type} (mk : α → Value) (f : Nat → α) (n : Nat) : lstG mk f n ++ [mk (f n)] = lstG mk f (n + 1) := by simp [lstG, List.range_succ]
theorem lstG_get {α : Type} (mk : α → Value) (f : Nat → α) (n i : Nat) (h : i < n) : (lstG mk f n)[i]? = some (mk (f i)) := by simp [lstG, h]
theorem lstG_append {α : Type} (mk : α → Value) (f g : Nat → α) (n m : Nat) : lstG mk f n ++ lstG mk g m = lstG mk (fun i => if i < n then f i else g (i - n)) (n + m) := by
  apply List.ext_getElem?
  intro i
  by_cases h : i < n
  · rw [List.getElem?_append_left (by simp [lstG, h]), lstG_get _ _ _ _ h, lstG_get _ _ _ _ (by omega), if_pos h]
  · rw [List.getElem?_append_right (by simp [lstG]; omega), lstG_length]
    by_cases h2 : i - n < m
    · rw [lstG_get _ _ _ _ h2, lstG_get _ _ _ _ (by omega), if_neg h]
    · rw [List.getElem?_eq_none (by simp [lstG]; omega), List.getElem?_eq_none (by simp [lstG]; omega)]

theorem cap_of_own {w : World} {base : Nat} {e : TypeId} {a : Option Addr} {n cap m size : Nat} {xs : List Value} (h : w.ownsRow base e size (.slice a n cap) m xs) : n ≤ cap ∧ cap ≤ maxLen ∧ n = m := by
  rcases h.2 with ⟨hv, rfl⟩ | ⟨g, c, cur, hv, _, _, hn, hm, _⟩
  · injection hv with _ h1 h2; subst h1; subst h2; exact ⟨Nat.le_refl _, Nat.zero_le _, rfl⟩
  · injection hv with _ h1 h2; subst h1; subst h2; exact ⟨hn, hm, rfl⟩
theorem HoldsG.of_own {α : Type} {mk : α → Value} {w : World} {base : Nat} {e : TypeId} {v : Value} {n : Nat} {f : Nat → α} (h : w.ownsRow base e 1 v n (lstG mk f n)) :
    ∃ a cap, v = .slice a n cap ∧ n ≤ cap ∧ cap ≤ maxLen ∧ HoldsG mk w a n f := by
  obtain ⟨hlen, h2⟩ := id h
  rcases h2 with ⟨hv, hx⟩ | ⟨g, cap, cur, hv, hg, hh, r⟩
  · subst hx
    exact ⟨none, 0, hv, Nat.le_refl _, Nat.zero_le _, .inl rfl⟩
  · subst hv
    refine ⟨_, _, rfl, r.1, r.2.1, .inr ⟨g, 0, rfl, (h.lt g rfl).2, fun i hi => ?_⟩⟩
    rw [Nat.zero_add, h.cellAt i (by omega), lstG_get _ _ _ _ hi]
theorem Holds.of_own3 {k : IntKind} {w : World} {base : Nat} {e : TypeId} {v : Value} {n : Nat} {f : Nat → Int} (h : w.ownsRow base e 1 v n (lst k f n)) :
    ∃ a cap, v = .slice a n cap ∧ n ≤ cap ∧ cap ≤ maxLen ∧ Holds k w a n f := HoldsG.of_own (mk := .int k) h
theorem own_lst {α : Type} {mk : α → Value} {w : World} {base : Nat} {e : TypeId} {v : Value} {n : Nat} {f : Nat → α} {xs : List Value} (h : w.ownsRow base e 1 v n xs) (hx : ∀ i, i < n → xs[i]? = some (mk (f i))) : w.ownsRow base e 1 v n (lstG mk f n) := by
  have hl : xs.length = n := by have := h.1; omega
  have : xs = lstG mk f n := by
    apply List.ext_getElem?
    intro i
    by_cases hi : i < n
    · rw [hx i hi, lstG_get _ _ _ _ hi]
    · rw [List.getElem?_eq_none (by omega), List.getElem?_eq_none (by simp [lstG]; omega)]
  rw [← this]; exact h
theorem HoldsG.new {α : Type} {mk : α → Value} (w : World) (cs : Array Value) (t : TypeId) (n : Nat) (f : Nat → α) (h : ∀ i, i < n → cs[i]? = some (mk (f i))) :
    HoldsG mk (w.alloc (.cells cs t)) (some ⟨w.heap.size, 0, none⟩) n f := by
  refine .inr ⟨w.heap.size, 0, rfl, by simp, fun i hi => ?_⟩
  rw [Nat.zero_add, World.cell?_alloc_at (hn := rfl)]
  exact h i hi
def ofB (l : List Bool) : Nat → Bool := fun i => l.getD i false
theorem HoldsG.litB (w : World) (l : List Bool) (t : TypeId) (cs : Array Value) (h : cs = (l.map Value.bool).toArray) (n : Nat) (hn : n = l.length) : HoldsG Value.bool (w.alloc (.cells cs t)) (some ⟨w.heap.size, 0, none⟩) n (ofB l) :=
  HoldsG.new _ _ _ _ _ (fun i hi => by subst h; subst hn; simp [ofB, hi])
theorem made_get (z : Value) (n i : Nat) (hi : i < n) : ((madeCells #[z] (n * 1)).toList)[i]? = some z := by
  simp [madeCells, hi, Nat.mod_one]

/-- Are they as many, and the same? (of any kind) -/
def eqG {α : Type} [BEq α] (n m : Nat) (f g : Nat → α) : Bool := decide (n = m) && (List.range n).all (fun i => f i == g i)
theorem eqG_iff {n m : Nat} {f g : Nat → Bool} : eqG n m f g = true ↔ n = m ∧ ∀ i, i < n → f i = g i := by simp [eqG]
theorem eqG_true {n m : Nat} {f g : Nat → Bool} (h : n = m) (e : ∀ i, i < n → f i = g i) : eqG n m f g = true := eqG_iff.2 ⟨h, e⟩
theorem eqG_false {n m : Nat} {f g : Nat → Bool} (h : n ≠ m ∨ ∃ i, i < n ∧ f i ≠ g i) : eqG n m f g = false := by
  cases e : eqG n m f g with
  | false => rfl
  | true =>
    obtain ⟨h1, h2⟩ := eqG_iff.1 e
    rcases h with h | ⟨i, hi, hne⟩
    · exact absurd h1 h
    · exact absurd (h2 i hi) hne

/-- A slice of bools that came in. -/
theorem bools_in {w : World} {a : Option Addr} {len cap : Nat} (h : (a = none ∧ len = 0 ∧ cap = 0) ∨ ∃ (x : Addr) (B : Nat → Bool), a = some x ∧ len ≤ cap ∧ cap ≤ maxLen ∧ ∀ i, i < cap → w.cell? (x.add i) = some (.bool (B i))) :
    ∃ f, HoldsG Value.bool w a len f ∧ len ≤ maxLen ∧ len ≤ cap := by
  rcases h with ⟨_, h0, hc0⟩ | ⟨x, B, ha, hl, hm, hc⟩
  · subst h0; subst hc0; exact ⟨fun _ => false, .inl rfl, Nat.zero_le _, Nat.le_refl _⟩
  · refine ⟨B, ?_, Nat.le_trans hl hm, hl⟩
    by_cases h0 : len = 0
    · exact .inl h0
    · obtain ⟨b, off, spot⟩ := x
      have hc0 := hc 0 (by omega)
      have hspot : spot = none := by simpa [Addr.add] using World.cell?_spot hc0
      subst hspot
      refine .inr ⟨b, off, ha, World.block_lt_of_cell? w _ hc0, fun i hi => ?_⟩
      have e : (⟨b, off, none⟩ : Addr).add i = ⟨b, off + i, none⟩ := by unfold Addr.add; split <;> simp_all
      rw [← e]
      exact hc i (by omega)
theorem ret_i {k : IntKind} {a b : Int} (h : a = b) : Ending.returned (.int k a) = .returned (.int k b) := by rw [h]
theorem ret_b {a b : Bool} (h : a = b) : Ending.returned (.bool a) = .returned (.bool b) := by rw [h]
theorem dr2 (w : World) (q r : Nat) : ∃ s, (w.drewN q).drewN r = w.drewN s := ⟨q + r, by simp⟩
theorem IsRow.cap {k : IntKind} {w : World} {a : Option Addr} {len cap : Nat} {zs : List Int} (h : IsRow k w a len cap zs) : len ≤ cap ∧ cap ≤ maxLen := by
  rcases h with ⟨_, h0, hc0, _⟩ | ⟨x, ha, hl, hm, _⟩
  · subst h0; subst hc0; exact ⟨Nat.le_refl _, Nat.zero_le _⟩
  · exact ⟨hl, hm⟩
theorem bools_in2 {w : World} {a : Option Addr} {len cap : Nat} (h : (a = none ∧ len = 0 ∧ cap = 0) ∨ ∃ (x : Addr) (B : Nat → Bool), a = some x ∧ len ≤ cap ∧ cap ≤ maxLen ∧ ∀ i, i < cap → w.cell? (x.add i) = some (.bool (B i))) :
    ∃ f, HoldsG Value.bool w a len f ∧ len ≤ maxLen ∧ len ≤ cap ∧ cap ≤ maxLen := by
  obtain ⟨f, h1, h2, h3⟩ := bools_in h
  refine ⟨f, h1, h2, h3, ?_⟩
  rcases h with ⟨_, _, hc0⟩ | ⟨x, B, ha, hl, hm, hc⟩
  · subst hc0; exact Nat.zero_le _
  · exact hm
end Go.Proofs.Ytebhalehgpigoaa
