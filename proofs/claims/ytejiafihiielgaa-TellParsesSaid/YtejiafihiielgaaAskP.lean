/-
  CONTRACTS: bilgeref15 (layer 15): what is said by an ask.
-/
import Derived.Test.YtejiafihiielgaaAskQ
import Derived.Test.YtejiafihiielgaaAskM
import Derived.Test.YtejiafihiielgaaAppend
import Derived.Test.YtejiafihiielgaaSame
namespace Go.Proofs.Ytejiafihiielgaa
open Go.RowKit
set_option linter.unusedVariables false

/-- append as a step of a region that draws, its place a literal. -/
theorem step_appendD {P : Program} {w : World} {α : Type} {mk : α → Value} {ops : Array Oper} {o : Oper} {a : Act} {K : Act → World → Prop} {Q : Exit → Act → World → Prop} {E : Prop} (hgd : o.guard = none) (s x : Operand) (t : TypeId)
    (ho : o.op = .call { callee := .builtin .append, args := #[s, x], argTypes := #[t, t] })
    (base : Nat) (e : TypeId) (i : TypeInfo) (z : Value) (bytes : Nat) (ht : P.underlying t = some (.slice e)) (hi : P.info? e = some i) (hz : i.zero = some z)
    (hsize : i.size = 1) (hby : i.bytes = bytes) (hzs : z.cells.size = 1)
    (v : Value) (n : Nat) (xs : List Value) (hs : a.eval s = v) (hown : w.ownsRow base e 1 v n xs)
    (A : Option Addr) (m c : Nat) (f : Nat → α) (hx : a.eval x = .slice A m c) (hh : HoldsG mk w A m f) (h1 : ∀ u, (mk u).oneCell' = true)
    (h63 : n + m ≤ maxLen) (hbytes : (n + m) * bytes ≤ 140737488355328) (hbase : base ≤ w.heap.size) (d : Tmp) (hd : o.dst = some d)
    (h : ∀ v' w', w'.ownsRow base e 1 v' (n + m) (xs ++ lstG mk f m) → w.grownBy w' v.ownBlock → Below base w w' → K (a.put (some d) v') w') :
    if Region.wanted o (yielded ops a.tmps) = true then Oper.wp P o a w K Q else E :=
  step_append_holds hgd s x t ho base e i z bytes ht hi hz hsize hby hzs v n xs hs hown A m c f hx hh h1 h63 hbytes hbase (fun v' w' k1 k2 k3 => by rw [hd]; exact h v' w' k1 k2 k3)
theorem lst_one {α : Type} (mk : α → Value) (x : α) : [mk x] = lstG mk (fun _ => x) 1 := by simp [lstG]
/-- What is said, as a list. -/
theorem say_list (Q : Qst) (g : Nat → Int) (m : Nat) (hm : m = tailN Q) (hg : ∀ i, i < m → g i = tailF Q i) :
    [Value.int .u8 Q.k] ++ lstG (Value.int .u8) (putF (numF Q)) (2 * numN Q) ++ lstG (Value.int .u8) g m = lstG (Value.int .u8) (sayF Q) (sayN Q) := by
  rw [lst_one (Value.int .u8) Q.k, lstG_append, lstG_append]
  subst hm
  unfold sayN
  unfold lstG
  refine List.map_congr_left fun i hi => ?_
  have hi := List.mem_range.1 hi
  dsimp only
  unfold sayF
  by_cases h0 : i = 0
  · rw [if_pos h0, if_pos (by omega), if_pos (by omega)]
  · rw [if_neg h0]
    by_cases h1 : i < 1 + 2 * numN Q
    · rw [if_pos h1, if_pos h1, if_neg (by omega)]
    · rw [if_neg h1, if_neg h1, hg _ (by omega)]
/-- A literal's row of one. -/
theorem own_lit (w : World) (x : Int) (base : Nat) (hb : base ≤ w.heap.size) : (w.alloc (.cells #[.int .u8 x] 5)).ownsRow base 5 1 (.slice (some ⟨w.heap.size, 0, none⟩) 1 1) 1 [.int .u8 x] :=
  ⟨rfl, .inr ⟨w.heap.size, 1, #[.int .u8 x], rfl, hb, heap_alloc_new w _, Nat.le_refl _, by unfold maxLen; omega, rfl, rfl⟩⟩
theorem two_words (w : World) (a b : Int) (f : Nat → Int) (h0 : f 0 = a) (h1 : f 1 = b) : HoldsG (Value.int .u16) (w.alloc (.cells #[.int .u16 a, .int .u16 b] 50)) (some ⟨w.heap.size, 0, none⟩) 2 f :=
  HoldsG.new _ _ _ 2 _ (fun i hi => by
    have h : i = 0 ∨ i = 1 := by omega
    rcases h with rfl | rfl
    · rw [h0]; rfl
    · rw [h1]; rfl)
theorem three_words (w : World) (a b c : Int) (f : Nat → Int) (h0 : f 0 = a) (h1 : f 1 = b) (h2 : f 2 = c) : HoldsG (Value.int .u16) (w.alloc (.cells #[.int .u16 a, .int .u16 b, .int .u16 c] 50)) (some ⟨w.heap.size, 0, none⟩) 3 f :=
  HoldsG.new _ _ _ 3 _ (fun i hi => by
    have h : i = 0 ∨ i = 1 ∨ i = 2 := by omega
    rcases h with rfl | rfl | rfl
    · rw [h0]; rfl
    · rw [h1]; rfl
    · rw [h2]; rfl)
theorem four_words (w : World) (a b c d : Int) (f : Nat → Int) (h0 : f 0 = a) (h1 : f 1 = b) (h2 : f 2 = c) (h3 : f 3 = d) : HoldsG (Value.int .u16) (w.alloc (.cells #[.int .u16 a, .int .u16 b, .int .u16 c, .int .u16 d] 50)) (some ⟨w.heap.size, 0, none⟩) 4 f :=
  HoldsG.new _ _ _ 4 _ (fun i hi => by
    have h : i = 0 ∨ i = 1 ∨ i = 2 ∨ i = 3 := by omega
    rcases h with rfl | rfl | rfl | rfl
    · rw [h0]; rfl
    · rw [h1]; rfl
    · rw [h2]; rfl
    · rw [h3]; rfl)
theorem w16 {x : Int} (h : 0 ≤ x ∧ x ≤ 65535) : IntKind.u16.wrap x = x := by simp [IntKind.wrap, IntKind.bits, IntKind.signed]; omega
theorem w8 {x : Int} (h : 0 ≤ x ∧ x ≤ 255) : IntKind.u8.wrap x = x := by simp [IntKind.wrap, IntKind.bits, IntKind.signed]; omega
/-- What is told of an ask. -/
def PrP (Q : Qst) (w : World) (e : Ending) (w' : World) : Prop :=
  ∃ b q, e = .returned (.tuple #[.slice b (prN Q) q, .bool (rightQ Q)]) ∧ prN Q ≤ q ∧ q ≤ maxLen ∧ HoldsG (Value.int .u8) w' b (prN Q) (sayF Q) ∧ Ext w w'
end Go.Proofs.Ytejiafihiielgaa
