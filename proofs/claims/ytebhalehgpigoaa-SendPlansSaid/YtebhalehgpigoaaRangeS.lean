/-
  A RANGE OVER A FUNCTION, over plain walks, whose iterator WRITES between the rounds, and yields more than one value: I at its rounds' heads, M at its yields. The body falls off its end each time.
-/
import Derived.Test.YtebhalehgpigoaaRangeF
namespace Go.Proofs.Ytebhalehgpigoaa
open Go.RowKit
set_option linter.unusedVariables false

/-- What is no cells lies as it lay. -/
def Lies (w w' : World) : Prop := ∀ (b : Nat) (o : Obj), w.heap[b]? = some o → o.isCells = false → w'.heap[b]? = some o
theorem Lies.refl (w : World) : Lies w w := fun _ _ h _ => h
theorem Lies.trans {a b c : World} (h : Lies a b) (k : Lies b c) : Lies a c := fun i o h1 h2 => k i o (h i o h1 h2) h2
theorem Lies.of_ext {a b : World} (h : Ext a b) : Lies a b := fun _ _ h1 _ => h.block h1
theorem wp_rangeFunc_at {P : Program} {α : Type} {g : Operand} {ps : Array Tmp} {assign body : Code} {Q : Exit → Act → World → Prop} {a : Act} {w : World} {gf : Nat} {lb : Array Value}
    (hg : a.eval g = .func (.func gf) #[] lb) (eg : ∀ args w, (callFunc gf args).run P w = .ok (.enter gf args) w)
    (enc : α → Array Value) (henc : ∀ x, (enc x).size = ps.size) (M : Nat → α → World → Prop) (N : Nat)
    (I : Nat → World → Prop) (hIx : ∀ k W W', I k W → Ext W W' → I k W')
    (hIp : ∀ k W l o o', I k W → w.heap.size ≤ l → W.heap[l]? = some o → o.isCells = false → I k (W.putObj l o'))
    (h0 : I 0 w)
    (hseq : ∀ (l : Nat) (J : Nat → World → Prop) (W : World), Ext w W → (∀ k W, J k W → I k W) → (∀ k W W', J k W → Lies W W' → I k W' → J k W') →
      (∀ k x W0 W1, J k W0 → Lies W0 W1 → M k x W1 → k < N → YieldAt Fence.wide 0 P l (enc x) W1 fun e W' => e = .returned (.bool true) ∧ J (k + 1) W') →
      J 0 W → Calls P gf (#[.func (.yield l) #[] #[]] ++ lb) W fun e W' => (∃ v, e = .returned v) ∧ J N W')
    (A : Nat → α → Act → World → Prop)
    (hassign : ∀ l k x W1 (K : Act → World → Prop), M k x W1 → (∀ a' W2, Ext W1 W2 → A k x a' W2 → K a' W2) →
      assign.wpIn (Fence.wide.inRound l) 0 P (Exit.then K (fun _ _ _ => False)) { tmps := (ps.zip (enc x)).foldl (fun tmps (p, v) => tmps.setIfInBounds p v) a.tmps, defers := [] } W1)
    (hbody : ∀ l o' k x a' W1 W2, M k x W1 → Ext W1 W2 → A k x a' W2 → w.heap.size ≤ l → l < W1.heap.size → (∃ r, W2.heap[l]? = some (.loop r)) → k < N →
      body.wpIn (Fence.wide.inRound l) 0 P (onPost w.heap.size (I (k + 1)) (W2.putObj l o')) a' (W2.putObj l o'))
    (hdone : ∀ (D : Nat) (W : World), w.heap.size ≤ D → I N W → W.heap[D]? = some (.deferred (some [])) → Q .normal { a with defers := { target := .collected D, args := #[] } :: a.defers } W) :
    (Code.rangeFunc g ps assign body).wp P Q a w := by
  refine (wpIn_wide (n := 0)).1 (wpIn_rangeFunc ?_)
  intro fn hfn
  obtain ⟨rec, hrec⟩ : ∃ rec : LoopState → Option Code → Loop, rec = fun st pe => { state := st, pending := pe, fn, tmps := a.tmps, params := ps, assign, body, defers := w.heap.size } := ⟨_, rfl⟩
  have hst : ∀ st pe, (rec st pe).state = st := fun st pe => by rw [hrec]
  obtain ⟨B, hB⟩ : ∃ B, B = w.heap.size := ⟨_, rfl⟩
  obtain ⟨W1, hW1⟩ : ∃ W1, (w.alloc (.deferred (some []))).alloc (.loop (rec .ready none)) = W1 := ⟨_, rfl⟩
  have x1 : Ext w W1 := by rw [← hW1]; exact (Ext.alloc _ _).alloc' _
  have hL1 : W1.heap[B + 1]? = some (.loop (rec .ready none)) := by
    rw [← hW1, hB]; exact heap_new_at' _ _ (by simp)
  have hD1 : W1.heap[B]? = some (.deferred (some [])) := by
    rw [← hW1, hB, heap_alloc_old _ _ (by simp)]; exact heap_alloc_new _ _
  refine ⟨B + 1, [{ target := .collected B, args := #[] }], W1, { target := .fn (.func gf) lb, args := #[.func (.yield (B + 1)) #[] #[]] }, W1, gf,
    #[.func (.yield (B + 1)) #[] #[]] ++ lb, W1, ?_, ?_, fun _ _ => trivial, ?_, (fun h => by cases h), ?_⟩
  · rw [← hW1, hrec, hB]; exact run_enterLoop_outer _ _ _ _ _
  · simp only [resolve, hg]
    simp [go_sem]
  · simp [invoke, go_sem, eg]
  refine callsIn_wide.2 ?_
  refine (hseq (B + 1) (fun k W => I k W ∧ W.heap[B + 1]? = some (.loop (rec .ready none)) ∧ W.heap[B]? = some (.deferred (some []))) W1 x1 (fun k W h => h.1)
    (fun k W W' h x hi => ⟨hi, x _ _ h.2.1 rfl, x _ _ h.2.2 rfl⟩) ?_ ⟨hIx _ _ _ h0 x1, hL1, hD1⟩).mono ?_
  · rintro k x V0 V1 ⟨hi, hl, hd⟩ xV hx hk
    have hl1 := xV _ _ hl rfl
    have hd1 := xV _ _ hd rfl
    have hlt : B + 1 < V1.heap.size := heap_lt' hl1
    have hy := run_yield (P := P) (args := enc x) hl1 (by rw [hrec]; simp [henc])
    rw [hrec] at hy
    refine ⟨fn, _, assign, body, hy, roundIn_of_wpIn trivial ?_⟩
    refine hassign (B + 1) k x V1 _ hx fun a' V2 x2 hA => ?_
    have hl2 := x2.block hl1
    have hd2 := x2.block hd1
    refine ⟨_, run_beginRound hl2 (by rw [hrec]), ?_⟩
    obtain ⟨o', ho'⟩ : ∃ o' : Obj, o' = .loop { rec .ready none with state := .busy } := ⟨_, rfl⟩
    rw [← ho']
    have hb3 := hbody (B + 1) o' k x a' V1 V2 hx x2 hA (by omega) hlt ⟨_, hl2⟩ hk
    have hl3 : (V2.putObj (B + 1) o').heap[B + 1]? = some (.loop { rec .ready none with state := .busy }) := by rw [← ho']; exact World.putObj_heap_same (heap_lt' hl2)
    have hd3 : (V2.putObj (B + 1) o').heap[B]? = some (.deferred (some [])) := (World.putObj_heap_other (by omega)).trans hd2
    refine wpIn_mono hb3 ?_
    rintro e a4 V4 hp
    cases e with
    | normal =>
      obtain ⟨hkeep, hi4⟩ := hp
      have hl4 := hkeep _ _ (by omega) hl3 rfl
      have hd4 := hkeep _ _ (by omega) hd3 rfl
      have hr := run_endRound (P := P) none hl4
      refine ⟨_, _, hr, rfl, hIp _ _ _ _ _ hi4 (by omega) hl4 rfl, ?_, (World.putObj_heap_other (by omega)).trans hd4⟩
      rw [World.putObj_heap_same (heap_lt' hl4), hrec]
      rfl
    | ret => exact hp.elim
    | exit id => exact hp.elim
    | goto t => exact hp.elim
    | panic ch => exact hp.elim
    | outgrown => exact hp.elim
  · rintro e V ⟨⟨v, rfl⟩, hi, hl, hd⟩
    have hr := run_endLoop (P := P) hl (by rw [hrec]; simp)
    rw [show (rec .ready none).pending = none by rw [hrec]] at hr
    refine ⟨none, _, hr, ?_⟩
    exact hdone B _ (by omega) (hIp _ _ _ _ _ hi (by omega) hl rfl) ((World.putObj_heap_other (by omega)).trans hd)
end Go.Proofs.Ytebhalehgpigoaa
