/-
  SEGMENTS, PLAIN: lists of segments that are the same; bytes one behind the other.
-/
import Derived.Test.YtlemnjphjmnmbaaCutA
namespace Go.Proofs.Ytlemnjphjmnmbaa
open Go.RowKit
set_option linter.unusedVariables false

theorem eqB_self (n : Nat) (f : Nat → Int) : eqB n n f f = true := eqB_true rfl fun _ _ => rfl
theorem sameB_self (s : Seg) : sameB s s = true := by unfold sameB; simp [eqB_self]
theorem alikeB_of_map : ∀ {L M : List SegP}, L.map Prod.snd = M.map Prod.snd → alikeB L M = true
  | [], [], _ => rfl
  | [], _ :: _, h => by simp at h
  | _ :: _, [], h => by simp at h
  | x :: L, y :: M, h => by
    simp only [List.map_cons, List.cons.injEq] at h
    unfold alikeB
    rw [h.1, sameB_self, alikeB_of_map h.2]; rfl
theorem cutG_len : ∀ (s l : Int) (b : Bool) (f : Int) (g : Seg) (L : List Byt), (cutG s l b f g L).length ≤ L.length + 1
  | _, _, b, _, g, [] => by rw [cutG_nil]; split <;> simp
  | s, l, true, f, g, b :: L => by rw [cutG_first]; have := cutG_len s l false b.1 (oneS (gapS g (decide (b.1 - f < l))) b) L; simp only [List.length_cons]; omega
  | s, l, false, f, g, b :: L => by
    by_cases h : l ≤ b.1 - f
    · rw [cutG_cut h]; have := cutG_len s l false b.1 (oneS zeroS b) L; simp only [List.length_cons]; omega
    · by_cases k : s < b.1 - f
      · rw [cutG_gap h k]; have := cutG_len s l false b.1 (oneS (gapS g true) b) L; simp only [List.length_cons]; omega
      · rw [cutG_on h k]; have := cutG_len s l false b.1 (oneS g b) L; simp only [List.length_cons]; omega
theorem allS_len (c s l u f : Int) (L : List Byt) : (allS c s l u f L).length ≤ L.length + 1 := by
  unfold allS
  split
  · exact cutG_len _ _ _ _ _ _
  · simp
theorem WfB.byte {L : List Byt} (h : WfB L) : ∀ x ∈ L, 0 ≤ x.2.1 ∧ x.2.1 < 256 := fun x hx => by have := bounds_u8 (h x hx).2; omega
/-- When the last one came; f, if there is none. -/
def lastT (f : Int) (L : List Byt) : Int := (L.getLast?.map (·.1)).getD f
theorem lastT_cons (f : Int) (b : Byt) (L : List Byt) : lastT f (b :: L) = lastT b.1 L := by
  unfold lastT
  cases L with
  | nil => rfl
  | cons x L => rw [List.getLast?_cons_cons]; cases h : (x :: L).getLast? with
    | none => simp at h
    | some y => rfl
theorem rising_append : ∀ {L M : List Byt} {f : Int}, risingI f L = true → risingI (lastT f L) M = true → risingI f (L ++ M) = true
  | [], M, f, _, h => h
  | b :: L, M, f, h, k => by
    obtain ⟨h1, h2, h3⟩ := rising_drop h
    rw [lastT_cons] at k
    show (decide (f ≤ b.1 ∧ b.1 ≤ 1099511627776) && risingI b.1 (L ++ M)) = true
    rw [decide_eq_true ⟨h1, h2⟩, rising_append h3 k]; rfl
theorem oneS_count (s : Seg) (b : Byt) : (oneS s b).count = s.count + 1 := rfl
theorem cutG_append (s l : Int) (b : Byt) (M : List Byt) : ∀ (L : List Byt) (f : Int) (g : Seg), 0 < g.count → l ≤ b.1 - lastT f L → cutG s l false f g (L ++ b :: M) = cutG s l false f g L ++ cutG s l false b.1 (oneS zeroS b) M
  | [], f, g, hg, h => by
    rw [List.nil_append, cutG_cut (by exact h), cutG_nil, if_pos hg]; rfl
  | x :: L, f, g, hg, h => by
    rw [lastT_cons] at h
    rw [List.cons_append]
    by_cases h1 : l ≤ x.1 - f
    · rw [cutG_cut h1, cutG_cut h1, cutG_append s l b M L _ _ (by rw [oneS_count]; decide) h]; rfl
    · by_cases h2 : s < x.1 - f
      · rw [cutG_gap h1 h2, cutG_gap h1 h2, cutG_append s l b M L _ _ (by rw [oneS_count]; show 0 < g.count + 1; omega) h]
      · rw [cutG_on h1 h2, cutG_on h1 h2, cutG_append s l b M L _ _ (by rw [oneS_count]; omega) h]
theorem cutG_zero {s l f : Int} {b : Byt} {M : List Byt} (h : l ≤ b.1 - f) : cutG s l true f zeroS (b :: M) = cutG s l false b.1 (oneS zeroS b) M := by
  rw [cutG_first, decide_eq_false (by omega)]; rfl
theorem right_rising {L : List Byt} {f : Int} : rightI L f = true ↔ (0 ≤ f ∧ f ≤ 1099511627776) ∧ risingI f L = true := by
  unfold rightI; simp only [Bool.and_eq_true, decide_eq_true_eq]
theorem allS_append {c s l u : Int} {L M : List Byt} {b : Byt} (hr : rightB c s l u = true) (hL : rightI L 0 = true) (hM : rightI (b :: M) (lastT 0 L) = true) (h : l ≤ b.1 - lastT 0 L) :
    allS c s l u 0 (L ++ b :: M) = allS c s l u 0 L ++ allS c s l u (lastT 0 L) (b :: M) := by
  have hA : rightI (L ++ b :: M) 0 = true := right_rising.2 ⟨by omega, rising_append (right_rising.1 hL).2 (right_rising.1 hM).2⟩
  unfold allS
  rw [if_pos ⟨hr, hA⟩, if_pos ⟨hr, hL⟩, if_pos ⟨hr, hM⟩, cutG_zero h]
  cases L with
  | nil =>
    rw [List.nil_append, cutG_nil]
    exact cutG_zero h
  | cons x L =>
    rw [List.cons_append, cutG_first, cutG_first]
    rw [lastT_cons] at h
    exact cutG_append s l b M L _ _ (by rw [oneS_count]; show (0 : Int) < 0 + 1; decide) h
theorem Try.infoByte : (Try.prog.info? 46).map (fun i => (i.zero, i.size, i.bytes)) = some (some (.agg #[.int .i64 0, .int .u8 0, .bool false]), 3, 16) := by kernel_rfl
theorem byt_one (x : Byt) : ∀ v ∈ byt x, v.oneCell' = true := by intro v hv; simp only [byt, List.mem_cons, List.not_mem_nil, or_false] at hv; rcases hv with rfl | rfl | rfl <;> rfl
theorem segL_one (x : SegP) : ∀ v ∈ segL x, v.oneCell' = true := by intro v hv; simp only [segL, List.mem_cons, List.not_mem_nil, or_false] at hv; rcases hv with rfl | rfl | rfl | rfl | rfl | rfl <;> rfl
theorem alikeB_app {L M : List SegP} (h : L.map Prod.snd = M.map Prod.snd) : alikeB L M = true := alikeB_of_map h
theorem lastT_get {L : List Byt} (h : 0 < L.length) (f : Int) : lastT f L = (L[L.length - 1]).1 := by
  unfold lastT
  rw [List.getLast?_eq_getElem?, List.getElem?_eq_getElem (by omega)]; rfl
end Go.Proofs.Ytlemnjphjmnmbaa
