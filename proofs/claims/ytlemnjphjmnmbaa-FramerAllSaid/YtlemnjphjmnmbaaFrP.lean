/-
  SEGMENTS AS THEY COME, PLAIN: a framer ('Fr'), what becomes of it, and how it hangs on the segments of all bytes so far ('RefR').
-/
import Derived.Test.YtlemnjphjmnmbaaCutP
namespace Go.Proofs.Ytlemnjphjmnmbaa
open Go.RowKit
set_option linter.unusedVariables false

/-- A framer: its times, from when on the line was silent, to when it has come, the open segment (none: it counts no byte). -/
structure Fr where
  c : Int
  s : Int
  l : Int
  u : Int
  since : Int
  now : Int
  sg : Seg
/-- It may be. -/
structure FrOk (x : Fr) : Prop where
  right : rightB x.c x.s x.l x.u = true
  since0 : 0 ≤ x.since
  since1 : x.since ≤ x.now
  now1 : x.now ≤ 1099511627776
  count : 0 ≤ x.sg.count
  none : x.sg.count = 0 → x.sg = zeroS
  last : 0 < x.sg.count → x.since ≤ x.sg.last ∧ x.sg.last ≤ x.now
  n : (x.sg.n : Int) = if x.sg.count < 256 then x.sg.count else 256
  small : SegB x.sg
theorem FrOk.few {x : Fr} (h : FrOk x) : x.sg.n ≤ 256 := by have hc := h.count; have hn := h.n; split at hn <;> omega
theorem FrOk.long {x : Fr} (h : FrOk x) : 1 ≤ x.l ∧ x.l ≤ 16777216 ∧ 1 ≤ x.s ∧ x.s < x.l := by have := (rightB_iff _ _ _ _).1 h.right; omega
/-- Is that time refused? -/
def errB (x : Fr) (t : Int) : Bool := decide (t < x.now ∨ 1099511627776 < t)
/-- Is the open segment over then? -/
def overB (x : Fr) (t : Int) : Bool := decide (0 < x.sg.count ∧ x.l ≤ t - x.sg.last)
def idleF (x : Fr) (t : Int) : Fr := if errB x t = true then x else if overB x t = true then { x with now := t, sg := zeroS } else { x with now := t }
def idleS (x : Fr) (t : Int) : Seg := if errB x t = true then zeroS else if overB x t = true then x.sg else zeroS
def idleB (x : Fr) (t : Int) : Bool := !errB x t && overB x t
def idleN (x : Fr) (t : Int) : Int := if errB x t = true then 11 else 0
/-- The open segment with a byte more. -/
def takeS (x : Fr) (b : Byt) : Seg := oneS (if 0 < x.sg.count then gapS x.sg (x.sg.gap || decide (x.s < b.1 - x.sg.last)) else gapS zeroS (decide (b.1 - x.since < x.l))) b
def takeF (x : Fr) (b : Byt) : Fr := { x with sg := takeS x b }
def byteF (x : Fr) (b : Byt) : Fr := if errB x b.1 = true then x else takeF (idleF x b.1) b
def newF (c s l u f : Int) : Fr := ⟨c, s, l, u, f, f, zeroS⟩
theorem zeroS_small : SegB zeroS := fun i hi => absurd hi (Nat.not_lt_zero _)
theorem newF_ok {c s l u f : Int} (h : rightB c s l u = true) (h0 : 0 ≤ f) (h1 : f ≤ 1099511627776) : FrOk (newF c s l u f) :=
  ⟨h, h0, Int.le_refl _, h1, Int.le_refl _, fun _ => rfl, fun h => absurd h (show ¬ (0 : Int) < 0 by decide), by unfold newF zeroS; simp, zeroS_small⟩
theorem gapS_gap (s : Seg) : gapS s s.gap = s := rfl
theorem idle_ok {x : Fr} (h : FrOk x) (t : Int) : FrOk (idleF x t) := by
  unfold idleF
  by_cases he : errB x t = true
  · rw [if_pos he]; exact h
  · rw [if_neg he]
    have he' : x.now ≤ t ∧ t ≤ 1099511627776 := by unfold errB at he; simp at he; omega
    by_cases ho : overB x t = true
    · rw [if_pos ho]
      exact ⟨h.right, h.since0, Int.le_trans h.since1 he'.1, he'.2, Int.le_refl _, fun _ => rfl, fun h => absurd h (show ¬ (0 : Int) < 0 by decide), by unfold zeroS; simp, zeroS_small⟩
    · rw [if_neg ho]
      exact ⟨h.right, h.since0, Int.le_trans h.since1 he'.1, he'.2, h.count, h.none, fun k => ⟨(h.last k).1, Int.le_trans (h.last k).2 he'.1⟩, h.n, h.small⟩
theorem idle_now {x : Fr} {t : Int} (h : errB x t = false) : (idleF x t).now = t ∧ x.now ≤ t ∧ t ≤ 1099511627776 := by
  have he' : x.now ≤ t ∧ t ≤ 1099511627776 := by unfold errB at h; simp at h; omega
  refine ⟨?_, he'⟩
  unfold idleF
  rw [if_neg (by simp [h])]
  split <;> rfl
theorem idle_count {x : Fr} (h : FrOk x) (t : Int) : (idleF x t).sg.count ≤ x.sg.count := by
  unfold idleF
  split
  · exact Int.le_refl _
  · split
    · exact h.count
    · exact Int.le_refl _
theorem takeS_ok {x : Fr} (h : FrOk x) {b : Byt} (hn : x.now = b.1) (h0 : 0 ≤ b.2.1) (h1 : b.2.1 < 256) : FrOk (takeF x b) := by
  obtain ⟨z, hz⟩ : ∃ z, z = (if 0 < x.sg.count then gapS x.sg (x.sg.gap || decide (x.s < b.1 - x.sg.last)) else gapS zeroS (decide (b.1 - x.since < x.l))) := ⟨_, rfl⟩
  have hc := h.count
  have e : z.count = x.sg.count ∧ z.n = x.sg.n ∧ SegB z := by
    rw [hz]
    by_cases k : 0 < x.sg.count
    · rw [if_pos k]; exact ⟨rfl, rfl, h.small⟩
    · rw [if_neg k, h.none (by omega)]; exact ⟨rfl, rfl, zeroS_small⟩
  have hs : (takeF x b).sg = oneS z b := by rw [hz]; rfl
  refine ⟨h.right, h.since0, h.since1, h.now1, ?_, ?_, ?_, ?_, ?_⟩
  · rw [hs, oneS_count, e.1]; omega
  · rw [hs, oneS_count, e.1]; omega
  · rw [hs]; intro _; exact ⟨by have := h.since1; show x.since ≤ b.1; omega, by show b.1 ≤ x.now; omega⟩
  · rw [hs, oneS_count, e.1]
    have := h.n
    show ((if z.n < 256 then z.n + 1 else z.n : Nat) : Int) = _
    rw [e.2.1]
    split at this <;> split <;> split <;> omega
  · rw [hs]; exact e.2.2.one h0 h1
theorem takeF_count {x : Fr} (b : Byt) (h : FrOk x) : (takeF x b).sg.count = x.sg.count + 1 := by
  have hc := h.count
  show (oneS _ b).count = _
  rw [oneS_count]
  by_cases k : 0 < x.sg.count
  · rw [if_pos k]; rfl
  · rw [if_neg k]; show (0 : Int) + 1 = _; omega
theorem byte_ok {x : Fr} (h : FrOk x) {b : Byt} (h0 : 0 ≤ b.2.1) (h1 : b.2.1 < 256) : FrOk (byteF x b) := by
  unfold byteF
  by_cases he : errB x b.1 = true
  · rw [if_pos he]; exact h
  · rw [if_neg he]
    exact takeS_ok (idle_ok h _) (idle_now (by simpa using he)).1 h0 h1
theorem byte_count {x : Fr} (h : FrOk x) (b : Byt) : (byteF x b).sg.count ≤ x.sg.count + 1 := by
  unfold byteF
  split
  · omega
  · rw [takeF_count b (idle_ok h _)]
    have := idle_count h b.1
    omega

/-! ### The segments of all bytes, and of one more -/
theorem cut_snoc (s l : Int) (b : Byt) : ∀ (L : List Byt) (f : Int) (g : Seg), 0 < g.count → g.last = f →
    ∃ S z, cutG s l false f g L = S ++ [z] ∧ 0 < z.count ∧ z.last = lastT f L ∧
      (l ≤ b.1 - z.last → cutG s l false f g (L ++ [b]) = S ++ [z] ++ [oneS zeroS b]) ∧
      (¬ l ≤ b.1 - z.last → cutG s l false f g (L ++ [b]) = S ++ [oneS (gapS z (z.gap || decide (s < b.1 - z.last))) b])
  | [], f, g, hg, hf => by
    refine ⟨[], g, by rw [cutG_nil, if_pos hg]; rfl, hg, by rw [hf]; rfl, fun h => ?_, fun h => ?_⟩
    · rw [hf] at h
      rw [List.nil_append, cutG_cut h, cutG_nil, if_pos (by rw [oneS_count]; decide)]; rfl
    · rw [hf] at h ⊢
      rw [List.nil_append]
      by_cases k : s < b.1 - f
      · rw [cutG_gap h k, cutG_nil, if_pos (by rw [oneS_count]; show 0 < g.count + 1; omega), decide_eq_true k, Bool.or_true]; rfl
      · rw [cutG_on h k, cutG_nil, if_pos (by rw [oneS_count]; omega), decide_eq_false k, Bool.or_false, gapS_gap]; rfl
  | x :: L, f, g, hg, hf => by
    rw [lastT_cons, List.cons_append]
    by_cases h1 : l ≤ x.1 - f
    · obtain ⟨S, z, e, hz, hl, p, q⟩ := cut_snoc s l b L x.1 (oneS zeroS x) (by rw [oneS_count]; decide) rfl
      refine ⟨g :: S, z, by rw [cutG_cut h1, e]; rfl, hz, hl, fun h => by rw [cutG_cut h1, p h]; rfl, fun h => by rw [cutG_cut h1, q h]; rfl⟩
    · by_cases h2 : s < x.1 - f
      · obtain ⟨S, z, e, hz, hl, p, q⟩ := cut_snoc s l b L x.1 (oneS (gapS g true) x) (by rw [oneS_count]; show 0 < g.count + 1; omega) rfl
        exact ⟨S, z, by rw [cutG_gap h1 h2, e], hz, hl, fun h => by rw [cutG_gap h1 h2, p h], fun h => by rw [cutG_gap h1 h2, q h]⟩
      · obtain ⟨S, z, e, hz, hl, p, q⟩ := cut_snoc s l b L x.1 (oneS g x) (by rw [oneS_count]; omega) rfl
        exact ⟨S, z, by rw [cutG_on h1 h2, e], hz, hl, fun h => by rw [cutG_on h1 h2, p h], fun h => by rw [cutG_on h1 h2, q h]⟩
/-- The segments so far. -/
def cutL (x : Fr) (L : List Byt) : List Seg := cutG x.s x.l true x.since zeroS L
/-- How a framer hangs on the bytes since it was made: those segments were told, and the open one is the last. -/
structure RefR (x : Fr) (L : List Byt) (T : List Seg) : Prop where
  right : rightI L x.since = true
  last : lastT x.since L ≤ x.now
  told : (x.sg.count = 0 ∧ cutL x L = T ∧ (L ≠ [] → x.l ≤ x.now - lastT x.since L)) ∨ (0 < x.sg.count ∧ cutL x L = T ++ [x.sg] ∧ x.sg.last = lastT x.since L ∧ L ≠ [])
theorem RefR.new {c s l u f : Int} (h0 : 0 ≤ f) (h1 : f ≤ 1099511627776) : RefR (newF c s l u f) [] [] :=
  ⟨by unfold rightI risingI; simp [newF, h0, h1], Int.le_refl _, .inl ⟨rfl, rfl, fun h => absurd rfl h⟩⟩
theorem RefR.idle {x : Fr} {L : List Byt} {T : List Seg} {t : Int} (h : RefR x L T) (he : errB x t = false) :
    RefR (idleF x t) L (if overB x t = true then T ++ [x.sg] else T) := by
  obtain ⟨-, h1, h2⟩ := idle_now he
  unfold idleF
  rw [if_neg (by simp [he])]
  by_cases ho : overB x t = true
  · rw [if_pos ho, if_pos ho]
    have ho' : 0 < x.sg.count ∧ x.l ≤ t - x.sg.last := by unfold overB at ho; simpa using ho
    rcases h.told with ⟨e, -, -⟩ | ⟨-, e, e2, e3⟩
    · omega
    · exact ⟨h.right, Int.le_trans h.last h1, .inl ⟨rfl, e, fun _ => by show x.l ≤ t - lastT x.since L; rw [← e2]; exact ho'.2⟩⟩
  · rw [if_neg ho, if_neg ho]
    refine ⟨h.right, Int.le_trans h.last h1, ?_⟩
    rcases h.told with ⟨e, e2, e3⟩ | ⟨e0, e, e2, e3⟩
    · exact .inl ⟨e, e2, fun k => by have := e3 k; show x.l ≤ t - lastT x.since L; omega⟩
    · exact .inr ⟨e0, e, e2, e3⟩
theorem lastT_snoc (f : Int) (L : List Byt) (b : Byt) : lastT f (L ++ [b]) = b.1 := by unfold lastT; simp
theorem lastT_lo : ∀ {L : List Byt} {f : Int}, risingI f L = true → f ≤ lastT f L
  | [], f, _ => Int.le_refl f
  | b :: L, f, h => by
    obtain ⟨h1, h2, h3⟩ := rising_drop h
    rw [lastT_cons]
    exact Int.le_trans h1 (lastT_lo h3)
theorem RefR.take {x : Fr} {L : List Byt} {T : List Seg} {b : Byt} (h : RefR x L T) (hx : FrOk x) (hn : x.now = b.1) (ho : overB x b.1 = false) : RefR (takeF x b) (L ++ [b]) T := by
  have hr := right_rising.1 h.right
  have hlo := lastT_lo hr.2
  have hl := h.last
  have hn1 := hx.now1
  have h1 : risingI (lastT x.since L) [b] = true := by
    unfold risingI; rw [decide_eq_true (by omega)]; rfl
  have hR : rightI (L ++ [b]) x.since = true := right_rising.2 ⟨hr.1, rising_append hr.2 h1⟩
  refine ⟨hR, by show lastT x.since (L ++ [b]) ≤ x.now; rw [lastT_snoc]; omega, .inr ⟨?_, ?_, ?_, by simp⟩⟩
  · rw [takeF_count b hx]; have := hx.count; omega
  · show cutG x.s x.l true x.since zeroS (L ++ [b]) = T ++ [takeS x b]
    unfold takeS
    rcases h.told with ⟨e, e2, e3⟩ | ⟨e0, e, e2, e3⟩
    · rw [if_neg (by omega)]
      cases L with
      | nil =>
        rw [← e2]
        unfold cutL
        rw [cutG_nil, List.nil_append, cutG_first, cutG_nil, if_pos (by rw [oneS_count]; show 0 < (0 : Int) + 1; decide)]; rfl
      | cons y L =>
        have hb := e3 (by simp)
        unfold cutL at e2
        rw [cutG_first] at e2
        rw [lastT_cons] at hb
        obtain ⟨S, z, p, hz, hzl, q, -⟩ := cut_snoc x.s x.l b L y.1 (oneS (gapS zeroS (decide (y.1 - x.since < x.l))) y) (by rw [oneS_count]; show 0 < (0 : Int) + 1; decide) rfl
        rw [List.cons_append, cutG_first, q (by rw [hzl]; omega), ← p, e2]
        rw [lastT_cons] at hlo
        rw [decide_eq_false (by omega)]; rfl
    · have ho' : ¬ x.l ≤ b.1 - x.sg.last := by
        unfold overB at ho; simp at ho; exact fun k => absurd (ho e0) (by omega)
      rw [if_pos e0]
      cases L with
      | nil => exact absurd rfl e3
      | cons y L =>
        unfold cutL at e
        rw [cutG_first] at e
        obtain ⟨S, z, p, hz, hzl, -, q⟩ := cut_snoc x.s x.l b L y.1 (oneS (gapS zeroS (decide (y.1 - x.since < x.l))) y) (by rw [oneS_count]; show 0 < (0 : Int) + 1; decide) rfl
        rw [p] at e
        obtain ⟨e4, e5⟩ := List.append_inj' e rfl
        obtain rfl : z = x.sg := by simpa using e5
        rw [List.cons_append, cutG_first, q ho', e4]
  · show b.1 = lastT x.since (L ++ [b])
    rw [lastT_snoc]
theorem idle_over {x : Fr} {t : Int} (he : errB x t = false) : overB (idleF x t) t = false := by
  unfold idleF
  rw [if_neg (by simp [he])]
  by_cases ho : overB x t = true
  · rw [if_pos ho]; unfold overB; simp [zeroS]
  · rw [if_neg ho]
    have ho : overB x t = false := by simpa using ho
    exact ho
theorem RefR.byte {x : Fr} {L : List Byt} {T : List Seg} {b : Byt} (h : RefR x L T) (hx : FrOk x) (he : errB x b.1 = false) :
    RefR (byteF x b) (L ++ [b]) (if overB x b.1 = true then T ++ [x.sg] else T) := by
  unfold byteF
  rw [if_neg (by simp [he])]
  exact (h.idle he).take (idle_ok hx _) (idle_now he).1 (idle_over he)
/-- The last of the segments so far, if it was not told. -/
theorem RefR.open {x : Fr} {L : List Byt} {T : List Seg} (h : RefR x L T) :
    (x.sg.count = 0 → (cutL x L).length = T.length) ∧ (0 < x.sg.count → (cutL x L).length = T.length + 1 ∧ (cutL x L)[T.length]? = some x.sg) := by
  rcases h.told with ⟨e, e2, e3⟩ | ⟨e0, e, e2, e3⟩
  · exact ⟨fun _ => by rw [e2], fun k => by omega⟩
  · exact ⟨fun k => by omega, fun _ => by rw [e]; exact ⟨by simp, by simp⟩⟩
end Go.Proofs.Ytlemnjphjmnmbaa
