/-
  LAYER 12, PLAIN: windows as two numbers: whether one may be, which places it has, holds and meets, what two share.
  LAYER 12, PLAIN: what three windows share.
  CONTRACTS: package window (layer 12).
  CONTRACTS: package window (layer 12): Cut, Holds, Meets.
  CONTRACTS: package window (layer 12): structs held against one another; Holds, Meets.
-/
import Derived.Test.YtkgakeknnfnjdaaChecked
import Derived.Test.YtkgakeknnfnjdaaStructs
import Derived.Test.YtkgakeknnfnjdaaLater
import Derived.Laws.StructEq
import Derived.Laws.Tables
import Derived.Lib.Hide
import Derived.BigQuiet
import Derived.RegionTactic
import Derived.Laws.CopyOwn
import Derived.Deep.QuietTactic
namespace Go.Proofs.Ytkgakeknnfnjdaa

def rgtB (f c : Int) : Bool := decide (0 ≤ f ∧ f ≤ 65535 ∧ 0 ≤ c ∧ c ≤ 65536 ∧ f + c ≤ 65536)
theorem rgtB_iff (f c : Int) : rgtB f c = true ↔ 0 ≤ f ∧ f ≤ 65535 ∧ 0 ≤ c ∧ c ≤ 65536 ∧ f + c ≤ 65536 := decide_eq_true_iff
theorem rgtB_no (f c : Int) : rgtB f c = false ↔ ¬ (0 ≤ f ∧ f ≤ 65535 ∧ 0 ≤ c ∧ c ≤ 65536 ∧ f + c ≤ 65536) := decide_eq_false_iff_not
def hasB (f c x : Int) : Bool := decide (0 ≤ f ∧ f ≤ 65535 ∧ 0 ≤ c ∧ c ≤ 65536 ∧ f + c ≤ 65536 ∧ f ≤ x ∧ x < f + c)
theorem hasB_iff (f c x : Int) : hasB f c x = true ↔ 0 ≤ f ∧ f ≤ 65535 ∧ 0 ≤ c ∧ c ≤ 65536 ∧ f + c ≤ 65536 ∧ f ≤ x ∧ x < f + c := decide_eq_true_iff
theorem hasB_no (f c x : Int) : hasB f c x = false ↔ ¬ (0 ≤ f ∧ f ≤ 65535 ∧ 0 ≤ c ∧ c ≤ 65536 ∧ f + c ≤ 65536 ∧ f ≤ x ∧ x < f + c) := decide_eq_false_iff_not
/-- Two windows share a place. -/
def shB (f c g d : Int) : Bool := decide (0 ≤ f ∧ f ≤ 65535 ∧ 0 ≤ c ∧ c ≤ 65536 ∧ f + c ≤ 65536 ∧ 0 ≤ g ∧ g ≤ 65535 ∧ 0 ≤ d ∧ d ≤ 65536 ∧ g + d ≤ 65536 ∧ 0 < c ∧ 0 < d ∧ f < g + d ∧ g < f + c)
theorem shB_iff (f c g d : Int) : shB f c g d = true ↔ 0 ≤ f ∧ f ≤ 65535 ∧ 0 ≤ c ∧ c ≤ 65536 ∧ f + c ≤ 65536 ∧ 0 ≤ g ∧ g ≤ 65535 ∧ 0 ≤ d ∧ d ≤ 65536 ∧ g + d ≤ 65536 ∧ 0 < c ∧ 0 < d ∧ f < g + d ∧ g < f + c := decide_eq_true_iff
theorem shB_no (f c g d : Int) : shB f c g d = false ↔ ¬ (0 ≤ f ∧ f ≤ 65535 ∧ 0 ≤ c ∧ c ≤ 65536 ∧ f + c ≤ 65536 ∧ 0 ≤ g ∧ g ≤ 65535 ∧ 0 ≤ d ∧ d ≤ 65536 ∧ g + d ≤ 65536 ∧ 0 < c ∧ 0 < d ∧ f < g + d ∧ g < f + c) := decide_eq_false_iff_not
def cutF (f c g d : Int) : Int := if shB f c g d = true then max f g else 0
def cutC (f c g d : Int) : Int := if shB f c g d = true then min (f + c) (g + d) - max f g else 0
/-- What 'Cut' tells, as inequalities. -/
theorem cut_yes {f c g d : Int} (h : shB f c g d = true) : cutF f c g d = max f g ∧ cutC f c g d = min (f + c) (g + d) - max f g := by
  unfold cutF cutC; rw [if_pos h, if_pos h]; exact ⟨rfl, rfl⟩
theorem cut_no {f c g d : Int} (h : shB f c g d = false) : cutF f c g d = 0 ∧ cutC f c g d = 0 := by
  unfold cutF cutC; rw [if_neg (by rw [h]; decide), if_neg (by rw [h]; decide)]; exact ⟨rfl, rfl⟩
/-- The same in one: a shared window lies in both, and no place more is shared; or there is none. -/
theorem cut_cases (f c g d : Int) :
    (shB f c g d = true ∧ 0 ≤ f ∧ f ≤ 65535 ∧ 0 < c ∧ f + c ≤ 65536 ∧ 0 ≤ g ∧ g ≤ 65535 ∧ 0 < d ∧ g + d ≤ 65536 ∧ f < g + d ∧ g < f + c ∧ cutF f c g d = max f g ∧ cutC f c g d = min (f + c) (g + d) - max f g) ∨
    (shB f c g d = false ∧ ¬ (0 ≤ f ∧ f ≤ 65535 ∧ 0 ≤ c ∧ c ≤ 65536 ∧ f + c ≤ 65536 ∧ 0 ≤ g ∧ g ≤ 65535 ∧ 0 ≤ d ∧ d ≤ 65536 ∧ g + d ≤ 65536 ∧ 0 < c ∧ 0 < d ∧ f < g + d ∧ g < f + c) ∧ cutF f c g d = 0 ∧ cutC f c g d = 0) := by
  cases h : shB f c g d with
  | true => have e := (shB_iff f c g d).1 h; have k := cut_yes h; exact .inl ⟨rfl, e.1, e.2.1, by omega, by omega, by omega, by omega, by omega, by omega, by omega, by omega, k.1, k.2⟩
  | false => have k := cut_no h; exact .inr ⟨rfl, (shB_no f c g d).1 h, k.1, k.2⟩
theorem cut_right (f c g d : Int) : rgtB (cutF f c g d) (cutC f c g d) = true := by
  rw [rgtB_iff]; rcases cut_cases f c g d with h | h <;> omega
theorem cut_comm (f c g d : Int) : cutF g d f c = cutF f c g d ∧ cutC g d f c = cutC f c g d := by
  rcases cut_cases f c g d with h | h <;> rcases cut_cases g d f c with k | k <;> omega
def holdB (f c x n : Int) : Bool := decide (0 ≤ f ∧ f ≤ 65535 ∧ 0 ≤ c ∧ c ≤ 65536 ∧ f + c ≤ 65536 ∧ 1 ≤ n ∧ f ≤ x ∧ x + n ≤ f + c)
theorem holdB_iff (f c x n : Int) : holdB f c x n = true ↔ 0 ≤ f ∧ f ≤ 65535 ∧ 0 ≤ c ∧ c ≤ 65536 ∧ f + c ≤ 65536 ∧ 1 ≤ n ∧ f ≤ x ∧ x + n ≤ f + c := decide_eq_true_iff
theorem holdB_no (f c x n : Int) : holdB f c x n = false ↔ ¬ (0 ≤ f ∧ f ≤ 65535 ∧ 0 ≤ c ∧ c ≤ 65536 ∧ f + c ≤ 65536 ∧ 1 ≤ n ∧ f ≤ x ∧ x + n ≤ f + c) := decide_eq_false_iff_not
def meetB (f c x n : Int) : Bool := decide (0 ≤ f ∧ f ≤ 65535 ∧ 0 ≤ c ∧ c ≤ 65536 ∧ f + c ≤ 65536 ∧ 1 ≤ n ∧ 1 ≤ c ∧ x < f + c ∧ f < x + n)
theorem meetB_iff (f c x n : Int) : meetB f c x n = true ↔ 0 ≤ f ∧ f ≤ 65535 ∧ 0 ≤ c ∧ c ≤ 65536 ∧ f + c ≤ 65536 ∧ 1 ≤ n ∧ 1 ≤ c ∧ x < f + c ∧ f < x + n := decide_eq_true_iff
theorem meetB_no (f c x n : Int) : meetB f c x n = false ↔ ¬ (0 ≤ f ∧ f ≤ 65535 ∧ 0 ≤ c ∧ c ≤ 65536 ∧ f + c ≤ 65536 ∧ 1 ≤ n ∧ 1 ≤ c ∧ x < f + c ∧ f < x + n) := decide_eq_false_iff_not
theorem bool_same {a b : Bool} (h : a = true ↔ b = true) : a = b := by cases a <;> cases b <;> simp_all
/-- Are two windows one? -/
def eqW (f c g d : Int) : Bool := decide (f = g ∧ c = d)
theorem eqW_iff (f c g d : Int) : eqW f c g d = true ↔ f = g ∧ c = d := decide_eq_true_iff
theorem eqW_self (f c : Int) : eqW f c f c = true := (eqW_iff _ _ _ _).2 ⟨rfl, rfl⟩
/-- 'Holds' as the code tells it: what is shared with what is asked for is all of that. -/
theorem hold_cut {f c x n : Int} (h : 0 < n) : eqW (cutF f c x n) (cutC f c x n) x n = holdB f c x n := by
  apply bool_same
  rw [eqW_iff, holdB_iff]
  rcases cut_cases f c x n with k | k <;> omega
theorem hold_no {f c x n : Int} (h : ¬ 0 < n) : holdB f c x n = false := by rw [holdB_no]; omega
/-- What 'trimmed' tells. -/
def trmF (x : Int) : Int := max x 0
def trmC (x n : Int) : Int := if 0 < n then min (n + min x 0) (65536 - max x 0) else min n (65536 - max x 0)
theorem meet_cut (f c x n : Int) : eqW (cutF f c (trmF x) (trmC x n)) (cutC f c (trmF x) (trmC x n)) 0 0 = !meetB f c x n := by
  have hF : trmF x = max x 0 := rfl
  have hC : trmC x n = if 0 < n then min (n + min x 0) (65536 - max x 0) else min n (65536 - max x 0) := rfl
  generalize trmF x = F at *
  generalize trmC x n = C at *
  have h2 : (!meetB f c x n) = true ↔ ¬ (0 ≤ f ∧ f ≤ 65535 ∧ 0 ≤ c ∧ c ≤ 65536 ∧ f + c ≤ 65536 ∧ 1 ≤ n ∧ 1 ≤ c ∧ x < f + c ∧ f < x + n) := by rw [← meetB_no]; cases meetB f c x n <;> simp
  apply bool_same
  rw [eqW_iff, h2]
  by_cases hn : 0 < n
  · rw [if_pos hn] at hC
    rcases cut_cases f c F C with k | k <;> omega
  · rw [if_neg hn] at hC
    rcases cut_cases f c F C with k | k <;> omega
/-- What is shared, place by place. -/
theorem cut_has (f c g d x : Int) : hasB (cutF f c g d) (cutC f c g d) x = (hasB f c x && hasB g d x) := by
  apply bool_same
  rw [Bool.and_eq_true, hasB_iff, hasB_iff, hasB_iff]
  rcases cut_cases f c g d with k | k <;> omega
end Go.Proofs.Ytkgakeknnfnjdaa
namespace Go.Proofs.Ytkgakeknnfnjdaa

theorem cut_zero (f c g d : Int) : cutC f c g d = 0 → cutF f c g d = 0 := by
  rcases cut_cases f c g d with h | h <;> omega
theorem canon_ext {F C G D : Int} (r : rgtB F C = true) (s : rgtB G D = true) (z : C = 0 → F = 0) (y : D = 0 → G = 0) (h : ∀ x, hasB F C x = hasB G D x) : F = G ∧ C = D := by
  have r1 := (rgtB_iff F C).1 r
  have s1 := (rgtB_iff G D).1 s
  have e : ∀ x, (F ≤ x ∧ x < F + C) ↔ (G ≤ x ∧ x < G + D) := fun x => by
    have hx := h x
    have a := hasB_iff F C x
    have b := hasB_iff G D x
    rw [hx] at a
    constructor
    · intro k; have := b.1 (a.2 (by omega)); omega
    · intro k; have := a.1 (b.2 (by omega)); omega
  have e1 := e F; have e2 := e G; have e3 := e (F + C - 1); have e4 := e (G + D - 1)
  omega
theorem cut_assoc (f c g d h k : Int) : cutF f c (cutF g d h k) (cutC g d h k) = cutF (cutF f c g d) (cutC f c g d) h k ∧ cutC f c (cutF g d h k) (cutC g d h k) = cutC (cutF f c g d) (cutC f c g d) h k :=
  canon_ext (cut_right _ _ _ _) (cut_right _ _ _ _) (cut_zero _ _ _ _) (cut_zero _ _ _ _) (fun x => by rw [cut_has, cut_has, cut_has, cut_has, Bool.and_assoc])
theorem cut_most (f c g d h k : Int) : cutC (cutF f c g d) (cutC f c g d) h k ≤ min (max c 0) (max d 0) := by
  have h1 := cut_cases f c g d
  have h2 := cut_cases (cutF f c g d) (cutC f c g d) h k
  generalize cutF f c g d = F at *
  generalize cutC f c g d = C at *
  rcases h1 with h1 | h1 <;> rcases h2 with h2 | h2 <;> omega
theorem cut_self {f c : Int} (h : rgtB f c = true) (hc : 0 < c) : cutF f c f c = f ∧ cutC f c f c = c := by
  have := (rgtB_iff f c).1 h
  rcases cut_cases f c f c with k | k <;> omega
theorem cut_held {f c g d : Int} (h : holdB f c g d = true) (hr : rgtB g d = true) : cutF f c g d = g ∧ cutC f c g d = d := by
  have := (holdB_iff f c g d).1 h
  have := (rgtB_iff g d).1 hr
  rcases cut_cases f c g d with k | k <;> omega
theorem meet_some {f c g d : Int} (hr : rgtB g d = true) : meetB f c g d = decide (0 < cutC f c g d) := by
  apply bool_same
  have := (rgtB_iff g d).1 hr
  rw [meetB_iff, decide_eq_true_eq]
  rcases cut_cases f c g d with k | k <;> omega
end Go.Proofs.Ytkgakeknnfnjdaa
namespace Go.Proofs.Ytkgakeknnfnjdaa
open Go.RowKit
set_option linter.unusedVariables false

/-- A window as its two cells. -/
def winC (f c : Int) : Array Value := #[.int .i64 f, .int .i64 c]
set_option maxHeartbeats 1000000 in
theorem wright_any (f c : Int) (w : World) : Calls Try.prog 34 #[.agg #[.int .i64 f, .int .i64 c]] w fun e w' => e = .returned (.bool (rgtB f c)) ∧ Ext w w' := by
  have H := Lib.hid (rgtB_iff f c)
  generalize rgtB f c = B at H ⊢
  go_enter Try.func34, Try.ntmps34
  go_wp2
  all_goals
    go_ret
    first
      | exact ⟨ret_b (b_false H.out (by omega)), Ext.alloc _ _⟩
      | exact ⟨ret_b (b_dec H.out (by omega)), Ext.alloc _ _⟩
theorem wright_v {f c : Int} {B : Bool} (h : rgtB f c = B) (w : World) : Calls Try.prog 34 #[.agg #[.int .i64 f, .int .i64 c]] w fun e w' => e = .returned (.bool B) ∧ Ext w w' := h ▸ wright_any f c w
set_option maxHeartbeats 1000000 in
theorem whas_any (f c x : Int) (w : World) : Calls Try.prog 36 #[.agg #[.int .i64 f, .int .i64 c], .int .i64 x] w fun e w' => e = .returned (.bool (hasB f c x)) ∧ Ext w w' := by
  have H := Lib.hid (hasB_iff f c x)
  generalize hasB f c x = B at H ⊢
  have e0 := Ext.alloc w (.cells #[.int .i64 f, .int .i64 c] 23)
  cases hr : rgtB f c with
  | false =>
    have h1 := (rgtB_no f c).1 hr
    have HR := Lib.hid hr
    have HN := Lib.hid h1
    clear hr h1
    go_enter Try.func36, Try.ntmps36
    go_wp2_with fail
    refine (wright_v HR.out _).mono ?_; rintro e w1 ⟨rfl, x1⟩
    have c0 := x1.made 0 _ rfl
    have c1 := x1.made 1 _ rfl
    have x2 := e0.trans x1
    go_wp2
    go_ret
    exact ⟨ret_b (b_false H.out (by have := HN.out; omega)), x2⟩
  | true =>
    obtain ⟨h1, h2, h3, h4, h5⟩ := (rgtB_iff f c).1 hr
    have HR := Lib.hid hr
    clear hr
    go_enter Try.func36, Try.ntmps36
    go_wp2_with fail
    refine (wright_v HR.out _).mono ?_; rintro e w1 ⟨rfl, x1⟩
    have c0 := x1.made 0 _ rfl
    have c1 := x1.made 1 _ rfl
    have x2 := e0.trans x1
    clear e0 x1
    go_wp2
    all_goals
      go_ret
      first
        | exact ⟨ret_b (b_false H.out (by omega)), x2⟩
        | exact ⟨ret_b (b_dec H.out (by omega)), x2⟩
theorem whas_v {f c x : Int} {B : Bool} (h : hasB f c x = B) (w : World) : Calls Try.prog 36 #[.agg #[.int .i64 f, .int .i64 c], .int .i64 x] w fun e w' => e = .returned (.bool B) ∧ Ext w w' := h ▸ whas_any f c x w
/-- 'Place': at less From, where it is one. -/
def plcI (f c x : Int) : Int := if hasB f c x = true then x - f else 0
set_option maxHeartbeats 1000000 in
theorem wplace_any (f c x : Int) (w : World) : Calls Try.prog 30 #[.agg #[.int .i64 f, .int .i64 c], .int .i64 x] w fun e w' => e = .returned (.tuple #[.int .i64 (plcI f c x), .bool (hasB f c x)]) ∧ Ext w w' := by
  have e0 := Ext.alloc w (.cells #[.int .i64 f, .int .i64 c] 23)
  cases hr : hasB f c x with
  | false =>
    have hp : plcI f c x = 0 := by unfold plcI; rw [if_neg (by rw [hr]; decide)]
    have HP := Lib.hid hp
    have HR := Lib.hid hr
    clear hr hp
    go_enter Try.func30, Try.ntmps30
    go_wp2_with fail
    refine (whas_v HR.out _).mono ?_; rintro e w1 ⟨rfl, x1⟩
    have x2 := e0.trans x1
    go_wp2
    go_ret2
    exact ⟨by rw [HP.out]; rfl, x2⟩
  | true =>
    have hp : plcI f c x = x - f := by unfold plcI; rw [if_pos hr]
    obtain ⟨h1, h2, h3, h4, h5, h6, h7⟩ := (hasB_iff f c x).1 hr
    have HP := Lib.hid hp
    have HR := Lib.hid hr
    clear hr hp
    go_enter Try.func30, Try.ntmps30
    go_wp2_with fail
    refine (whas_v HR.out _).mono ?_; rintro e w1 ⟨rfl, x1⟩
    have c0 := x1.made 0 _ rfl
    have c1 := x1.made 1 _ rfl
    have x2 := e0.trans x1
    clear e0 x1
    go_wp2
    go_ret2
    exact ⟨by rw [HP.out]; rfl, x2⟩
end Go.Proofs.Ytkgakeknnfnjdaa
namespace Go.Proofs.Ytkgakeknnfnjdaa
open Go.RowKit
set_option linter.unusedVariables false

/-- A window lies in a block. -/
structure WinAt (w : World) (A : Nat) (f c : Int) : Prop where
  c0 : w.cell? ⟨A, 0, none⟩ = some (.int .i64 f)
  c1 : w.cell? ⟨A, 1, none⟩ = some (.int .i64 c)
theorem WinAt.lt {w : World} {A : Nat} {f c : Int} (h : WinAt w A f c) : A < w.heap.size := World.block_lt_of_cell? w _ h.c0
theorem WinAt.ext {w w' : World} {A : Nat} {f c : Int} (h : WinAt w A f c) (x : Ext w w') : WinAt w' A f c := ⟨x.cell h.lt h.c0, x.cell h.lt h.c1⟩
set_option maxHeartbeats 1000000 in
theorem wboth_v {f c g d x : Int} {B : Bool} (h : (hasB f c x && hasB g d x) = B) (A D : Nat) (w : World) (ha : WinAt w A f c) (hd : WinAt w D g d) :
    Calls Try.prog 35 #[.int .i64 x, .pointer (some ⟨A, 0, none⟩), .pointer (some ⟨D, 0, none⟩)] w fun e w' => e = .returned (.bool B) ∧ Ext w w' := by
  have a0 := ha.c0; have a1 := ha.c1
  cases h1 : hasB f c x with
  | false =>
    have hB : B = false := by rw [← h, h1]; rfl
    subst hB
    have H1 := Lib.hid h1
    clear h1 h
    go_enter Try.func35, Try.ntmps35
    go_wp2_with fail
    refine (whas_v H1.out _).mono ?_; rintro e w1 ⟨rfl, x1⟩
    go_wp2
    go_ret
    exact ⟨rfl, x1⟩
  | true =>
    have h2 : hasB g d x = B := by rw [← h, h1]; rfl
    have H1 := Lib.hid h1
    have H2 := Lib.hid h2
    clear h1 h2 h
    go_enter Try.func35, Try.ntmps35
    go_wp2_with fail
    refine (whas_v H1.out _).mono ?_; rintro e w1 ⟨rfl, x1⟩
    have hd1 := hd.ext x1
    have b0 := hd1.c0; have b1 := hd1.c1
    go_wp2_with fail
    refine (whas_v H2.out _).mono ?_; rintro e w2 ⟨rfl, x2⟩
    go_wp2
    go_ret
    exact ⟨rfl, x1.trans x2⟩

/-- What the two parameters' boxes and the result's hold behind the entry. -/
theorem cut_box (f c g d : Int) (w : World) :
    Ext w (((w.alloc (.cells #[.int .i64 f, .int .i64 c] 23)).alloc (.cells #[.int .i64 g, .int .i64 d] 23)).alloc (.cells #[.int .i64 0, .int .i64 0] 23)) ∧
    WinAt (((w.alloc (.cells #[.int .i64 f, .int .i64 c] 23)).alloc (.cells #[.int .i64 g, .int .i64 d] 23)).alloc (.cells #[.int .i64 0, .int .i64 0] 23)) w.heap.size f c ∧
    WinAt (((w.alloc (.cells #[.int .i64 f, .int .i64 c] 23)).alloc (.cells #[.int .i64 g, .int .i64 d] 23)).alloc (.cells #[.int .i64 0, .int .i64 0] 23)) (w.heap.size + 1) g d ∧
    (((w.alloc (.cells #[.int .i64 f, .int .i64 c] 23)).alloc (.cells #[.int .i64 g, .int .i64 d] 23)).alloc (.cells #[.int .i64 0, .int .i64 0] 23)).heap[w.heap.size + 1 + 1]? = some (.cells #[.int .i64 0, .int .i64 0] 23) := by
  have xa := Ext.alloc (w.alloc (.cells #[.int .i64 f, .int .i64 c] 23)) (.cells #[.int .i64 g, .int .i64 d] 23)
  have xb := Ext.alloc ((w.alloc (.cells #[.int .i64 f, .int .i64 c] 23)).alloc (.cells #[.int .i64 g, .int .i64 d] 23)) (.cells #[.int .i64 0, .int .i64 0] 23)
  have s1 : (w.alloc (.cells #[.int .i64 f, .int .i64 c] 23)).heap.size = w.heap.size + 1 := by simp
  have s2 : ((w.alloc (.cells #[.int .i64 f, .int .i64 c] 23)).alloc (.cells #[.int .i64 g, .int .i64 d] 23)).heap.size = w.heap.size + 1 + 1 := by simp
  have g2 := heap_alloc_new ((w.alloc (.cells #[.int .i64 f, .int .i64 c] 23)).alloc (.cells #[.int .i64 g, .int .i64 d] 23)) (.cells #[.int .i64 0, .int .i64 0] 23)
  have m0 := xb.made 0 _ rfl
  have m1 := xb.made 1 _ rfl
  rw [s1] at m0 m1
  rw [s2] at g2
  exact ⟨(Ext.alloc w _).trans (xa.trans xb), ⟨(xa.trans xb).made 0 _ rfl, (xa.trans xb).made 1 _ rfl⟩, ⟨m0, m1⟩, g2⟩
set_option maxHeartbeats 2000000 in
theorem wcut_lt (f c g d : Int) (w : World) (hm : f < g) : Calls Try.prog 28 #[.agg #[.int .i64 f, .int .i64 c], .agg #[.int .i64 g, .int .i64 d]] w fun e w' => e = .returned (.agg #[.int .i64 (cutF f c g d), .int .i64 (cutC f c g d)]) ∧ Ext w w' := by
  obtain ⟨x3, wa, wd, g0⟩ := cut_box f c g d w
  obtain ⟨F, hF⟩ : ∃ F, F = cutF f c g d := ⟨_, rfl⟩
  obtain ⟨C, hC⟩ : ∃ C, C = cutC f c g d := ⟨_, rfl⟩
  rw [← hF, ← hC]
  rcases cut_cases f c g d with ⟨h, h1, h2, h3, h4, h5, h6, h7, h8, h9, h10, h11, h12⟩ | ⟨h, h1, h11, h12⟩
  · have hh : (hasB f c g && hasB g d g) = true := by rw [Bool.and_eq_true, hasB_iff, hasB_iff]; omega
    have hE : Value.agg #[.int .i64 g, .int .i64 (min (f + c) (g + d) - g)] = .agg #[.int .i64 F, .int .i64 C] := by
      rw [hF, hC, h11, h12, show max f g = g by omega]
    have HE := Lib.hid hE
    have HH := Lib.hid hh
    clear h hF hC h11 h12 hh hE
    go_enter Try.func28, Try.ntmps28
    go_wp2_with fail
    refine (wboth_v HH.out w.heap.size (w.heap.size + 1) _ wa wd).mono ?_; rintro e w4 ⟨rfl, x4⟩
    have va := wa.ext x4
    have vd := wd.ext x4
    have a0 := va.c0; have a1 := va.c1; have b0 := vd.c0; have b1 := vd.c1
    have g4 := x4.block g0
    have y4 := x3.trans x4
    clear wa wd g0 va vd x3 x4
    by_cases hk : f + c ≤ g + d
    · have e1 : min (f + c) (g + d) = f + c := by omega
      have E1 := Lib.hid e1
      clear e1
      go_wp2_with (first | (refine wpList_store_row rfl 23 (.tmp 4) (.tmp 32) rfl (w.heap.size + 1 + 1) _ rfl rfl 23 _ g4 (by kernel_rfl) rfl (by simp [Value.oneCell']) ?_))
      refine bodyPost_ret (results_cell_row rfl _ _ (w.heap.size + 1 + 1) 23 _ (0, 0) _ rfl (setRow_heap _ _ _ _ _ _ g4) Try.underlying23 rfl (by kernel_rfl)) rfl ⟨?_, below_setRow y4 (by omega) _⟩
      rw [← HE.out, E1.out]
    · have e1 : min (f + c) (g + d) = g + d := by omega
      have E1 := Lib.hid e1
      clear e1
      go_wp2_with (first | (refine wpList_store_row rfl 23 (.tmp 4) (.tmp 32) rfl (w.heap.size + 1 + 1) _ rfl rfl 23 _ g4 (by kernel_rfl) rfl (by simp [Value.oneCell']) ?_))
      refine bodyPost_ret (results_cell_row rfl _ _ (w.heap.size + 1 + 1) 23 _ (0, 0) _ rfl (setRow_heap _ _ _ _ _ _ g4) Try.underlying23 rfl (by kernel_rfl)) rfl ⟨?_, below_setRow y4 (by omega) _⟩
      rw [← HE.out, E1.out]
  · have hh : (hasB f c g && hasB g d g) = false := by rw [Bool.and_eq_false_iff, hasB_no, hasB_no]; omega
    have hE : Value.agg #[.int .i64 0, .int .i64 0] = .agg #[.int .i64 F, .int .i64 C] := by rw [hF, hC, h11, h12]
    have HE := Lib.hid hE
    have HH := Lib.hid hh
    clear h hF hC h11 h12 hh hE h1
    go_enter Try.func28, Try.ntmps28
    go_wp2_with fail
    refine (wboth_v HH.out w.heap.size (w.heap.size + 1) _ wa wd).mono ?_; rintro e w4 ⟨rfl, x4⟩
    have g4 := x4.block g0
    have y4 := x3.trans x4
    clear wa wd g0 x3 x4
    go_wp2_with (first | (refine wpList_store_row rfl 23 (.tmp 4) (.tmp 17) rfl (w.heap.size + 1 + 1) _ rfl rfl 23 _ g4 (by kernel_rfl) rfl (by simp [Value.oneCell']) ?_))
    refine bodyPost_ret (results_cell_row rfl _ _ (w.heap.size + 1 + 1) 23 _ (0, 0) _ rfl (setRow_heap _ _ _ _ _ _ g4) Try.underlying23 rfl (by kernel_rfl)) rfl ⟨?_, below_setRow y4 (by omega) _⟩
    rw [← HE.out]
set_option maxHeartbeats 2000000 in
theorem wcut_ge (f c g d : Int) (w : World) (hm : g ≤ f) : Calls Try.prog 28 #[.agg #[.int .i64 f, .int .i64 c], .agg #[.int .i64 g, .int .i64 d]] w fun e w' => e = .returned (.agg #[.int .i64 (cutF f c g d), .int .i64 (cutC f c g d)]) ∧ Ext w w' := by
  obtain ⟨x3, wa, wd, g0⟩ := cut_box f c g d w
  obtain ⟨F, hF⟩ : ∃ F, F = cutF f c g d := ⟨_, rfl⟩
  obtain ⟨C, hC⟩ : ∃ C, C = cutC f c g d := ⟨_, rfl⟩
  rw [← hF, ← hC]
  rcases cut_cases f c g d with ⟨h, h1, h2, h3, h4, h5, h6, h7, h8, h9, h10, h11, h12⟩ | ⟨h, h1, h11, h12⟩
  · have hh : (hasB f c f && hasB g d f) = true := by rw [Bool.and_eq_true, hasB_iff, hasB_iff]; omega
    have hE : Value.agg #[.int .i64 f, .int .i64 (min (f + c) (g + d) - f)] = .agg #[.int .i64 F, .int .i64 C] := by
      rw [hF, hC, h11, h12, show max f g = f by omega]
    have HE := Lib.hid hE
    have HH := Lib.hid hh
    clear h hF hC h11 h12 hh hE
    go_enter Try.func28, Try.ntmps28
    go_wp2_with fail
    refine (wboth_v HH.out w.heap.size (w.heap.size + 1) _ wa wd).mono ?_; rintro e w4 ⟨rfl, x4⟩
    have va := wa.ext x4
    have vd := wd.ext x4
    have a0 := va.c0; have a1 := va.c1; have b0 := vd.c0; have b1 := vd.c1
    have g4 := x4.block g0
    have y4 := x3.trans x4
    clear wa wd g0 va vd x3 x4
    by_cases hk : f + c ≤ g + d
    · have e1 : min (f + c) (g + d) = f + c := by omega
      have E1 := Lib.hid e1
      clear e1
      go_wp2_with (first | (refine wpList_store_row rfl 23 (.tmp 4) (.tmp 32) rfl (w.heap.size + 1 + 1) _ rfl rfl 23 _ g4 (by kernel_rfl) rfl (by simp [Value.oneCell']) ?_))
      refine bodyPost_ret (results_cell_row rfl _ _ (w.heap.size + 1 + 1) 23 _ (0, 0) _ rfl (setRow_heap _ _ _ _ _ _ g4) Try.underlying23 rfl (by kernel_rfl)) rfl ⟨?_, below_setRow y4 (by omega) _⟩
      rw [← HE.out, E1.out]
    · have e1 : min (f + c) (g + d) = g + d := by omega
      have E1 := Lib.hid e1
      clear e1
      go_wp2_with (first | (refine wpList_store_row rfl 23 (.tmp 4) (.tmp 32) rfl (w.heap.size + 1 + 1) _ rfl rfl 23 _ g4 (by kernel_rfl) rfl (by simp [Value.oneCell']) ?_))
      refine bodyPost_ret (results_cell_row rfl _ _ (w.heap.size + 1 + 1) 23 _ (0, 0) _ rfl (setRow_heap _ _ _ _ _ _ g4) Try.underlying23 rfl (by kernel_rfl)) rfl ⟨?_, below_setRow y4 (by omega) _⟩
      rw [← HE.out, E1.out]
  · have hh : (hasB f c f && hasB g d f) = false := by rw [Bool.and_eq_false_iff, hasB_no, hasB_no]; omega
    have hE : Value.agg #[.int .i64 0, .int .i64 0] = .agg #[.int .i64 F, .int .i64 C] := by rw [hF, hC, h11, h12]
    have HE := Lib.hid hE
    have HH := Lib.hid hh
    clear h hF hC h11 h12 hh hE h1
    go_enter Try.func28, Try.ntmps28
    go_wp2_with fail
    refine (wboth_v HH.out w.heap.size (w.heap.size + 1) _ wa wd).mono ?_; rintro e w4 ⟨rfl, x4⟩
    have g4 := x4.block g0
    have y4 := x3.trans x4
    clear wa wd g0 x3 x4
    go_wp2_with (first | (refine wpList_store_row rfl 23 (.tmp 4) (.tmp 17) rfl (w.heap.size + 1 + 1) _ rfl rfl 23 _ g4 (by kernel_rfl) rfl (by simp [Value.oneCell']) ?_))
    refine bodyPost_ret (results_cell_row rfl _ _ (w.heap.size + 1 + 1) 23 _ (0, 0) _ rfl (setRow_heap _ _ _ _ _ _ g4) Try.underlying23 rfl (by kernel_rfl)) rfl ⟨?_, below_setRow y4 (by omega) _⟩
    rw [← HE.out]
theorem wcut_any (f c g d : Int) (w : World) : Calls Try.prog 28 #[.agg #[.int .i64 f, .int .i64 c], .agg #[.int .i64 g, .int .i64 d]] w fun e w' => e = .returned (.agg #[.int .i64 (cutF f c g d), .int .i64 (cutC f c g d)]) ∧ Ext w w' := by
  by_cases h : g ≤ f
  · exact wcut_ge f c g d w h
  · exact wcut_lt f c g d w (by omega)
theorem wcut_v {f c g d F C : Int} (hF : cutF f c g d = F) (hC : cutC f c g d = C) (w : World) : Calls Try.prog 28 #[.agg #[.int .i64 f, .int .i64 c], .agg #[.int .i64 g, .int .i64 d]] w fun e w' => e = .returned (.agg #[.int .i64 F, .int .i64 C]) ∧ Ext w w' := hF ▸ hC ▸ wcut_any f c g d w
end Go.Proofs.Ytkgakeknnfnjdaa
namespace Go.Proofs.Ytkgakeknnfnjdaa
open Go.RowKit
set_option linter.unusedVariables false

theorem weqg (op : BinOp) (x y : Operand) (xs ys : Array Value) (w : World) : (eqGuard op 23 x y (.agg xs) (.agg ys)).run Try.prog w = .ok () w :=
  run_eqGuard_agg w op _ x y xs ys (by kernel_rfl)
theorem weqIn (f c g d : Int) (w : World) : (Op.equalIn 10000 23 (.agg #[.int .i64 f, .int .i64 c]) (.agg #[.int .i64 g, .int .i64 d])).run Try.prog w = .ok (eqW f c g d) w := by
  rw [run_equalIn_struct w 9999 _ _ _ (by kernel_rfl) (by kernel_rfl)]
  have hi := Try.underlying3
  simp [Program.fieldsOf, Try.underlying23, Op.eqFields, go_sem, hi]
  by_cases h1 : f = g
  · by_cases h2 : c = d
    · rw [if_pos h1, if_pos h2, (eqW_iff f c g d).2 ⟨h1, h2⟩]
    · rw [if_pos h1, if_neg h2, show eqW f c g d = false from decide_eq_false fun k => h2 k.2]
  · rw [if_neg h1, show eqW f c g d = false from decide_eq_false fun k => h1 k.1]
theorem weql (f c g d : Int) (w : World) : (binOp .eql 23 (.agg #[.int .i64 f, .int .i64 c]) (.agg #[.int .i64 g, .int .i64 d])).run Try.prog w = .ok (.bool (eqW f c g d)) w := by
  rw [run_eql_struct, weqIn]; rfl
theorem wneq (f c g d : Int) (w : World) : (binOp .neq 23 (.agg #[.int .i64 f, .int .i64 c]) (.agg #[.int .i64 g, .int .i64 d])).run Try.prog w = .ok (.bool (!eqW f c g d)) w := by
  rw [run_neq_struct, weqIn]; rfl
theorem weql_v {f c g d : Int} {B : Bool} (h : eqW f c g d = B) (w : World) : (binOp .eql 23 (.agg #[.int .i64 f, .int .i64 c]) (.agg #[.int .i64 g, .int .i64 d])).run Try.prog w = .ok (.bool B) w := h ▸ weql f c g d w
theorem wneq_v {f c g d : Int} {B : Bool} (h : (!eqW f c g d) = B) (w : World) : (binOp .neq 23 (.agg #[.int .i64 f, .int .i64 c]) (.agg #[.int .i64 g, .int .i64 d])).run Try.prog w = .ok (.bool B) w := h ▸ wneq f c g d w
set_option maxHeartbeats 1000000 in
theorem wholds_any (f c x n : Int) (w : World) : Calls Try.prog 38 #[.agg #[.int .i64 f, .int .i64 c], .int .i64 x, .int .i64 n] w fun e w' => e = .returned (.bool (holdB f c x n)) ∧ Ext w w' := by
  obtain ⟨w2, hw2⟩ : ∃ w2, w2 = (w.alloc (.cells #[.int .i64 f, .int .i64 c] 23)).alloc (.cells #[.int .i64 x, .int .i64 n] 23) := ⟨_, rfl⟩
  have x2 : Ext w w2 := by rw [hw2]; exact (Ext.alloc _ _).alloc' _
  have a0 : w2.cell? ⟨w.heap.size, 0, none⟩ = some (.int .i64 f) := by rw [hw2]; exact (Ext.alloc _ _).made 0 _ rfl
  have a1 : w2.cell? ⟨w.heap.size, 1, none⟩ = some (.int .i64 c) := by rw [hw2]; exact (Ext.alloc _ _).made 1 _ rfl
  have b0 : w2.cell? ⟨w.heap.size + 1, 0, none⟩ = some (.int .i64 x) := by rw [hw2]; simp
  have b1 : w2.cell? ⟨w.heap.size + 1, 1, none⟩ = some (.int .i64 n) := by rw [hw2]; simp
  have A0 := Later.cell a0; have A1 := Later.cell a1; have B0 := Later.cell b0; have B1 := Later.cell b1
  by_cases hn : 0 < n
  · have he := hold_cut (f := f) (c := c) (x := x) hn
    obtain ⟨F, hF⟩ : ∃ F, cutF f c x n = F := ⟨_, rfl⟩
    obtain ⟨C, hC⟩ : ∃ C, cutC f c x n = C := ⟨_, rfl⟩
    rw [hF, hC] at he
    generalize holdB f c x n = B at he ⊢
    have hq := fun w => weql_v he w
    have hg := fun x y xs ys w => weqg .eql x y xs ys w
    have hd : decide (0 < n) = true := decide_eq_true hn
    have HC := Lib.hid (fun w => wcut_v hF hC w)
    clear hF hC he hn
    go_enter Try.func38, Try.ntmps38
    go_wp2
    rw [← hw2]
    clear hw2
    refine wp_region_later (by kernel_rfl) (by kernel_rfl) ?_
    repeat (go_big_quiet_step (first | (go_at_call 28; exact later_of (HC.out _))))
    refine wpQuiet_nil ?_
    intro _ hw'
    obtain ⟨x, rfl⟩ := hw'
    have e1 := x2.trans x.ext
    generalize x.at = w9 at e1 ⊢
    go_wp2
    go_ret
    exact ⟨rfl, e1⟩
  · rw [hold_no hn]
    have hd : decide (0 < n) = false := decide_eq_false hn
    clear hn
    go_enter Try.func38, Try.ntmps38
    go_wp2
    rw [← hw2]
    clear hw2
    refine wp_region_later (by kernel_rfl) (by kernel_rfl) ?_
    repeat (go_big_quiet_step (fail))
    refine wpQuiet_nil ?_
    intro _ hw'
    obtain ⟨x, rfl⟩ := hw'
    have e1 := x2.trans x.ext
    generalize x.at = w9 at e1 ⊢
    go_wp2
    go_ret
    exact ⟨rfl, e1⟩
theorem wholds_v {f c x n : Int} {B : Bool} (h : holdB f c x n = B) (w : World) : Calls Try.prog 38 #[.agg #[.int .i64 f, .int .i64 c], .int .i64 x, .int .i64 n] w fun e w' => e = .returned (.bool B) ∧ Ext w w' := h ▸ wholds_any f c x n w
theorem trm_in {x n : Int} (h0 : (Lit.int .i64 n).wf = true) (h1 : (Lit.int .i64 x).wf = true) : -9223372036854775808 ≤ n ∧ n ≤ 9223372036854775807 ∧ -9223372036854775808 ≤ x ∧ x ≤ 9223372036854775807 := by
  simp [Lit.wf, IntKind.min, IntKind.max, IntKind.signed, IntKind.bits] at h0 h1; omega
set_option maxHeartbeats 2000000 in
theorem wtrim_any (x n : Int) (w : World) (hb : -9223372036854775808 ≤ n ∧ n ≤ 9223372036854775807 ∧ -9223372036854775808 ≤ x ∧ x ≤ 9223372036854775807) : Calls Try.prog 29 #[.int .i64 x, .int .i64 n] w fun e w' => e = .returned (.agg #[.int .i64 (trmF x), .int .i64 (trmC x n)]) ∧ Ext w w' := by
  obtain ⟨F, hF⟩ : ∃ F, F = trmF x := ⟨_, rfl⟩
  obtain ⟨C, hC⟩ : ∃ C, C = trmC x n := ⟨_, rfl⟩
  have x2 := Ext.alloc w (.cells #[.int .i64 0, .int .i64 0] 23)
  have g0 := heap_alloc_new w (.cells #[.int .i64 0, .int .i64 0] 23)
  have hF' : F = max x 0 := hF
  have hC' : C = if 0 < n then min (n + min x 0) (65536 - max x 0) else min n (65536 - max x 0) := hC
  rw [← hF, ← hC]
  obtain ⟨b0, b1, b2, b3⟩ := hb
  have HX : ∀ y z, y = F → z = C → Value.agg #[.int .i64 y, .int .i64 z] = .agg #[.int .i64 F, .int .i64 C] := fun y z h1 h2 => by rw [h1, h2]
  have HF := Lib.hid hF'
  have HC := Lib.hid hC'
  have HH := Lib.hid HX
  clear hF hC hF' hC' HX
  by_cases hn : 0 < n
  · go_enter Try.func29, Try.ntmps29
    go_wp2_with (first | (refine wpList_store_row rfl 23 (.tmp 4) (.tmp 18) rfl w.heap.size _ rfl rfl 23 _ g0 (by kernel_rfl) rfl (by simp [Value.oneCell']) ?_))
    all_goals
      refine bodyPost_ret (results_cell_row rfl _ _ w.heap.size 23 _ (0, 0) _ rfl (setRow_heap _ _ _ _ _ _ g0) Try.underlying23 rfl (by kernel_rfl)) rfl ⟨?_, below_setRow x2 (Nat.le_refl _) _⟩
      exact congrArg Ending.returned (HH.out _ _ (by have := HF.out; omega) (by have h := HC.out; rw [if_pos hn] at h; omega))
  · go_enter Try.func29, Try.ntmps29
    go_wp2_with (first | (refine wpList_store_row rfl 23 (.tmp 4) (.tmp 18) rfl w.heap.size _ rfl rfl 23 _ g0 (by kernel_rfl) rfl (by simp [Value.oneCell']) ?_))
    all_goals
      refine bodyPost_ret (results_cell_row rfl _ _ w.heap.size 23 _ (0, 0) _ rfl (setRow_heap _ _ _ _ _ _ g0) Try.underlying23 rfl (by kernel_rfl)) rfl ⟨?_, below_setRow x2 (Nat.le_refl _) _⟩
      exact congrArg Ending.returned (HH.out _ _ (by have := HF.out; omega) (by have h := HC.out; rw [if_neg (show ¬ 0 < n by omega)] at h; omega))
theorem wtrim_v {x n F C : Int} (hF : trmF x = F) (hC : trmC x n = C) (hb : -9223372036854775808 ≤ n ∧ n ≤ 9223372036854775807 ∧ -9223372036854775808 ≤ x ∧ x ≤ 9223372036854775807) (w : World) :
    Calls Try.prog 29 #[.int .i64 x, .int .i64 n] w fun e w' => e = .returned (.agg #[.int .i64 F, .int .i64 C]) ∧ Ext w w' := hF ▸ hC ▸ wtrim_any x n w hb
set_option maxHeartbeats 1000000 in
theorem wmeets_any (f c x n : Int) (w : World) (hb : -9223372036854775808 ≤ n ∧ n ≤ 9223372036854775807 ∧ -9223372036854775808 ≤ x ∧ x ≤ 9223372036854775807) :
    Calls Try.prog 17 #[.agg #[.int .i64 f, .int .i64 c], .int .i64 x, .int .i64 n] w fun e w' => e = .returned (.bool (meetB f c x n)) ∧ Ext w w' := by
  obtain ⟨w2, hw2⟩ : ∃ w2, w2 = w.alloc (.cells #[.int .i64 f, .int .i64 c] 23) := ⟨_, rfl⟩
  have x2 : Ext w w2 := by rw [hw2]; exact Ext.alloc _ _
  have a0 : w2.cell? ⟨w.heap.size, 0, none⟩ = some (.int .i64 f) := by rw [hw2]; exact (Ext.refl _).made 0 _ rfl
  have a1 : w2.cell? ⟨w.heap.size, 1, none⟩ = some (.int .i64 c) := by rw [hw2]; exact (Ext.refl _).made 1 _ rfl
  have A0 := Later.cell a0; have A1 := Later.cell a1
  have he := meet_cut f c x n
  have h1 : (!eqW (cutF f c (trmF x) (trmC x n)) (cutC f c (trmF x) (trmC x n)) 0 0) = meetB f c x n := by rw [he, Bool.not_not]
  obtain ⟨X, hX⟩ : ∃ X, trmF x = X := ⟨_, rfl⟩
  obtain ⟨N, hN⟩ : ∃ N, trmC x n = N := ⟨_, rfl⟩
  rw [hX, hN] at h1
  obtain ⟨F, hF⟩ : ∃ F, cutF f c X N = F := ⟨_, rfl⟩
  obtain ⟨C, hC⟩ : ∃ C, cutC f c X N = C := ⟨_, rfl⟩
  rw [hF, hC] at h1
  generalize meetB f c x n = B at h1 ⊢
  have hq := fun w => wneq_v h1 w
  have hg := fun x y xs ys w => weqg .neq x y xs ys w
  have HT := Lib.hid (fun w => wtrim_v hX hN hb w)
  have HC := Lib.hid (fun w => wcut_v hF hC w)
  clear hF hC he h1 hX hN hb
  go_enter Try.func17, Try.ntmps17
  go_wp2
  rw [← hw2]
  clear hw2
  refine wp_region_later (by kernel_rfl) (by kernel_rfl) ?_
  repeat (go_big_quiet_step (first | (go_at_call 29; exact later_of (HT.out _)) | (go_at_call 28; exact later_of (HC.out _))))
  refine wpQuiet_nil ?_
  intro _ hw'
  obtain ⟨x, rfl⟩ := hw'
  have e1 := x2.trans x.ext
  generalize x.at = w9 at e1 ⊢
  go_wp2
  go_ret
  exact ⟨rfl, e1⟩
theorem wmeets_v {f c x n : Int} {B : Bool} (h : meetB f c x n = B) (hb : -9223372036854775808 ≤ n ∧ n ≤ 9223372036854775807 ∧ -9223372036854775808 ≤ x ∧ x ≤ 9223372036854775807) (w : World) : Calls Try.prog 17 #[.agg #[.int .i64 f, .int .i64 c], .int .i64 x, .int .i64 n] w fun e w' => e = .returned (.bool B) ∧ Ext w w' := h ▸ wmeets_any f c x n w hb
end Go.Proofs.Ytkgakeknnfnjdaa
