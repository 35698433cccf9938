/-
  CONTRACTS: word.Put: its row, each of its words put by a method value.
-/
import Derived.Test.YtgihepbglfhahaaWordC
namespace Go.Proofs.Ytgihepbglfhahaa
open Go.RowKit

set_option maxHeartbeats 800000 in
theorem put_any (R B m : Nat) (v : Value) (xs : List Value) (x : Int) (w : World) (x0 : 0 ≤ x) (x1 : x < 65536) (hR : w.heap[R]? = some (.cells #[v] 46 (0, 0)))
    (hown : w.ownsRow B 5 1 v m xs) (hBR : B ≤ R) (hm : m ≤ 4000000) (hne : v.ownBlock ≠ some R) :
    Calls Try.prog 22 #[.pointer (some ⟨R, 0, none⟩), .int .u16 x] w fun e w' => e = .returned (.tuple #[]) ∧ ∃ v', w'.heap[R]? = some (.cells #[v'] 46 (0, 0)) ∧
      w'.ownsRow B 5 1 v' (m + 2) (xs ++ [.int .u8 (x / 256), .int .u8 (x % 256)]) ∧ v'.ownBlock ≠ some R ∧ Below B w w' := by
  obtain ⟨i0, hi0, hz0, hz1, hz2⟩ := info_parts Try.info8
  have cR := cell_of_one hR
  have fR := free_of_one hR
  have lR := lt_of_block hR
  have hBs : B ≤ w.heap.size := by omega
  have hob : ∀ q, v.ownBlock = some q → B ≤ q := fun q hq => (hown.lt q hq).1
  have v1 : IntKind.u8.wrap (x / 256) = x / 256 := by rw [IntKind.wrap_u8]; omega
  go_enter Try.func22, Try.ntmps22
  go_wp2_with (at_builtin; refine wpList_append_lies _ rfl _ _ _ rfl B 5 i0 _ 1 1 Try.underlying23 hi0 hz0 hz1 hz2 rfl (by omega) v m xs rfl (hown.alloc _) ⟨w.heap.size, 0, none⟩ 2 2 [.int .u8 (x / 256), .int .u8 (x % 256)] rfl rfl (World.news_of_block (cs := #[.int .u8 (x / 256), .int .u8 (x % 256)]) (t := 5) (fr := (0, 0)) (heap_alloc_new w _)) (by simp [Value.oneCell']) (by omega) (by unfold maxLen; omega) (by omega) (by simp; omega) (w.heap.size + 1) (by simp) ?_; intro gg cap w1 hown1 hgrow hat hlt1; have hR1 : w1.heap[R]? = some (.cells #[v] 46 (0, 0)) := (hgrow.block R (by simp; omega) (Ne.symm hne)).trans ((Below.heap_alloc _ _ _ lR).trans hR); have cR1 := cell_of_one hR1; have fR1 := free_of_one hR1)
  go_end0
  have hgR : (Value.slice (some ⟨gg, 0, none⟩) (m + 2) cap).ownBlock ≠ some R := by
    simp only [Value.ownBlock]
    rcases hat with h | h
    · intro e; exact hne (h.trans e)
    · intro e; have : gg = R := by simpa using e
      omega
  exact ⟨rfl, _, one_setCell hR1, ownsRow_setCell_other hown1 hgR _, hgR, (((Below.refl _ _).alloc hBs _).grown hgrow (by simp; omega) hob).setCell hBR _⟩

set_option maxHeartbeats 800000 in
theorem each_any (a : Option Addr) (n c R B : Nat) (v : Value) (f : Nat → Int) (w : World) (ha : Holds .u16 w a n f) (hn : n ≤ 1000000) (hf : ∀ i, i < n → 0 ≤ f i ∧ f i < 65536)
    (hlow : ∀ p o, 0 < n → a = some ⟨p, o, none⟩ → p < B) (hR : w.heap[R]? = some (.cells #[v] 46 (0, 0))) (hown : w.ownsRow B 5 1 v 0 []) (hBR : B ≤ R) (hne : v.ownBlock ≠ some R) :
    Calls Try.prog 21 #[.slice a n c, .func (Fn.func 22) #[.pointer (some ⟨R, 0, none⟩)] #[]] w fun e w' => e = .returned (.tuple #[]) ∧ ∃ v', w'.heap[R]? = some (.cells #[v'] 46 (0, 0)) ∧
      w'.ownsRow B 5 1 v' (2 * n) (lst .u8 (putF f) (2 * n)) ∧ Below B w w' := by
  have hb0 : Below B w w := Below.refl _ _
  go_enter Try.func21, Try.ntmps21
  go_wp2
  go_loopw [5, 8] (fun _ i wr => ∃ (k : Nat) (v : Value), k ≤ n ∧ i = .int .i64 k ∧ wr.heap[R]? = some (.cells #[v] 46 (0, 0)) ∧ wr.ownsRow B 5 1 v (2 * k) (lst .u8 (putF f) (2 * k)) ∧ v.ownBlock ≠ some R ∧ Below B w wr) (fun _ i _ => n - (intOf i).toNat)
  case atStart => exact ⟨0, v, Nat.zero_le _, rfl, hR, hown, hne, hb0⟩
  case round =>
    clear hR hown hne v
    obtain ⟨k, v, hk, rfl, hR0, hown0, hne0, hb0'⟩ := hrel
    have hR := Lib.hid hR0
    have hown := Lib.hid hown0
    have hne := Lib.hid hne0
    by_cases hlt : k < n
    · obtain ⟨p, o, rfl, hp, hc⟩ := ha.resolve_left (by omega)
      have hpB : p < B := hlow p o (by omega) rfl
      have c0 : wr.cell? ⟨p, o + k, none⟩ = some (.int .u16 (f k)) := (hb0'.cell (p := ⟨p, o + k, none⟩) hpB).trans (hc k (by omega))
      obtain ⟨f00, f01⟩ := hf k (by omega)
      clear hc ha hf hlow hR0 hown0 hne0
      go_wp2_with (go_at_call 22; refine (put_any R B (2 * k) v (lst .u8 (putF f) (2 * k)) (f k) _ f00 f01 hR.out hown.out hBR (by omega) hne.out).mono ?_; rintro e w2 ⟨rfl, v2, hR2, hown2, hne2, hb2⟩)
      go_roundw
      case rel => exact ⟨k + 1, v2, by omega, by go_num, hR2, by rw [show 2 * (k + 1) = 2 * k + 2 from by omega, ← lst_succ2, putF_even, putF_odd]; exact hown2, hne2, hb0'.trans hb2⟩
      case measure => simp [intOf]; omega
    · clear ha hf hlow
      go_wp2
      go_end0
      obtain rfl : k = n := by omega
      exact ⟨rfl, v, hR0, hown0, hb0'⟩

set_option maxHeartbeats 800000 in
theorem wput_any (a : Option Addr) (n c : Nat) (f : Nat → Int) (w : World) (ha : Holds .u16 w a n f) (hn : n ≤ 1000000) (hf : ∀ i, i < n → 0 ≤ f i ∧ f i < 65536) :
    Calls Try.prog 15 #[.slice a n c] w fun e w' => ∃ b d, e = .returned (.slice b (2 * n) d) ∧ Holds .u8 w' b (2 * n) (putF f) ∧ Below w.heap.size w w' := by
  obtain ⟨i0, hi0, hz0, hz1, hz2⟩ := info_parts Try.info8
  go_enter Try.func15, Try.ntmps15
  go_wp2_with (at_make; refine wpList_make_own _ rfl _ _ 23 rfl w.heap.size 5 i0 (.int .u8 0) 1 Try.underlying23 hi0 hz0 hz1 .i64 .i64 (2 * (n : Int)) (2 * n) rfl rfl (by omega) (by rw [hz2]; omega) (by unfold maxLen; omega) (Nat.le_refl _) ?_; intro w1 hown1 hgrow1)
  have hb1 : Below w.heap.size w w1 := (Below.refl _ _).grown hgrow1 (Nat.le_refl _) (fun k hk => by cases hk)
  have hl1 : w.heap.size < w1.heap.size := (hown1.lt _ rfl).2
  refine (each_any a n c w1.heap.size w.heap.size _ f _ ((ha.below hb1).below ((Below.refl _ _).alloc (Nat.le_refl _) _)) hn hf ?hlow (heap_alloc_new w1 _) (hown1.alloc _) (Nat.le_of_lt hl1) ?hne).mono ?_
  case hlow =>
    intro p o h0 e
    obtain ⟨p', o', e', hp, _⟩ := ha.resolve_left (by omega)
    rw [e'] at e
    cases e
    exact hp
  case hne => simp [Value.ownBlock]; omega
  rintro e w2 ⟨rfl, v2, hR2, hown2, hb2⟩
  have c2 := cell_of_one hR2
  have hb3 : Below w.heap.size w w2 := (hb1.alloc (Nat.le_of_lt hl1) _).trans hb2
  obtain ⟨b, d, rfl, hh⟩ := Holds.of_own hown2
  go_wp2
  go_ret
  exact ⟨b, d, rfl, hh, hb3⟩
end Go.Proofs.Ytgihepbglfhahaa
