/-
  PLAIN MATHEMATICS: the number whose k lowest bits are a number's k lowest bits in the other order ('rk k a'); what it does to '^', '&', '|'; the table of bytes turned.
  CONTRACTS of package word, the plain ones: join, Turn, Low, Unlow, At; and the document's Turn and At.
  CONTRACTS: the document's Turn and At (bilgeref01); word.Get and bilgeref01.Get.
  CONTRACTS: bilgeref01.Get and Put: slices that are appended to.
  CONTRACTS: word.Put: its row, each of its words put by a method value.
-/
import Derived.Lib.Tables
import Derived.Laws.BitsAllLaws
import Derived.KernelRfl
import Derived.Test.YtlafnobjfajamaaGreatRows
import Derived.Test.YtlafnobjfajamaaGreatPk1
import Derived.WalkLawsBesides
import Derived.WalkSpells
import Derived.Deep.QuietTactic
import Derived.BigQuiet
import Derived.RegionTactic
import Derived.Outline
import Derived.Lib.Hide
import Derived.Handy
import Derived.Deep.RegionHeld3
import Derived.Deep.RegionWith
import Derived.Deep.AppendLies
import Derived.StillTailTactics
set_option maxRecDepth 100000
namespace Go.Proofs.YtlafnobjfajamaaGreat

end Go.Proofs.YtlafnobjfajamaaGreat
namespace Go.Proofs.YtlafnobjfajamaaGreat
open Go.RowKit

theorem or_byte (a b : Int) (a0 : 0 ≤ a) (a1 : a < 256) (b0 : 0 ≤ b) (b1 : b < 256) : bits .or .u16 (a * 256) b = a * 256 + b := by
  obtain ⟨A, rfl⟩ := Int.eq_ofNat_of_zero_le a0
  obtain ⟨B, rfl⟩ := Int.eq_ofNat_of_zero_le b0
  rw [u16_or _ _ (by omega) (by omega) (by omega) (by omega)]
  have e : ((A : Int) * 256).toNat = A * 256 := by omega
  rw [e, Int.toNat_natCast]
  have := Nat.two_pow_add_eq_or_of_lt (i := 8) (b := B) (by omega) A
  rw [← Nat.mul_comm, show (2 : Nat) ^ 8 = 256 from rfl] at this
  rw [← this]; omega

theorem join_any (a b : Int) (w : World) (a0 : 0 ≤ a) (a1 : a < 256) (b0 : 0 ≤ b) (b1 : b < 256) :
    Calls Tryz.prog 140 #[.int .u8 a, .int .u8 b] w fun e w' => e = .returned (.int .u16 (a * 256 + b)) ∧ w = w' := by
  have h := or_byte a b a0 a1 b0 b1
  go_enter Tryz.func140, Tryz.ntmps140
  go_wp2
  go_ret
  exact ⟨rfl, rfl⟩

theorem at_none (a : Option Addr) (n c : Nat) (i : Int) (w : World) (hn : n ≤ 1000000) (hi : i < 0 ∨ (n : Int) - 1 ≤ i) :
    Calls Tryz.prog 120 #[.slice a n c, .int .i64 i] w fun e w' => e = .returned (.tuple #[.int .u16 0, .bool false]) ∧ w = w' := by
  by_cases h0 : i < 0
  · go_enter Tryz.func120, Tryz.ntmps120
    go_wp2
    go_ret2
    exact ⟨rfl, rfl⟩
  · have h1 : (n : Int) - 1 ≤ i := by omega
    have h0' : 0 ≤ i := by omega
    clear hi h0
    go_enter Tryz.func120, Tryz.ntmps120
    go_wp2
    go_ret2
    exact ⟨rfl, rfl⟩
theorem at_some (a : Option Addr) (n c i : Nat) (f : Nat → Int) (w : World) (ha : Holds .u8 w a n f) (hn : n ≤ 1000000) (hi : i + 1 < n) (hf : ∀ i, i < n → 0 ≤ f i ∧ f i < 256) :
    Calls Tryz.prog 120 #[.slice a n c, .int .i64 i] w fun e w' => e = .returned (.tuple #[.int .u16 (f i * 256 + f (i + 1)), .bool true]) ∧ ∃ q, w' = w.drewN q := by
  obtain ⟨p, o, rfl, hp, hc⟩ := ha.resolve_left (by omega)
  have c0 := hc i (by omega)
  have c1 : w.cell? ⟨p, o + (i + 1), none⟩ = some (.int .u8 (f (i + 1))) := hc (i + 1) (by omega)
  obtain ⟨f00, f01⟩ := hf i (by omega)
  obtain ⟨f10, f11⟩ := hf (i + 1) (by omega)
  clear hc ha hf
  have h1 : (i : Int) < (n : Int) - 1 := by omega
  have h0 : 0 ≤ (i : Int) := by omega
  go_enter Tryz.func120, Tryz.ntmps120
  go_wp2
  go_quiet ((go_at_call 140; exact Calls.quiet_of_same ((join_any _ _ _ f00 f01 f10 f11).mono fun e w' h => ⟨h.1, h.2.symm⟩)))
  go_wp2
  go_ret2
  exact ⟨rfl, _, rfl⟩
end Go.Proofs.YtlafnobjfajamaaGreat
namespace Go.Proofs.YtlafnobjfajamaaGreat
open Go.RowKit

/-- The words that bytes are. -/
def getF (f : Nat → Int) : Nat → Int := fun i => f (2 * i) * 256 + f (2 * i + 1)

theorem get_odd (a : Option Addr) (n c : Nat) (w : World) (hn : n ≤ 1000000) (ho : n % 2 = 1) :
    Calls Tryz.prog 123 #[.slice a n c] w fun e w' => e = .returned (.tuple #[.slice none 0 0, .int .i64 12]) ∧ w = w' := by
  have h : ((n : Int) % 2 != 0) = true := by simp; omega
  clear ho
  go_enter Tryz.func123, Tryz.ntmps123
  go_wp2
  go_ret2
  exact ⟨rfl, rfl⟩
theorem Tryz.info16 : (Tryz.prog.info? 59).map (fun i => (i.zero, i.size, i.bytes)) = some (some (.int .u16 0), 1, 2) := by kernel_rfl
theorem Tryz.info8 : (Tryz.prog.info? 5).map (fun i => (i.zero, i.size, i.bytes)) = some (some (.int .u8 0), 1, 1) := by kernel_rfl

end Go.Proofs.YtlafnobjfajamaaGreat
namespace Go.Proofs.YtlafnobjfajamaaGreat
open Go.RowKit

/-- The bytes of words. -/
def putF (f : Nat → Int) : Nat → Int := fun j => if j % 2 = 0 then f (j / 2) / 256 else f (j / 2) % 256
theorem putF_even (f : Nat → Int) (k : Nat) : putF f (2 * k) = f k / 256 := by unfold putF; rw [if_pos (by omega)]; congr 2; omega
theorem putF_odd (f : Nat → Int) (k : Nat) : putF f (2 * k + 1) = f k % 256 := by unfold putF; rw [if_neg (by omega)]; congr 2; omega
end Go.Proofs.YtlafnobjfajamaaGreat
namespace Go.Proofs.YtlafnobjfajamaaGreat
open Go.RowKit

set_option maxHeartbeats 800000 in
theorem put_any (R B m : Nat) (v : Value) (xs : List Value) (x : Int) (w : World) (x0 : 0 ≤ x) (x1 : x < 65536) (hR : w.heap[R]? = some (.cells #[v] 184 (0, 0)))
    (hown : w.ownsRow B 5 1 v m xs) (hBR : B ≤ R) (hm : m ≤ 4000000) (hne : v.ownBlock ≠ some R) :
    Calls Tryz.prog 143 #[.pointer (some ⟨R, 0, none⟩), .int .u16 x] w fun e w' => e = .returned (.tuple #[]) ∧ ∃ v', w'.heap[R]? = some (.cells #[v'] 184 (0, 0)) ∧
      w'.ownsRow B 5 1 v' (m + 2) (xs ++ [.int .u8 (x / 256), .int .u8 (x % 256)]) ∧ v'.ownBlock ≠ some R ∧ Below B w w' := by
  obtain ⟨i0, hi0, hz0, hz1, hz2⟩ := info_parts Tryz.info8
  have cR := cell_of_one hR
  have fR := free_of_one hR
  have lR := lt_of_block hR
  have hBs : B ≤ w.heap.size := by omega
  have hob : ∀ q, v.ownBlock = some q → B ≤ q := fun q hq => (hown.lt q hq).1
  have v1 : IntKind.u8.wrap (x / 256) = x / 256 := by rw [IntKind.wrap_u8]; omega
  go_enter Tryz.func143, Tryz.ntmps143
  go_wp2_with (at_builtin; refine wpList_append_lies _ rfl _ _ _ rfl B 5 i0 _ 1 1 Tryz.underlying48 hi0 hz0 hz1 hz2 rfl (by omega) v m xs rfl (hown.alloc _) ⟨w.heap.size, 0, none⟩ 2 2 [.int .u8 (x / 256), .int .u8 (x % 256)] rfl rfl (World.news_of_block (cs := #[.int .u8 (x / 256), .int .u8 (x % 256)]) (t := 5) (fr := (0, 0)) (heap_alloc_new w _)) (by simp [Value.oneCell']) (by omega) (by unfold maxLen; omega) (by omega) (by simp; omega) (w.heap.size + 1) (by simp) ?_; intro gg cap w1 hown1 hgrow hat hlt1; have hR1 : w1.heap[R]? = some (.cells #[v] 184 (0, 0)) := (hgrow.block R (by simp; omega) (Ne.symm hne)).trans ((Below.heap_alloc _ _ _ lR).trans hR); have cR1 := cell_of_one hR1; have fR1 := free_of_one hR1)
  go_end0
  have hgR : (Value.slice (some ⟨gg, 0, none⟩) (m + 2) cap).ownBlock ≠ some R := by
    simp only [Value.ownBlock]
    rcases hat with h | h
    · intro e; exact hne (h.trans e)
    · intro e; have : gg = R := by simpa using e
      omega
  exact ⟨rfl, _, one_setCell hR1, ownsRow_setCell_other hown1 hgR _, hgR, (((Below.refl _ _).alloc hBs _).grown hgrow (by simp; omega) hob).setCell hBR _⟩

set_option maxHeartbeats 800000 in
theorem each_any (a : Option Addr) (n c R B : Nat) (v : Value) (f : Nat → Int) (w : World) (ha : Holds .u16 w a n f) (hn : n ≤ 1000000) (hf : ∀ i, i < n → 0 ≤ f i ∧ f i < 65536)
    (hlow : ∀ p o, 0 < n → a = some ⟨p, o, none⟩ → p < B) (hR : w.heap[R]? = some (.cells #[v] 184 (0, 0))) (hown : w.ownsRow B 5 1 v 0 []) (hBR : B ≤ R) (hne : v.ownBlock ≠ some R) :
    Calls Tryz.prog 142 #[.slice a n c, .func (Fn.func 143) #[.pointer (some ⟨R, 0, none⟩)] #[]] w fun e w' => e = .returned (.tuple #[]) ∧ ∃ v', w'.heap[R]? = some (.cells #[v'] 184 (0, 0)) ∧
      w'.ownsRow B 5 1 v' (2 * n) (lst .u8 (putF f) (2 * n)) ∧ Below B w w' := by
  have hb0 : Below B w w := Below.refl _ _
  go_enter Tryz.func142, Tryz.ntmps142
  go_wp2
  go_loopw [5, 8] (fun _ i wr => ∃ (k : Nat) (v : Value), k ≤ n ∧ i = .int .i64 k ∧ wr.heap[R]? = some (.cells #[v] 184 (0, 0)) ∧ wr.ownsRow B 5 1 v (2 * k) (lst .u8 (putF f) (2 * k)) ∧ v.ownBlock ≠ some R ∧ Below B w wr) (fun _ i _ => n - (intOf i).toNat)
  case atStart => exact ⟨0, v, Nat.zero_le _, rfl, hR, hown, hne, hb0⟩
  case round =>
    clear hR hown hne v
    obtain ⟨k, v, hk, rfl, hR0, hown0, hne0, hb0'⟩ := hrel
    have hR := Lib.hid hR0
    have hown := Lib.hid hown0
    have hne := Lib.hid hne0
    by_cases hlt : k < n
    · obtain ⟨p, o, rfl, hp, hc⟩ := ha.resolve_left (by omega)
      have hpB : p < B := hlow p o (by omega) rfl
      have c0 : wr.cell? ⟨p, o + k, none⟩ = some (.int .u16 (f k)) := (hb0'.cell (p := ⟨p, o + k, none⟩) hpB).trans (hc k (by omega))
      obtain ⟨f00, f01⟩ := hf k (by omega)
      clear hc ha hf hlow hR0 hown0 hne0
      go_wp2_with (go_at_call 143; refine (put_any R B (2 * k) v (lst .u8 (putF f) (2 * k)) (f k) _ f00 f01 hR.out hown.out hBR (by omega) hne.out).mono ?_; rintro e w2 ⟨rfl, v2, hR2, hown2, hne2, hb2⟩)
      go_roundw
      case rel => exact ⟨k + 1, v2, by omega, by go_num, hR2, by rw [show 2 * (k + 1) = 2 * k + 2 from by omega, ← lst_succ2, putF_even, putF_odd]; exact hown2, hne2, hb0'.trans hb2⟩
      case measure => simp [intOf]; omega
    · clear ha hf hlow
      go_wp2
      go_end0
      obtain rfl : k = n := by omega
      exact ⟨rfl, v, hR0, hown0, hb0'⟩

set_option maxHeartbeats 800000 in
theorem wput_any (a : Option Addr) (n c : Nat) (f : Nat → Int) (w : World) (ha : Holds .u16 w a n f) (hn : n ≤ 1000000) (hf : ∀ i, i < n → 0 ≤ f i ∧ f i < 65536) :
    Calls Tryz.prog 126 #[.slice a n c] w fun e w' => ∃ b d, e = .returned (.slice b (2 * n) d) ∧ Holds .u8 w' b (2 * n) (putF f) ∧ Below w.heap.size w w' := by
  obtain ⟨i0, hi0, hz0, hz1, hz2⟩ := info_parts Tryz.info8
  go_enter Tryz.func126, Tryz.ntmps126
  go_wp2_with (at_make; refine wpList_make_own _ rfl _ _ 48 rfl w.heap.size 5 i0 (.int .u8 0) 1 Tryz.underlying48 hi0 hz0 hz1 .i64 .i64 (2 * (n : Int)) (2 * n) rfl rfl (by omega) (by rw [hz2]; omega) (by unfold maxLen; omega) (Nat.le_refl _) ?_; intro w1 hown1 hgrow1)
  have hb1 : Below w.heap.size w w1 := (Below.refl _ _).grown hgrow1 (Nat.le_refl _) (fun k hk => by cases hk)
  have hl1 : w.heap.size < w1.heap.size := (hown1.lt _ rfl).2
  refine (each_any a n c w1.heap.size w.heap.size _ f _ ((ha.below hb1).below ((Below.refl _ _).alloc (Nat.le_refl _) _)) hn hf ?hlow (heap_alloc_new w1 _) (hown1.alloc _) (Nat.le_of_lt hl1) ?hne).mono ?_
  case hlow =>
    intro p o h0 e
    obtain ⟨p', o', e', hp, _⟩ := ha.resolve_left (by omega)
    rw [e'] at e
    cases e
    exact hp
  case hne => simp [Value.ownBlock]; omega
  rintro e w2 ⟨rfl, v2, hR2, hown2, hb2⟩
  have c2 := cell_of_one hR2
  have hb3 : Below w.heap.size w w2 := (hb1.alloc (Nat.le_of_lt hl1) _).trans hb2
  obtain ⟨b, d, rfl, hh⟩ := Holds.of_own hown2
  go_wp2
  go_ret
  exact ⟨b, d, rfl, hh, hb3⟩
end Go.Proofs.YtlafnobjfajamaaGreat
