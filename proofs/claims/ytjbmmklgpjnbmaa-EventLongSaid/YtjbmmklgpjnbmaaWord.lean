/-
  PLAIN MATHEMATICS: the number whose k lowest bits are a number's k lowest bits in the other order ('rk k a'); what it does to '^', '&', '|'; the table of bytes turned.
  CONTRACTS of package word, the plain ones: join, Turn, Low, Unlow, At; and the document's Turn and At.
  CONTRACTS: the document's Turn and At (bilgeref01); word.Get and bilgeref01.Get.
  CONTRACTS: bilgeref01.Get and Put: slices that are appended to.
  CONTRACTS: word.Put: its row, each of its words put by a method value.
-/
import Derived.Lib.Tables
import Derived.Laws.BitsAllLaws
import Derived.KernelRfl
import Derived.Test.YtjbmmklgpjnbmaaRows
import Derived.Test.YtjbmmklgpjnbmaaSlices
import Derived.WalkLawsBesides
import Derived.WalkSpells
import Derived.Deep.QuietTactic
import Derived.BigQuiet
import Derived.RegionTactic
import Derived.Outline
import Derived.Lib.Hide
import Derived.Handy
import Derived.Deep.RegionHeld3
import Derived.Deep.RegionWith
import Derived.Deep.AppendLies
import Derived.StillTailTactics
set_option maxRecDepth 100000
namespace Go.Proofs.Ytjbmmklgpjnbmaa

/-- The k lowest bits of a, in the other order. -/
def rk : Nat → Nat → Nat
  | 0, _ => 0
  | k + 1, a => rk k a * 2 + (a / 2 ^ k) % 2

theorem rk_lt (k a : Nat) : rk k a < 2 ^ k := by
  induction k with
  | zero => simp [rk]
  | succ k ih => simp only [rk, Nat.pow_succ]; omega

theorem rk_bit (k a i : Nat) : (rk k a).testBit i = (decide (i < k) && a.testBit (k - 1 - i)) := by
  induction k generalizing i with
  | zero => simp [rk]
  | succ k ih =>
    cases i with
    | zero =>
      simp [rk, Nat.testBit_eq_decide_div_mod_eq]
    | succ i =>
      rw [Nat.testBit_succ]
      have e : rk (k + 1) a / 2 = rk k a := by simp only [rk]; omega
      rw [e, ih]
      have h1 : (k + 1 - 1 - (i + 1)) = k - 1 - i := by omega
      rw [h1]
      simp

theorem rk_ext {k x y : Nat} (hx : x < 2 ^ k) (hy : y < 2 ^ k) (h : ∀ i, i < k → x.testBit i = y.testBit i) : x = y := by
  apply Nat.eq_of_testBit_eq
  intro i
  by_cases hi : i < k
  · exact h i hi
  · have le : 2 ^ k ≤ 2 ^ i := Nat.pow_le_pow_right (by decide) (by omega)
    rw [Nat.testBit_lt_two_pow (by omega), Nat.testBit_lt_two_pow (by omega)]

theorem rk_xor (k a b : Nat) : rk k (a ^^^ b) = rk k a ^^^ rk k b := by
  apply rk_ext (rk_lt _ _) (Nat.xor_lt_two_pow (rk_lt _ _) (rk_lt _ _))
  intro i hi; simp [rk_bit, hi]
theorem rk_and (k a b : Nat) : rk k (a &&& b) = rk k a &&& rk k b := by
  apply rk_ext (rk_lt _ _) (Nat.and_lt_two_pow _ (rk_lt _ _))
  intro i hi; simp [rk_bit, hi]
theorem rk_or (k a b : Nat) : rk k (a ||| b) = rk k a ||| rk k b := by
  apply rk_ext (rk_lt _ _) (Nat.or_lt_two_pow (rk_lt _ _) (rk_lt _ _))
  intro i hi; simp [rk_bit, hi]
theorem rk_rk (k a : Nat) (h : a < 2 ^ k) : rk k (rk k a) = a := by
  apply rk_ext (rk_lt _ _) h
  intro i hi
  have h1 : k - 1 - i < k := by omega
  have h2 : k - 1 - (k - 1 - i) = i := by omega
  simp [rk_bit, hi, h1, h2]
theorem rk_inj (k a b : Nat) (ha : a < 2 ^ k) (hb : b < 2 ^ k) : rk k a = rk k b ↔ a = b :=
  ⟨fun h => by rw [← rk_rk k a ha, ← rk_rk k b hb, h], fun h => by rw [h]⟩

/-- The low part turned, then the high one. -/
theorem rk_add (k m a : Nat) : rk (k + m) a = rk k a * 2 ^ m + rk m (a / 2 ^ k) := by
  induction m with
  | zero => simp [rk]
  | succ m ih =>
    show rk (k + m) a * 2 + (a / 2 ^ (k + m)) % 2 = _
    simp only [rk]
    rw [ih, Nat.div_div_eq_div_mul, ← Nat.pow_add, Nat.pow_succ]
    have : rk k a * (2 ^ m * 2) = rk k a * 2 ^ m * 2 := by rw [Nat.mul_assoc]
    omega
theorem rk_mod (k a : Nat) : rk k (a % 2 ^ k) = rk k a := by
  apply rk_ext (rk_lt _ _) (rk_lt _ _)
  intro i hi
  have h1 : k - 1 - i < k := by omega
  simp [rk_bit, hi, Nat.testBit_mod_two_pow, h1]

set_option maxRecDepth 100000 in
theorem rev8_all : ∀ i : Fin 256, Lib.rev8 ((i.val : Nat) : Int) = ((rk 8 i.val : Nat) : Int) := by decide +kernel
theorem rev8_rk (i : Nat) (h : i < 256) : Lib.rev8 (i : Int) = ((rk 8 i : Nat) : Int) := rev8_all ⟨i, h⟩

/-- A word turned: its low byte's bits stand high. -/
theorem turn_eq (a : Nat) (h : a < 65536) :
    bits .or .u16 (IntKind.u16.wrap (Lib.rev8 ((a : Int) / 256))) (IntKind.u16.wrap (IntKind.u16.wrap (Lib.rev8 (bits .and .u16 (a : Int) 255)) * 256)) = ((rk 16 a : Nat) : Int) := by
  have e1 : ((a : Int) / 256) = ((a / 256 : Nat) : Int) := by omega
  have e2 : bits .and .u16 (a : Int) 255 = ((a % 256 : Nat) : Int) := by
    rw [u16_and (a : Int) 255 (by omega) (by omega) (by omega) (by omega)]
    have this : a &&& 255 = a % 256 := by simpa using Nat.and_two_pow_sub_one_eq_mod a 8
    rw [Int.toNat_natCast]
    show ((a &&& 255 : Nat) : Int) = _
    rw [this]
  rw [e1, e2, rev8_rk _ (by omega), rev8_rk _ (by omega)]
  have l1 := rk_lt 8 (a / 256)
  have l2 := rk_lt 8 (a % 256)
  have h1 : rk 16 a = rk 8 (a % 256) * 2 ^ 8 + rk 8 (a / 256) := by
    have := rk_add 8 8 a
    rw [this, ← rk_mod 8 a]
  simp only [IntKind.wrap_u16]
  have f1 : ((rk 8 (a / 256) : Nat) : Int) % 65536 = ((rk 8 (a / 256) : Nat) : Int) := by omega
  have f2 : (((rk 8 (a % 256) : Nat) : Int) % 65536 * 256) % 65536 = ((rk 8 (a % 256) * 256 : Nat) : Int) := by omega
  rw [f1, f2, u16_or _ _ (by omega) (by omega) (by omega) (by omega), h1]
  rw [Int.toNat_natCast, Int.toNat_natCast, Nat.or_comm]
  have := Nat.two_pow_add_eq_or_of_lt l1 (rk 8 (a % 256))
  rw [← Nat.mul_comm] at this
  rw [show (256 : Nat) = 2 ^ 8 from rfl, ← this]
end Go.Proofs.Ytjbmmklgpjnbmaa
namespace Go.Proofs.Ytjbmmklgpjnbmaa
open Go.RowKit

theorem or_byte (a b : Int) (a0 : 0 ≤ a) (a1 : a < 256) (b0 : 0 ≤ b) (b1 : b < 256) : bits .or .u16 (a * 256) b = a * 256 + b := by
  obtain ⟨A, rfl⟩ := Int.eq_ofNat_of_zero_le a0
  obtain ⟨B, rfl⟩ := Int.eq_ofNat_of_zero_le b0
  rw [u16_or _ _ (by omega) (by omega) (by omega) (by omega)]
  have e : ((A : Int) * 256).toNat = A * 256 := by omega
  rw [e, Int.toNat_natCast]
  have := Nat.two_pow_add_eq_or_of_lt (i := 8) (b := B) (by omega) A
  rw [← Nat.mul_comm, show (2 : Nat) ^ 8 = 256 from rfl] at this
  rw [← this]; omega

/-- A word turned. -/
def tw (a : Int) : Int := ((rk 16 a.toNat : Nat) : Int)
theorem tw_bd (a : Int) : 0 ≤ tw a ∧ tw a < 65536 := by
  have := rk_lt 16 a.toNat
  unfold tw; omega

theorem fold_rev : ({ data := (([0, 128, 64, 192, 32, 160, 96, 224, 16, 144, 80, 208, 48, 176, 112, 240, 8, 136, 72, 200, 40, 168, 104, 232, 24, 152, 88, 216, 56, 184, 120, 248, 4, 132, 68, 196, 36, 164, 100, 228, 20, 148, 84, 212, 52, 180, 116, 244, 12, 140, 76, 204, 44, 172, 108, 236, 28, 156, 92, 220, 60, 188, 124, 252].append [2, 130, 66, 194, 34, 162, 98, 226, 18, 146, 82, 210, 50, 178, 114, 242, 10, 138, 74, 202, 42, 170, 106, 234, 26, 154, 90, 218, 58, 186, 122, 250, 6, 134, 70, 198, 38, 166, 102, 230, 22, 150, 86, 214, 54, 182, 118, 246, 14, 142, 78, 206, 46, 174, 110, 238, 30, 158, 94, 222, 62, 190, 126, 254]).append ([1, 129, 65, 193, 33, 161, 97, 225, 17, 145, 81, 209, 49, 177, 113, 241, 9, 137, 73, 201, 41, 169, 105, 233, 25, 153, 89, 217, 57, 185, 121, 249, 5, 133, 69, 197, 37, 165, 101, 229, 21, 149, 85, 213, 53, 181, 117, 245, 13, 141, 77, 205, 45, 173, 109, 237, 29, 157, 93, 221, 61, 189, 125, 253].append [3, 131, 67, 195, 35, 163, 99, 227, 19, 147, 83, 211, 51, 179, 115, 243, 11, 139, 75, 203, 43, 171, 107, 235, 27, 155, 91, 219, 59, 187, 123, 251, 7, 135, 71, 199, 39, 167, 103, 231, 23, 151, 87, 215, 55, 183, 119, 247, 15, 143, 79, 207, 47, 175, 111, 239, 31, 159, 95, 223, 63, 191, 127, 255])).toArray } : ByteArray) = Lib.rev8tab := by kernel_rfl

/-- The low byte of a word, then its high one. -/
def lowF (x : Int) : Nat → Int := fun i => if i = 0 then x % 256 else x / 256

end Go.Proofs.Ytjbmmklgpjnbmaa
namespace Go.Proofs.Ytjbmmklgpjnbmaa
open Go.RowKit

theorem rk_step (k a : Nat) (v : Int) (hv : v = ((a / 2 ^ k : Nat) : Int)) : ((rk k a : Nat) : Int) * 2 + v % 2 = ((rk (k + 1) a : Nat) : Int) := by
  subst hv; simp only [rk]; omega

/-- Behind k rounds: what is left, and what has come. -/
def TurnAt (A k v r : Nat) : Prop := v = A / 2 ^ k ∧ r = rk k A

/-- The words that bytes are. -/
def getF (f : Nat → Int) : Nat → Int := fun i => f (2 * i) * 256 + f (2 * i + 1)

theorem Try.info16 : (Try.prog.info? 23).map (fun i => (i.zero, i.size, i.bytes)) = some (some (.int .u16 0), 1, 2) := by kernel_rfl
theorem Try.info8 : (Try.prog.info? 5).map (fun i => (i.zero, i.size, i.bytes)) = some (some (.int .u8 0), 1, 1) := by kernel_rfl

end Go.Proofs.Ytjbmmklgpjnbmaa
namespace Go.Proofs.Ytjbmmklgpjnbmaa
open Go.RowKit

/-- The bytes of words. -/
def putF (f : Nat → Int) : Nat → Int := fun j => if j % 2 = 0 then f (j / 2) / 256 else f (j / 2) % 256
theorem putF_even (f : Nat → Int) (k : Nat) : putF f (2 * k) = f k / 256 := by unfold putF; rw [if_pos (by omega)]; congr 2; omega
theorem putF_odd (f : Nat → Int) (k : Nat) : putF f (2 * k + 1) = f k % 256 := by unfold putF; rw [if_neg (by omega)]; congr 2; omega
theorem putF_bd (f : Nat → Int) (n : Nat) (hf : ∀ i, i < n → 0 ≤ f i ∧ f i < 65536) : ∀ j, j < 2 * n → 0 ≤ putF f j ∧ putF f j < 256 := by
  intro j hj
  have := hf (j / 2) (by omega)
  unfold putF; split <;> omega

set_option maxHeartbeats 800000 in
theorem rput_any (a : Option Addr) (n c : Nat) (f : Nat → Int) (w : World) (ha : Holds .u16 w a n f) (hn : n ≤ 1000000) (hf : ∀ i, i < n → 0 ≤ f i ∧ f i < 65536) :
    Calls Try.prog 24 #[.slice a n c] w fun e w' => ∃ b d, e = .returned (.slice b (2 * n) d) ∧ Holds .u8 w' b (2 * n) (putF f) ∧ Below w.heap.size w w' := by
  obtain ⟨i0, hi0, hz0, hz1, hz2⟩ := info_parts Try.info8
  obtain ⟨B, hB⟩ : ∃ B, B = w.heap.size := ⟨_, rfl⟩
  have hb0 : Below B w w := Below.refl _ _
  rw [← hB]
  have HB := Lib.hid hB
  clear hB
  go_enter Try.func24, Try.ntmps24
  go_wp2
  go_loopw [3, 4] (fun v i wr => ∃ k : Nat, k ≤ n ∧ i = .int .i64 k ∧ wr.ownsRow B 5 1 v (2 * k) (lst .u8 (putF f) (2 * k)) ∧ Below B w wr) (fun _ i _ => n - (intOf i).toNat)
  case atStart => exact ⟨0, Nat.zero_le _, rfl, World.ownsRow_nil _ _ _ _, hb0⟩
  case round =>
    obtain ⟨k, hk, rfl, hown, hb⟩ := hrel
    by_cases hlt : k < n
    · obtain ⟨p, o, rfl, hp, hc⟩ := ha.resolve_left (by omega)
      have hpB : p < B := by rw [HB.out]; exact hp
      have c0 : wr.cell? ⟨p, o + k, none⟩ = some (.int .u16 (f k)) := (hb.cell (p := ⟨p, o + k, none⟩) hpB).trans (hc k (by omega))
      obtain ⟨f00, f01⟩ := hf k (by omega)
      have hBs : B ≤ wr.heap.size := by have := hb.size; rw [HB.out]; exact this
      clear hc ha hf
      have m5 : 0 ≤ (k : Int) := by omega
      have m7 : (k : Int) < n := by omega
      have v1 : IntKind.u8.wrap (f k / 256) = f k / 256 := by rw [IntKind.wrap_u8]; omega
      have v2 : IntKind.u8.wrap (f k % 256) = f k % 256 := by rw [IntKind.wrap_u8]; omega
      have v3 : (f k).tdiv 256 = f k / 256 := Int.tdiv_eq_ediv_of_nonneg f00
      have v4 : (f k).tmod 256 = f k % 256 := Int.tmod_eq_emod_of_nonneg f00
      have v5 : IntKind.u16.wrap (f k / 256) = f k / 256 := by rw [IntKind.wrap_u16]; omega
      have hob : ∀ q, u3.ownBlock = some q → B ≤ q := fun q hq => (hown.lt q hq).1
      have hpw : p < wr.heap.size := by omega
      have hpv : u3.ownBlock ≠ some p := fun e => by have := hob p e; omega
      go_wp2_with fail
      go_region_held3 (fun w' => w'.cell? ⟨p, o + k, none⟩ = some (.int .u16 (f k)))
        (first
          | (rw [hgrow.cell_far _ (by simp; omega) (Ne.symm hpv)]; go_keep; done)
          | (go_keep; done))
        ((refine step_append_lies _ (by rfl) _ _ _ (by rfl) B 5 i0 _ 1 1 Try.underlying27 hi0 hz0 hz1 hz2 rfl (by omega) u3 (2 * k) _ (by rfl) ((hown.alloc _).drew)
            ⟨wr.heap.size, 0, none⟩ 2 2 [.int .u8 (f k / 256), .int .u8 (f k % 256)] (by rfl) (by rfl) (World.news_of_block (cs := #[.int .u8 (f k / 256), .int .u8 (f k % 256)]) (t := 5) (fr := (0, 0)) (heap_alloc_new wr _)) (by simp [Value.oneCell'])
            (by omega) (by unfold maxLen; omega) (by omega) (by simp; omega) (wr.heap.size + 1) (by simp) ?_; intro gg cap w1 hown1 hgrow hat hlt1))
      have hown2 : w1.ownsRow B 5 1 (.slice (some ⟨gg, 0, none⟩) (2 * (k + 1)) cap) (2 * (k + 1)) (lst .u8 (putF f) (2 * (k + 1))) := by
        rw [show 2 * (k + 1) = 2 * k + 2 from by omega, ← lst_succ2, putF_even, putF_odd]; exact hown1
      have hb2 : Below B w w1 := ((hb.alloc hBs _).drew).grown hgrow (by simp; omega) hob
      clear hown1 hgrow hat hown hb hob hpv c0 v1 v2 v3 v4 v5
      go_wp2
      go_roundw
      case rel => exact ⟨k + 1, by omega, by go_num, hown2, hb2⟩
      case measure => simp [intOf]; omega
    · obtain ⟨b, d, hv, hh⟩ := Holds.of_own hown
      obtain rfl : k = n := by omega
      clear ha hf
      go_wp2
      go_ret
      exact ⟨b, d, by rw [← hv]; rfl, hh, hb⟩
end Go.Proofs.Ytjbmmklgpjnbmaa
namespace Go.Proofs.Ytjbmmklgpjnbmaa
open Go.RowKit

set_option maxHeartbeats 800000 in
theorem put_any (R B m : Nat) (v : Value) (xs : List Value) (x : Int) (w : World) (x0 : 0 ≤ x) (x1 : x < 65536) (hR : w.heap[R]? = some (.cells #[v] 71 (0, 0)))
    (hown : w.ownsRow B 5 1 v m xs) (hBR : B ≤ R) (hm : m ≤ 4000000) (hne : v.ownBlock ≠ some R) :
    Calls Try.prog 40 #[.pointer (some ⟨R, 0, none⟩), .int .u16 x] w fun e w' => e = .returned (.tuple #[]) ∧ ∃ v', w'.heap[R]? = some (.cells #[v'] 71 (0, 0)) ∧
      w'.ownsRow B 5 1 v' (m + 2) (xs ++ [.int .u8 (x / 256), .int .u8 (x % 256)]) ∧ v'.ownBlock ≠ some R ∧ Below B w w' := by
  obtain ⟨i0, hi0, hz0, hz1, hz2⟩ := info_parts Try.info8
  have cR := cell_of_one hR
  have fR := free_of_one hR
  have lR := lt_of_block hR
  have hBs : B ≤ w.heap.size := by omega
  have hob : ∀ q, v.ownBlock = some q → B ≤ q := fun q hq => (hown.lt q hq).1
  have v1 : IntKind.u8.wrap (x / 256) = x / 256 := by rw [IntKind.wrap_u8]; omega
  go_enter Try.func40, Try.ntmps40
  go_wp2_with (at_builtin; refine wpList_append_lies _ rfl _ _ _ rfl B 5 i0 _ 1 1 Try.underlying27 hi0 hz0 hz1 hz2 rfl (by omega) v m xs rfl (hown.alloc _) ⟨w.heap.size, 0, none⟩ 2 2 [.int .u8 (x / 256), .int .u8 (x % 256)] rfl rfl (World.news_of_block (cs := #[.int .u8 (x / 256), .int .u8 (x % 256)]) (t := 5) (fr := (0, 0)) (heap_alloc_new w _)) (by simp [Value.oneCell']) (by omega) (by unfold maxLen; omega) (by omega) (by simp; omega) (w.heap.size + 1) (by simp) ?_; intro gg cap w1 hown1 hgrow hat hlt1; have hR1 : w1.heap[R]? = some (.cells #[v] 71 (0, 0)) := (hgrow.block R (by simp; omega) (Ne.symm hne)).trans ((Below.heap_alloc _ _ _ lR).trans hR); have cR1 := cell_of_one hR1; have fR1 := free_of_one hR1)
  go_end0
  have hgR : (Value.slice (some ⟨gg, 0, none⟩) (m + 2) cap).ownBlock ≠ some R := by
    simp only [Value.ownBlock]
    rcases hat with h | h
    · intro e; exact hne (h.trans e)
    · intro e; have : gg = R := by simpa using e
      omega
  exact ⟨rfl, _, one_setCell hR1, ownsRow_setCell_other hown1 hgR _, hgR, (((Below.refl _ _).alloc hBs _).grown hgrow (by simp; omega) hob).setCell hBR _⟩

set_option maxHeartbeats 800000 in
theorem each_any (a : Option Addr) (n c R B : Nat) (v : Value) (f : Nat → Int) (w : World) (ha : Holds .u16 w a n f) (hn : n ≤ 1000000) (hf : ∀ i, i < n → 0 ≤ f i ∧ f i < 65536)
    (hlow : ∀ p o, 0 < n → a = some ⟨p, o, none⟩ → p < B) (hR : w.heap[R]? = some (.cells #[v] 71 (0, 0))) (hown : w.ownsRow B 5 1 v 0 []) (hBR : B ≤ R) (hne : v.ownBlock ≠ some R) :
    Calls Try.prog 39 #[.slice a n c, .func (Fn.func 40) #[.pointer (some ⟨R, 0, none⟩)] #[]] w fun e w' => e = .returned (.tuple #[]) ∧ ∃ v', w'.heap[R]? = some (.cells #[v'] 71 (0, 0)) ∧
      w'.ownsRow B 5 1 v' (2 * n) (lst .u8 (putF f) (2 * n)) ∧ Below B w w' := by
  have hb0 : Below B w w := Below.refl _ _
  go_enter Try.func39, Try.ntmps39
  go_wp2
  go_loopw [5, 8] (fun _ i wr => ∃ (k : Nat) (v : Value), k ≤ n ∧ i = .int .i64 k ∧ wr.heap[R]? = some (.cells #[v] 71 (0, 0)) ∧ wr.ownsRow B 5 1 v (2 * k) (lst .u8 (putF f) (2 * k)) ∧ v.ownBlock ≠ some R ∧ Below B w wr) (fun _ i _ => n - (intOf i).toNat)
  case atStart => exact ⟨0, v, Nat.zero_le _, rfl, hR, hown, hne, hb0⟩
  case round =>
    clear hR hown hne v
    obtain ⟨k, v, hk, rfl, hR0, hown0, hne0, hb0'⟩ := hrel
    have hR := Lib.hid hR0
    have hown := Lib.hid hown0
    have hne := Lib.hid hne0
    by_cases hlt : k < n
    · obtain ⟨p, o, rfl, hp, hc⟩ := ha.resolve_left (by omega)
      have hpB : p < B := hlow p o (by omega) rfl
      have c0 : wr.cell? ⟨p, o + k, none⟩ = some (.int .u16 (f k)) := (hb0'.cell (p := ⟨p, o + k, none⟩) hpB).trans (hc k (by omega))
      obtain ⟨f00, f01⟩ := hf k (by omega)
      clear hc ha hf hlow hR0 hown0 hne0
      go_wp2_with (go_at_call 40; refine (put_any R B (2 * k) v (lst .u8 (putF f) (2 * k)) (f k) _ f00 f01 hR.out hown.out hBR (by omega) hne.out).mono ?_; rintro e w2 ⟨rfl, v2, hR2, hown2, hne2, hb2⟩)
      go_roundw
      case rel => exact ⟨k + 1, v2, by omega, by go_num, hR2, by rw [show 2 * (k + 1) = 2 * k + 2 from by omega, ← lst_succ2, putF_even, putF_odd]; exact hown2, hne2, hb0'.trans hb2⟩
      case measure => simp [intOf]; omega
    · clear ha hf hlow
      go_wp2
      go_end0
      obtain rfl : k = n := by omega
      exact ⟨rfl, v, hR0, hown0, hb0'⟩

set_option maxHeartbeats 800000 in
theorem wput_any (a : Option Addr) (n c : Nat) (f : Nat → Int) (w : World) (ha : Holds .u16 w a n f) (hn : n ≤ 1000000) (hf : ∀ i, i < n → 0 ≤ f i ∧ f i < 65536) :
    Calls Try.prog 32 #[.slice a n c] w fun e w' => ∃ b d, e = .returned (.slice b (2 * n) d) ∧ Holds .u8 w' b (2 * n) (putF f) ∧ Below w.heap.size w w' := by
  obtain ⟨i0, hi0, hz0, hz1, hz2⟩ := info_parts Try.info8
  go_enter Try.func32, Try.ntmps32
  go_wp2_with (at_make; refine wpList_make_own _ rfl _ _ 27 rfl w.heap.size 5 i0 (.int .u8 0) 1 Try.underlying27 hi0 hz0 hz1 .i64 .i64 (2 * (n : Int)) (2 * n) rfl rfl (by omega) (by rw [hz2]; omega) (by unfold maxLen; omega) (Nat.le_refl _) ?_; intro w1 hown1 hgrow1)
  have hb1 : Below w.heap.size w w1 := (Below.refl _ _).grown hgrow1 (Nat.le_refl _) (fun k hk => by cases hk)
  have hl1 : w.heap.size < w1.heap.size := (hown1.lt _ rfl).2
  refine (each_any a n c w1.heap.size w.heap.size _ f _ ((ha.below hb1).below ((Below.refl _ _).alloc (Nat.le_refl _) _)) hn hf ?hlow (heap_alloc_new w1 _) (hown1.alloc _) (Nat.le_of_lt hl1) ?hne).mono ?_
  case hlow =>
    intro p o h0 e
    obtain ⟨p', o', e', hp, _⟩ := ha.resolve_left (by omega)
    rw [e'] at e
    cases e
    exact hp
  case hne => simp [Value.ownBlock]; omega
  rintro e w2 ⟨rfl, v2, hR2, hown2, hb2⟩
  have c2 := cell_of_one hR2
  have hb3 : Below w.heap.size w w2 := (hb1.alloc (Nat.le_of_lt hl1) _).trans hb2
  obtain ⟨b, d, rfl, hh⟩ := Holds.of_own hown2
  go_wp2
  go_ret
  exact ⟨b, d, rfl, hh, hb3⟩
end Go.Proofs.Ytjbmmklgpjnbmaa
