/-
  CONTRACTS of package word, the plain ones: join, Turn, Low, Unlow, At; and the document's Turn and At.
-/
import Derived.Test.YtanoakebbfidiaaDoorRows
import Derived.Test.YtanoakebbfidiaaDoorSlices
import Derived.Test.YtanoakebbfidiaaDoorMathTurn
import Derived.WalkLawsBesides
import Derived.WalkSpells
import Derived.Deep.QuietTactic
import Derived.BigQuiet
import Derived.RegionTactic
import Derived.Outline
import Derived.Lib.Hide
import Derived.Handy
namespace Go.Proofs.YtanoakebbfidiaaDoor
open Go.RowKit

theorem or_byte (a b : Int) (a0 : 0 ≤ a) (a1 : a < 256) (b0 : 0 ≤ b) (b1 : b < 256) : bits .or .u16 (a * 256) b = a * 256 + b := by
  obtain ⟨A, rfl⟩ := Int.eq_ofNat_of_zero_le a0
  obtain ⟨B, rfl⟩ := Int.eq_ofNat_of_zero_le b0
  rw [u16_or _ _ (by omega) (by omega) (by omega) (by omega)]
  have e : ((A : Int) * 256).toNat = A * 256 := by omega
  rw [e, Int.toNat_natCast]
  have := Nat.two_pow_add_eq_or_of_lt (i := 8) (b := B) (by omega) A
  rw [← Nat.mul_comm, show (2 : Nat) ^ 8 = 256 from rfl] at this
  rw [← this]; omega

theorem join_any (a b : Int) (w : World) (a0 : 0 ≤ a) (a1 : a < 256) (b0 : 0 ≤ b) (b1 : b < 256) :
    Calls Tryd.prog 53 #[.int .u8 a, .int .u8 b] w fun e w' => e = .returned (.int .u16 (a * 256 + b)) ∧ w = w' := by
  have h := or_byte a b a0 a1 b0 b1
  go_enter Tryd.func53, Tryd.ntmps53
  go_wp2
  go_ret
  exact ⟨rfl, rfl⟩

/-- A word turned. -/
def tw (a : Int) : Int := ((rk 16 a.toNat : Nat) : Int)
theorem tw_bd (a : Int) : 0 ≤ tw a ∧ tw a < 65536 := by
  have := rk_lt 16 a.toNat
  unfold tw; omega

theorem fold_rev : ({ data := (([0, 128, 64, 192, 32, 160, 96, 224, 16, 144, 80, 208, 48, 176, 112, 240, 8, 136, 72, 200, 40, 168, 104, 232, 24, 152, 88, 216, 56, 184, 120, 248, 4, 132, 68, 196, 36, 164, 100, 228, 20, 148, 84, 212, 52, 180, 116, 244, 12, 140, 76, 204, 44, 172, 108, 236, 28, 156, 92, 220, 60, 188, 124, 252].append [2, 130, 66, 194, 34, 162, 98, 226, 18, 146, 82, 210, 50, 178, 114, 242, 10, 138, 74, 202, 42, 170, 106, 234, 26, 154, 90, 218, 58, 186, 122, 250, 6, 134, 70, 198, 38, 166, 102, 230, 22, 150, 86, 214, 54, 182, 118, 246, 14, 142, 78, 206, 46, 174, 110, 238, 30, 158, 94, 222, 62, 190, 126, 254]).append ([1, 129, 65, 193, 33, 161, 97, 225, 17, 145, 81, 209, 49, 177, 113, 241, 9, 137, 73, 201, 41, 169, 105, 233, 25, 153, 89, 217, 57, 185, 121, 249, 5, 133, 69, 197, 37, 165, 101, 229, 21, 149, 85, 213, 53, 181, 117, 245, 13, 141, 77, 205, 45, 173, 109, 237, 29, 157, 93, 221, 61, 189, 125, 253].append [3, 131, 67, 195, 35, 163, 99, 227, 19, 147, 83, 211, 51, 179, 115, 243, 11, 139, 75, 203, 43, 171, 107, 235, 27, 155, 91, 219, 59, 187, 123, 251, 7, 135, 71, 199, 39, 167, 103, 231, 23, 151, 87, 215, 55, 183, 119, 247, 15, 143, 79, 207, 47, 175, 111, 239, 31, 159, 95, 223, 63, 191, 127, 255])).toArray } : ByteArray) = Lib.rev8tab := by kernel_rfl

/-- The low byte of a word, then its high one. -/
def lowF (x : Int) : Nat → Int := fun i => if i = 0 then x % 256 else x / 256

theorem unlow_two (a : Option Addr) (c : Nat) (f : Nat → Int) (w : World) (ha : Holds .u8 w a 2 f) (hf : ∀ i, i < 2 → 0 ≤ f i ∧ f i < 256) :
    Calls Tryd.prog 49 #[.slice a 2 c] w fun e w' => e = .returned (.tuple #[.int .u16 (f 1 * 256 + f 0), .bool true]) ∧ ∃ q, w' = w.drewN q := by
  obtain ⟨p, o, rfl, hp, hc⟩ := ha.resolve_left (by omega)
  have c0 : w.cell? ⟨p, o, none⟩ = some (.int .u8 (f 0)) := hc 0 (by omega)
  have c1 := hc 1 (by omega)
  obtain ⟨f00, f01⟩ := hf 0 (by omega)
  obtain ⟨f10, f11⟩ := hf 1 (by omega)
  clear hc ha hf
  go_enter Tryd.func49, Tryd.ntmps49
  go_wp2
  go_quiet ((go_at_call 53; exact Calls.quiet_of_same ((join_any _ _ _ f10 f11 f00 f01).mono fun e w' h => ⟨h.1, h.2.symm⟩)))
  go_wp2
  go_ret2
  exact ⟨rfl, _, rfl⟩

end Go.Proofs.YtanoakebbfidiaaDoor
