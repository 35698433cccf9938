/-
  CONTRACTS: crc.Append; bilgeref04.Append.
-/
import Derived.Test.YtanoakebbfidiaaDoorCrcA
import Derived.Test.YtanoakebbfidiaaDoorAppend
import Derived.Test.YtanoakebbfidiaaDoorPolyB
namespace Go.Proofs.YtanoakebbfidiaaDoor
open Go.RowKit

theorem lst_two (f : Nat → Int) (n : Nat) (s : Int) : lstG (.int .u8) f n ++ lstG (.int .u8) (lowF s) 2 = lstG (.int .u8) (andTwo f n s) (n + 2) := by
  rw [lstG_append]
  refine List.map_congr_left fun i hi => ?_
  have hi' := List.mem_range.1 hi
  show Value.int .u8 (if i < n then f i else if i - n = 0 then s % 256 else s / 256) = Value.int .u8 (if i < n then f i else if i = n then s % 256 else s / 256)
  by_cases h1 : i < n
  · rw [if_pos h1, if_pos h1]
  · rw [if_neg h1, if_neg h1]
    by_cases h2 : i = n
    · rw [if_pos (by omega), if_pos h2]
    · rw [if_neg (by omega), if_neg h2]

end Go.Proofs.YtanoakebbfidiaaDoor
