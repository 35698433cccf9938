/-
  THE WALKS OF LAYER 9, as the frames want them: SplitCuts, SplitParts.
-/
import Derived.Test.YtanoakebbfidiaaDoorOpenA
import Derived.Test.YtanoakebbfidiaaDoorWalk09A
import Derived.Test.YtanoakebbfidiaaDoorLaw09D
namespace Go.Proofs.YtanoakebbfidiaaDoor
open Go.RowKit
set_option linter.unusedVariables false
theorem splitCuts.long (a : Option Addr) (n cp : Nat) (c s l u f : Int) (w : World) (hr : Rd w) (h : 700 < n) (hcp : n ≤ cp) (hcm : cp ≤ 8796093021952) :
    Calls Tryd.prog 3 #[.slice a n cp, timesC c s l u, .int .i64 f] w fun e w' => e = .returned (.bool true) ∧ Ext w w' := by
  have h7 : (700 : Int) < n := by omega
  have hs := fun w' (x : Ext w w') => sure9_any w' (hr.ext x)
  have HS := Lib.hid hs
  unfold timesC
  clear hr h hs hcp hcm
  go_enter Tryd.func3, Tryd.ntmps3
  go_wp2_with fail
  refine (HS.out _ (Ext.alloc _ _)).mono ?_; rintro e w3 ⟨rfl, x3⟩
  go_wp2
  go_ret
  exact ⟨rfl, (Ext.alloc _ _).trans x3⟩
theorem splitCuts.walk (a : Option Addr) (n cp : Nat) (L : List Byt) (c s l u f : Int) (w : World) (hr : Rd w) (ha : HoldsL 3 byt w a L) (hL : L.length = n) (hcp : n ≤ cp) (hcm : cp ≤ 8796093021952) (hw : WfB L)
    (hc : (Lit.int .i64 c).wf = true) (hs : (Lit.int .i64 s).wf = true) (hl : (Lit.int .i64 l).wf = true) (hu : (Lit.int .i64 u).wf = true) (hf : (Lit.int .i64 f).wf = true) :
    Calls Tryd.prog 3 #[.slice a n cp, .agg #[.int .i64 c, .int .i64 s, .int .i64 l, .int .i64 u], .int .i64 f] w fun e w' => e = .returned (.bool true) ∧ Ext w w' := by
  by_cases h : n ≤ 700
  · exact splitCuts.any a n cp L c s l u f w hr ha hL hcp (by unfold maxLen; omega) h hw hc hs hl hu hf sure9_any
  · exact splitCuts.long a n cp c s l u f w hr (by omega) hcp hcm
theorem splitParts.long (a b : Option Addr) (n m cp cq : Nat) (c s l u : Int) (w : World) (hr : Rd w) (h : 700 < n + m) (hcp : n ≤ cp) (hcm : cp ≤ 8796093021952) (hcq : m ≤ cq) (hcqm : cq ≤ 8796093021952) :
    Calls Tryd.prog 6 #[.slice a n cp, .slice b m cq, timesC c s l u] w fun e w' => e = .returned (.bool true) ∧ Ext w w' := by
  have h7 : (700 : Int) < (n : Int) + (m : Int) := by omega
  have hw7 : IntKind.i64.wrap ((n : Int) + (m : Int)) = (n : Int) + (m : Int) := by rw [IntKind.wrap_i64]; omega
  have hs := fun w' (x : Ext w w') => sure9_any w' (hr.ext x)
  have HS := Lib.hid hs
  unfold timesC
  clear hr h hs hcp hcm hcq hcqm
  go_enter Tryd.func6, Tryd.ntmps6
  go_wp2_with fail
  refine (HS.out _ (Ext.alloc _ _)).mono ?_; rintro e w3 ⟨rfl, x3⟩
  go_wp2
  go_ret
  exact ⟨rfl, (Ext.alloc _ _).trans x3⟩
theorem splitParts.walk (a : Option Addr) (n cp : Nat) (L : List Byt) (b : Option Addr) (m cq : Nat) (M : List Byt) (c s l u : Int) (w : World) (hr : Rd w) (ha : HoldsL 3 byt w a L) (hL : L.length = n) (hcp : n ≤ cp) (hcm : cp ≤ 8796093021952) (hw : WfB L)
    (hb : HoldsL 3 byt w b M) (hM : M.length = m) (hcq : m ≤ cq) (hcqm : cq ≤ 8796093021952) (hwM : WfB M)
    (hc : (Lit.int .i64 c).wf = true) (hs : (Lit.int .i64 s).wf = true) (hl : (Lit.int .i64 l).wf = true) (hu : (Lit.int .i64 u).wf = true) :
    Calls Tryd.prog 6 #[.slice a n cp, .slice b m cq, .agg #[.int .i64 c, .int .i64 s, .int .i64 l, .int .i64 u]] w fun e w' => e = .returned (.bool true) ∧ Ext w w' := by
  by_cases h : n + m ≤ 700
  · by_cases h1 : rightB c s l u = true
    · by_cases h2 : rightI L 0 = true
      · exact splitParts.most a b n m cp cq L M c s l u w hr ha hb hL hM hcp (by unfold maxLen; omega) hcq (by unfold maxLen; omega) h hw hwM hc hs hl hu h1 h2 sure9_any
      · exact splitParts.out a b n m cp cq L M c s l u w hr ha hL hM h hw (.inr (by simpa using h2)) sure9_any
    · exact splitParts.out a b n m cp cq L M c s l u w hr ha hL hM h hw (.inl (by simpa using h1)) sure9_any
  · exact splitParts.long a b n m cp cq c s l u w hr (by omega) hcp hcm hcq hcqm
end Go.Proofs.YtanoakebbfidiaaDoor
