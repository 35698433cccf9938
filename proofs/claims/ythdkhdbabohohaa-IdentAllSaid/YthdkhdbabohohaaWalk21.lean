/-
  THE LAWS OF LAYER 21: the walks for whatever comes in, at the landed package.
-/
import Derived.Test.YthdkhdbabohohaaIdeI
import Derived.Test.YthdkhdbabohohaaLaw21F
import Derived.Test.YthdkhdbabohohaaPrtIn
import Derived.Test.YthdkhdbabohohaaObjIn
namespace Go.Proofs.Ythdkhdbabohohaa
open Go.RowKit
set_option linter.unusedVariables false
theorem identAnswers.walk (a : Option Addr) (n c : Nat) (L : List Ob) (b : Option Addr) (m d : Nat) (f : Nat → Int) (w : World) (hL : ObjsAt w a n c L) (hn : n ≤ 1000000000000000) (hb : Holds .u8 w b m f) (hmd : m ≤ d) (hdr : d * 1 ≤ 140737488351232) (hwf : ∀ i, i < m → (Lit.int .u8 (f i)).wf = true) :
    Calls Try.prog 4 #[.slice a n c, .slice b m d] w fun e w' => e = .returned (.bool true) ∧ Ext w w' := identAnswers.walk0 objC ideC a n c L b m d f w hL hn hb hmd hdr hwf
theorem identParts.walk (P : Prt) (a : Option Addr) (n c : Nat) (b : Option Addr) (m d : Nat) (f : Nat → Int) (w : World) (hP : PrtAt w P a n c) (hn : n ≤ 1000000000000000) (hb : Holds .u8 w b m f) (hmd : m ≤ d) (hdr : d * 1 ≤ 140737488351232) (hwf : ∀ i, i < m → (Lit.int .u8 (f i)).wf = true) :
    Calls Try.prog 3 #[.agg (prC P a n c), .slice b m d] w fun e w' => e = .returned (.bool true) ∧ Ext w w' := identParts.walk0 objC ideC P a n c b m d f w hP hn hb hmd hdr hwf
theorem identBack.walk (P : Prt) (a : Option Addr) (n c : Nat) (b : Option Addr) (m d : Nat) (f : Nat → Int) (w : World) (hP : PrtAt w P a n c) (hn : n ≤ 1000000000000000) (hb : Holds .u8 w b m f) (hmd : m ≤ d) (hdr : d * 1 ≤ 140737488351232) (hwf : ∀ i, i < m → (Lit.int .u8 (f i)).wf = true) :
    Calls Try.prog 5 #[.agg (prC P a n c), .slice b m d] w fun e w' => e = .returned (.bool true) ∧ Ext w w' := identBack.walk0 objC ideC P a n c b m d f w hP hn hb hmd hdr hwf
theorem identAll.walk (a : Option Addr) (n c : Nat) (L : List Ob) (s : Int) (w : World) (hL : ObjsAt w a n c L) (hn : n ≤ 1000000000000000) (ws : (Lit.int .i64 s).wf = true) :
    Calls Try.prog 6 #[.slice a n c, .int .i64 s] w fun e w' => e = .returned (.bool true) ∧ Ext w w' := identAll.walk0 objC ideC a n c L s w hL hn ws
theorem identOne.walk (a : Option Addr) (n c : Nat) (L : List Ob) (J S : Int) (w : World) (hL : ObjsAt w a n c L) (hn : n ≤ 1000000000000000) (wj : (Lit.int .u8 J).wf = true) (wS : (Lit.int .u8 S).wf = true) :
    Calls Try.prog 7 #[.slice a n c, .int .u8 J, .int .u8 S] w fun e w' => e = .returned (.bool true) ∧ Ext w w' := identOne.walk0 objC ideC a n c L J S w hL hn wj wS
end Go.Proofs.Ythdkhdbabohohaa
