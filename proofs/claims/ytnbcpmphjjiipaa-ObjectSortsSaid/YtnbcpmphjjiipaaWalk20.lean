/-
  THE LAWS OF LAYER 20: the walks for whatever comes in, at the landed package.
-/
import Derived.Test.YtnbcpmphjjiipaaObjG
import Derived.Test.YtnbcpmphjjiipaaLaw20D
import Derived.Test.YtnbcpmphjjiipaaObjIn
namespace Go.Proofs.Ytnbcpmphjjiipaa
open Go.RowKit
set_option linter.unusedVariables false
theorem objectTells.walk (a : Option Addr) (n c : Nat) (L : List Ob) (b : Option Addr) (m d : Nat) (M : List Ob) (s id : Int) (w : World) (hL : ObjsAt w a n c L) (hn : n ≤ 1000000000000000) (hM : ObjsAt w b m d M) (hm : m ≤ 1000000000000000) (ws : (Lit.int .i64 s).wf = true) (wi : (Lit.int .i64 id).wf = true) :
    Calls Try.prog 3 #[.slice a n c, .slice b m d, .agg #[.int .i64 s, .int .i64 id]] w fun e w' => e = .returned (.bool true) ∧ Ext w w' := objectTells.walk0 objC a n c L b m d M s id w hL hn hM hm ws wi
theorem objectSorts.walk (a : Option Addr) (n c : Nat) (L : List Ob) (J : Int) (w : World) (hL : ObjsAt w a n c L) (hn : n ≤ 1000000000000000) (wj : (Lit.int .u8 J).wf = true) :
    Calls Try.prog 4 #[.slice a n c, .int .u8 J] w fun e w' => e = .returned (.bool true) ∧ Ext w w' := objectSorts.walk0 objC a n c L J w hL hn wj
end Go.Proofs.Ytnbcpmphjjiipaa
