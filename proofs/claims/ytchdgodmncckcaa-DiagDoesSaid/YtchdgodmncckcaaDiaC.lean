/-
  LAYER 18: package diag's contracts, as one structure over the predicate of a state ('DS w p F D': the state at p stands as D; F: the blocks that it may change).
-/
import Derived.Test.YtchdgodmncckcaaDiaR
namespace Go.Proofs.Ytchdgodmncckcaa
open Go.RowKit
set_option linter.unusedVariables false

structure DiagC (DS : World → Nat → (Nat → Prop) → Dia → Prop) : Prop where
  keep : ∀ {F G : Nat → Prop} {w w' : World} {p : Nat} {D : Dia}, DS w p F D → Keep G w w' → (∀ i, F i → ¬ G i) → DS w' p F D
  lt : ∀ {F : Nat → Prop} {w : World} {p : Nat} {D : Dia}, DS w p F D → ∀ i, F i → i < w.heap.size
  bd : ∀ {F : Nat → Prop} {w : World} {p : Nat} {D : Dia}, DS w p F D → DiaW D
  new : ∀ (w : World), Calls Try.prog 6 #[] w fun e w' => ∃ p F, e = .returned (.pointer (some ⟨p, 0, none⟩)) ∧ Ext w w' ∧ DS w' p F newD ∧ Above w F
  does : ∀ (p : Nat) (F : Nat → Prop) (D : Dia) (a : Option Addr) (n c : Nat) (f : Nat → Int) (w : World), DS w p F D → Holds .u8 w a n f → OffN F a n → n ≤ 600 → n ≤ c → c ≤ maxLen → (∀ i, i < n → 0 ≤ f i ∧ f i < 256) →
    Calls Try.prog 8 #[.pointer (some ⟨p, 0, none⟩), .slice a n c] w fun e w' => ∃ b q G, e = .returned (.tuple #[.slice b (dgM n f) q, .int .i64 (dgW n f), .int .i64 (dgE n f)]) ∧ HoldsG (Value.int .u8) w' b (dgM n f) (dgB D f) ∧ OffN G b (dgM n f) ∧ Keep F w w' ∧ DS w' p G (dgD D n f) ∧ Grows F G w
  doNil : ∀ (w : World), Calls Try.prog 8 #[.pointer none, .slice none 0 0] w fun e w' => ∃ b m q, e = .returned (.tuple #[.slice b m q, .int .i64 0, .int .i64 11]) ∧ Ext w w'
  count : ∀ (p : Nat) (F : Nat → Prop) (D : Dia) (i : Int) (w : World), DS w p F D → (Lit.int .i64 i).wf = true → Calls Try.prog 11 #[.pointer (some ⟨p, 0, none⟩), .int .i64 i] w fun e w' => ∃ G, e = .returned (.int .i64 (cntE i)) ∧ Keep F w w' ∧ DS w' p G (cntD D i) ∧ Grows F G w
  countNil : ∀ (w : World), Calls Try.prog 11 #[.pointer none, .int .i64 0] w fun e w' => e = .returned (.int .i64 11) ∧ Ext w w'
  all : ∀ (p : Nat) (F : Nat → Prop) (D : Dia) (w : World), DS w p F D → Calls Try.prog 16 #[.pointer (some ⟨p, 0, none⟩)] w fun e w' => ∃ b q, e = .returned (.slice b 8 q) ∧ HoldsG (Value.int .u16) w' b 8 D.C ∧ Ext w w'
  listening : ∀ (p : Nat) (F : Nat → Prop) (D : Dia) (w : World), DS w p F D → Calls Try.prog 17 #[.pointer (some ⟨p, 0, none⟩)] w fun e w' => e = .returned (.bool D.li) ∧ Ext w w'
  listeningNil : ∀ (w : World), Calls Try.prog 17 #[.pointer none] w fun e w' => e = .returned (.bool false) ∧ Ext w w'
  register : ∀ (p : Nat) (F : Nat → Prop) (D : Dia) (w : World), DS w p F D → Calls Try.prog 18 #[.pointer (some ⟨p, 0, none⟩)] w fun e w' => e = .returned (.int .u16 D.reg) ∧ Ext w w'
  setreg : ∀ (p : Nat) (F : Nat → Prop) (D : Dia) (v : Int) (w : World), DS w p F D → 0 ≤ v → v < 65536 → Calls Try.prog 12 #[.pointer (some ⟨p, 0, none⟩), .int .u16 v] w fun e w' => ∃ G, e = .returned (.tuple #[]) ∧ Keep F w w' ∧ DS w' p G { D with reg := v } ∧ Grows F G w
  delim : ∀ (p : Nat) (F : Nat → Prop) (D : Dia) (w : World), DS w p F D → Calls Try.prog 19 #[.pointer (some ⟨p, 0, none⟩)] w fun e w' => e = .returned (.int .u8 D.de) ∧ Ext w w'
  clone : ∀ (p : Nat) (F : Nat → Prop) (D : Dia) (w : World), DS w p F D → Calls Try.prog 13 #[.pointer (some ⟨p, 0, none⟩)] w fun e w' => ∃ p' F', e = .returned (.pointer (some ⟨p', 0, none⟩)) ∧ Ext w w' ∧ DS w' p' F' D ∧ Above w F'
variable {DS : World → Nat → (Nat → Prop) → Dia → Prop}
theorem DiagC.ext (K : DiagC DS) {F : Nat → Prop} {w w' : World} {p : Nat} {D : Dia} (h : DS w p F D) (x : Ext w w') : DS w' p F D := K.keep h (.of_ext x) (G := fun _ => False) (fun _ _ h => h)
end Go.Proofs.Ytchdgodmncckcaa
