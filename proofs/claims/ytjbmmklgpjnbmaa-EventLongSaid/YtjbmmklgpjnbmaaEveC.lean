/-
  LAYER 19: package event's contracts, as one structure over the predicate of a log ('ES w p F E': the log at p stands as E; F: the blocks that it may change).
-/
import Derived.Test.YtjbmmklgpjnbmaaEveR
namespace Go.Proofs.Ytjbmmklgpjnbmaa
open Go.RowKit
set_option linter.unusedVariables false

structure EventC (ES : World → Nat → (Nat → Prop) → Eve → Prop) : Prop where
  keep : ∀ {F G : Nat → Prop} {w w' : World} {p : Nat} {E : Eve}, ES w p F E → Keep G w w' → (∀ i, F i → ¬ G i) → ES w' p F E
  lt : ∀ {F : Nat → Prop} {w : World} {p : Nat} {E : Eve}, ES w p F E → ∀ i, F i → i < w.heap.size
  bd : ∀ {F : Nat → Prop} {w : World} {p : Nat} {E : Eve}, ES w p F E → EveW E
  new : ∀ (w : World), Calls Try.prog 6 #[] w fun e w' => ∃ p F, e = .returned (.pointer (some ⟨p, 0, none⟩)) ∧ Ext w w' ∧ ES w' p F newE ∧ Above w F
  heard : ∀ (p : Nat) (F : Nat → Prop) (E : Eve) (s o l a : Bool) (w : World), ES w p F E → Calls Try.prog 7 #[.pointer (some ⟨p, 0, none⟩), .bool s, .bool o, .bool l, .bool a] w fun e w' => ∃ G, e = .returned (.tuple #[]) ∧ Keep F w w' ∧ ES w' p G (putE E (heardB s o l a)) ∧ Grows F G w
  said : ∀ (p : Nat) (F : Nat → Prop) (E : Eve) (c : Int) (l : Bool) (w : World), ES w p F E → (Lit.int .i64 c).wf = true → Calls Try.prog 9 #[.pointer (some ⟨p, 0, none⟩), .int .i64 c, .bool l] w fun e w' => ∃ G, e = .returned (.tuple #[]) ∧ Keep F w w' ∧ ES w' p G (putE E (saidB c l)) ∧ Grows F G w
  entered : ∀ (p : Nat) (F : Nat → Prop) (E : Eve) (w : World), ES w p F E → Calls Try.prog 11 #[.pointer (some ⟨p, 0, none⟩)] w fun e w' => ∃ G, e = .returned (.tuple #[]) ∧ Keep F w w' ∧ ES w' p G (putE E 4) ∧ Grows F G w
  restarted : ∀ (p : Nat) (F : Nat → Prop) (E : Eve) (b : Bool) (w : World), ES w p F E → Calls Try.prog 13 #[.pointer (some ⟨p, 0, none⟩), .bool b] w fun e w' => ∃ G, e = .returned (.tuple #[]) ∧ Keep F w w' ∧ ES w' p G (restE E b) ∧ Grows F G w
  done : ∀ (p : Nat) (F : Nat → Prop) (E : Eve) (w : World), ES w p F E → Calls Try.prog 15 #[.pointer (some ⟨p, 0, none⟩)] w fun e w' => ∃ G, e = .returned (.tuple #[]) ∧ Keep F w w' ∧ ES w' p G (doneE E) ∧ Grows F G w
  doneNil : ∀ (w : World), Calls Try.prog 15 #[.pointer none] w fun e w' => e = .returned (.tuple #[]) ∧ Ext w w'
  count : ∀ (p : Nat) (F : Nat → Prop) (E : Eve) (w : World), ES w p F E → Calls Try.prog 17 #[.pointer (some ⟨p, 0, none⟩)] w fun e w' => e = .returned (.int .u16 E.n) ∧ Ext w w'
  countNil : ∀ (w : World), Calls Try.prog 17 #[.pointer none] w fun e w' => e = .returned (.int .u16 0) ∧ Ext w w'
  list : ∀ (p : Nat) (F : Nat → Prop) (E : Eve) (w : World), ES w p F E → Calls Try.prog 19 #[.pointer (some ⟨p, 0, none⟩)] w fun e w' => ∃ b q, e = .returned (.slice b E.L.length q) ∧ HoldsG (Value.int .u8) w' b E.L.length (ofL E.L) ∧ E.L.length ≤ q ∧ q ≤ maxLen ∧ Ext w w'
  listNil : ∀ (w : World), Calls Try.prog 19 #[.pointer none] w fun e w' => ∃ b q, e = .returned (.slice b 0 q) ∧ Ext w w'
  short : ∀ (p : Nat) (F : Nat → Prop) (E : Eve) (w : World), ES w p F E → Calls Try.prog 20 #[.pointer (some ⟨p, 0, none⟩)] w fun e w' => ∃ b q, e = .returned (.slice b 4 q) ∧ HoldsG (Value.int .u8) w' b 4 (shF E) ∧ 4 ≤ q ∧ q ≤ maxLen ∧ Ext w w'
  long : ∀ (p : Nat) (F : Nat → Prop) (E : Eve) (m : Int) (w : World), ES w p F E → 0 ≤ m → m < 65536 → Calls Try.prog 22 #[.pointer (some ⟨p, 0, none⟩), .int .u16 m] w fun e w' => ∃ b q, e = .returned (.slice b (lgN E) q) ∧ HoldsG (Value.int .u8) w' b (lgN E) (lgF E m) ∧ lgN E ≤ q ∧ q ≤ maxLen ∧ Ext w w'
  clone : ∀ (p : Nat) (F : Nat → Prop) (E : Eve) (w : World), ES w p F E → Calls Try.prog 16 #[.pointer (some ⟨p, 0, none⟩)] w fun e w' => ∃ p' F', e = .returned (.pointer (some ⟨p', 0, none⟩)) ∧ Ext w w' ∧ ES w' p' F' E ∧ Above w F'
variable {ES : World → Nat → (Nat → Prop) → Eve → Prop}
theorem EventC.ext (K : EventC ES) {F : Nat → Prop} {w w' : World} {p : Nat} {E : Eve} (h : ES w p F E) (x : Ext w w') : ES w' p F E := K.keep h (.of_ext x) (G := fun _ => False) (fun _ _ h => h)
end Go.Proofs.Ytjbmmklgpjnbmaa
