/-
  LAYER 21: package ident's contracts, as one structure; the stream of answers, plain.
-/
import Derived.Test.YthdkhdbabohohaaIdeQ
import Derived.Test.YthdkhdbabohohaaIdeT
namespace Go.Proofs.Ythdkhdbabohohaa
open Go.RowKit
set_option linter.unusedVariables false

def wrE (P : Prt) : Int := if rightP P = true then 0 else 11
def wrK (P : Prt) : Nat := if rightP P = true then 6 + lenO P.L else 0
def rdI (l : List Int) : Int := if (readP l).isSome = true then 0 else 14
/-- How many answers tell the objects. -/
def strN : Nat → List Ob → Nat
  | 0, _ => 0
  | k + 1, F => 1 + (if fitF 6 F < F.length then strN k (F.drop (fitF 6 F)) else 0)
def allN (L : List Ob) (s : Int) : Nat := if rightO L = true ∧ 1 ≤ s ∧ s ≤ 3 then strN L.length (ofO s L) else 0
def allL (L : List Ob) (s : Int) : List Ob := if rightO L = true ∧ 1 ≤ s ∧ s ≤ 3 then ofO s L else []
structure IdeC : Prop where
  write : ∀ (P : Prt) (a : Option Addr) (n c : Nat) (w : World), PrtAt w P a n c → ObjF P.L → Calls Try.prog 10 #[.agg (prC P a n c)] w fun e w' => ∃ b q, e = .returned (.tuple #[.slice b (wrK P) q, .int .i64 (wrE P)]) ∧ Holds .u8 w' b (wrK P) (ofL (sayP P)) ∧ wrK P ≤ q ∧ q ≤ maxLen ∧ Ext w w'
  readF : ∀ (a : Option Addr) (n c : Nat) (f : Nat → Int) (w : World), Holds .u8 w a n f → n ≤ 600 → n ≤ c → c ≤ maxLen → (∀ i, i < n → 0 ≤ f i ∧ f i < 256) → Calls Try.prog 12 #[.slice a n c] w fun e w' => ∃ P b m q, e = .returned (.tuple #[.agg (prC P b m q), .int .i64 (rdI ((List.range n).map f))]) ∧ PrtAt w' P b m q ∧ ObjF P.L ∧ sameP P ((readP ((List.range n).map f)).getD zeroPr) = true ∧ Fresh w b ∧ (∀ z ∈ P.L, z.n ≠ 0 → Fresh w z.a ∨ Within a z.a) ∧ Ext w w'
  answerF : ∀ (a b : Option Addr) (n c m d : Nat) (L : List Ob) (f : Nat → Int) (w : World), ObjsAt w a n c L → ObjF L → Holds .u8 w b m f → m ≤ 600 → m ≤ d → d ≤ maxLen → (∀ i, i < m → 0 ≤ f i ∧ f i < 256) → Calls Try.prog 16 #[.slice a n c, .slice b m d] w fun e w' => ∃ x q, e = .returned (.tuple #[.slice x (ansK L m f) q, .int .i64 (ansE L m f)]) ∧ Holds .u8 w' x (ansK L m f) (ofL (sayP (ansP L f))) ∧ ansK L m f ≤ q ∧ q ≤ maxLen ∧ Fresh w x ∧ Ext w w'
  all : ∀ (a : Option Addr) (n c : Nat) (L : List Ob) (s : Int) (w : World), ObjsAt w a n c L → ObjF L → (Lit.int .i64 s).wf = true → Calls Try.prog 18 #[.slice a n c, .int .i64 s] w fun e w' => ∃ b m q M, e = .returned (.tuple #[.slice b m q, .int .i64 (allN L s)]) ∧ ObjsAt w' b m q M ∧ sameO M (allL L s) = true ∧ Ext w w'
theorem IdeC.read (K : IdeC) (a : Option Addr) (n c : Nat) (f : Nat → Int) (w : World) (h : Holds .u8 w a n f) (hn : n ≤ 600) (hnc : n ≤ c) (hcm : c ≤ maxLen) (hf : ∀ i, i < n → 0 ≤ f i ∧ f i < 256) : Calls Try.prog 12 #[.slice a n c] w fun e w' => ∃ P b m q, e = .returned (.tuple #[.agg (prC P b m q), .int .i64 (rdI ((List.range n).map f))]) ∧ PrtAt w' P b m q ∧ ObjF P.L ∧ sameP P ((readP ((List.range n).map f)).getD zeroPr) = true ∧ Ext w w' :=
  (K.readF a n c f w h hn hnc hcm hf).mono fun e w' ⟨P, b, m, q, h1, h2, h3, h4, _, _, h5⟩ => ⟨P, b, m, q, h1, h2, h3, h4, h5⟩
theorem IdeC.answer (K : IdeC) (a b : Option Addr) (n c m d : Nat) (L : List Ob) (f : Nat → Int) (w : World) (hL : ObjsAt w a n c L) (fL : ObjF L) (h : Holds .u8 w b m f) (hm : m ≤ 600) (hmd : m ≤ d) (hdm : d ≤ maxLen) (hf : ∀ i, i < m → 0 ≤ f i ∧ f i < 256) : Calls Try.prog 16 #[.slice a n c, .slice b m d] w (AnsP L m f w) :=
  (K.answerF a b n c m d L f w hL fL h hm hmd hdm hf).mono fun e w' ⟨x, q, h1, h2, h3, h4, _, h5⟩ => ⟨x, q, h1, h2, h3, h4, h5⟩
/-- The document's Write and Read, in one form each. -/
theorem rwrite21_any (P : Prt) (a : Option Addr) (n c : Nat) (w : World) (h : PrtAt w P a n c) (f : ObjF P.L) :
    Calls Try.prog 11 #[.agg (prC P a n c)] w fun e w' => ∃ b q, e = .returned (.tuple #[.slice b (wrK P) q, .bool (rightP P)]) ∧ Holds .u8 w' b (wrK P) (ofL (sayP P)) ∧ Ext w w' := by
  cases hr : rightP P with
  | true =>
    have hk : wrK P = 6 + lenO P.L := by unfold wrK; rw [hr]; rfl
    rw [hk]
    exact (rwrite21_yes P a n c w h hr).mono fun e w' ⟨b, q, h1, h2, _, _, _, h3⟩ => ⟨b, q, h1, h2, h3⟩
  | false =>
    have hk : wrK P = 0 := by unfold wrK; rw [hr]; rfl
    rw [hk]
    exact (rwrite21_no P a n c w h f hr).mono fun e w' hh => ⟨none, 0, hh.1, .inl rfl, hh.2⟩
theorem rread21_any (a : Option Addr) (n c : Nat) (f : Nat → Int) (w : World) (ha : Holds .u8 w a n f) (hn : n ≤ 600) (hnc : n ≤ c) (hcm : c ≤ maxLen) (hf : ∀ i, i < n → 0 ≤ f i ∧ f i < 256) :
    Calls Try.prog 13 #[.slice a n c] w (ReaP ((List.range n).map f) w) := by
  by_cases h6 : n < 6
  · exact rread21_short a n c f w ha hn hf (.inl h6)
  · by_cases h2 : f 2 < 128
    · exact rread21_short a n c f w ha hn hf (.inr h2)
    · exact rread21_long a n c f w ha hn hnc hcm hf (by omega) (by omega)
end Go.Proofs.Ythdkhdbabohohaa
