/-
  LAYER 21, PLAIN: a part of what is told of a device's objects: whether it may be, how it is said, which part bytes say.
-/
import Derived.Test.YtkgakeknnfnjdaaObjC
import Derived.Test.YtkgakeknnfnjdaaSame
namespace Go.Proofs.Ytkgakeknnfnjdaa
open Go.RowKit
set_option linter.unusedVariables false

structure Prt where
  co : Int
  lv : Int
  mo : Bool
  nx : Int
  L : List Ob
def zeroPr : Prt := ⟨0, 0, false, 0, []⟩
def prC (P : Prt) (a : Option Addr) (n c : Nat) : Array Value := #[.int .i64 P.co, .int .i64 P.lv, .bool P.mo, .int .i64 P.nx, .slice a n c]
structure PrtAt (w : World) (P : Prt) (a : Option Addr) (n c : Nat) : Prop where
  o : ObjsAt w a n c P.L
  wc : (Lit.int .i64 P.co).wf = true
  wl : (Lit.int .i64 P.lv).wf = true
  wn : (Lit.int .i64 P.nx).wf = true
theorem PrtAt.ext {w w' : World} {P : Prt} {a : Option Addr} {n c : Nat} (h : PrtAt w P a n c) (x : Ext w w') : PrtAt w' P a n c := ⟨h.o.ext x, h.wc, h.wl, h.wn⟩
/-- How many bytes say the objects. -/
def lenO : List Ob → Nat
  | [] => 0
  | z :: L => 2 + z.n + lenO L
def okD (z : Ob) : Bool := decide (0 ≤ z.id ∧ z.id ≤ 255 ∧ z.n ≤ 240)
def allD : List Ob → Bool
  | [] => true
  | z :: L => okD z && allD L
def nxB (P : Prt) : Bool := if P.mo = true then decide (0 ≤ P.nx ∧ P.nx ≤ 255) else decide (P.nx = 0)
def rightP (P : Prt) : Bool := allD P.L && (decide (1 ≤ P.co ∧ P.co ≤ 4 ∧ 1 ≤ P.lv ∧ P.lv ≤ 3) && (nxB P && decide (P.L.length ≤ 255 ∧ 6 + lenO P.L ≤ 252)))
def sayO (z : Ob) : List Int := z.id :: (z.n : Int) :: (List.range z.n).map z.f
def headP (P : Prt) : List Int := [14, P.co, 128 + P.lv, if P.mo = true then 255 else 0, P.nx, P.L.length]
def sayP (P : Prt) : List Int := headP P ++ P.L.flatMap sayO
theorem sayO_len (z : Ob) : (sayO z).length = 2 + z.n := by unfold sayO; simp; omega
theorem sayL_len : ∀ L : List Ob, (L.flatMap sayO).length = lenO L
  | [] => rfl
  | z :: L => by rw [List.flatMap_cons, List.length_append, sayO_len, sayL_len L]; rfl
theorem sayP_len (P : Prt) : (sayP P).length = 6 + lenO P.L := by unfold sayP; rw [List.length_append, sayL_len]; rfl
theorem lenO_append : ∀ L M : List Ob, lenO (L ++ M) = lenO L + lenO M
  | [], M => by simp [lenO]
  | z :: L, M => by show 2 + z.n + lenO (L ++ M) = 2 + z.n + lenO L + lenO M; rw [lenO_append L M]; omega
theorem lenO_sum : ∀ L : List Ob, lenO L = 2 * L.length + sumO L
  | [] => rfl
  | z :: L => by show 2 + z.n + lenO L = 2 * (L.length + 1) + (z.n + sumO L); rw [lenO_sum L]; omega
/-- The objects that bytes say; where they lie does not matter. -/
def parI : Nat → List Int → List Ob
  | k + 1, i :: m :: r => if m.toNat ≤ r.length then ⟨i, none, m.toNat, m.toNat, ofL (r.take m.toNat)⟩ :: parI k (r.drop m.toNat) else []
  | _, _ => []
def partP (l : List Int) : Prt := ⟨ofL l 1, ofL l 2 - 128, decide (ofL l 3 = 255), ofL l 4, parI l.length (l.drop 6)⟩
def readP (l : List Int) : Option Prt := if 6 ≤ l.length ∧ 128 ≤ ofL l 2 ∧ rightP (partP l) = true ∧ sayP (partP l) = l then some (partP l) else none
/-- The same parts. -/
def sameP (P Q : Prt) : Bool := decide (P.co = Q.co) && (decide (P.lv = Q.lv) && (decide (P.mo = Q.mo) && (decide (P.nx = Q.nx) && sameO P.L Q.L)))
theorem sameP_iff {P Q : Prt} : sameP P Q = true ↔ P.co = Q.co ∧ P.lv = Q.lv ∧ P.mo = Q.mo ∧ P.nx = Q.nx ∧ sameO P.L Q.L = true := by
  unfold sameP; rw [Bool.and_eq_true, Bool.and_eq_true, Bool.and_eq_true, Bool.and_eq_true, decide_eq_true_iff, decide_eq_true_iff, decide_eq_true_iff, decide_eq_true_iff]
theorem sameP_refl (P : Prt) : sameP P P = true := sameP_iff.2 ⟨rfl, rfl, rfl, rfl, sameO_refl _⟩
theorem sameP_symm {P Q : Prt} (h : sameP P Q = true) : sameP Q P = true := by
  obtain ⟨h1, h2, h3, h4, h5⟩ := sameP_iff.1 h
  exact sameP_iff.2 ⟨h1.symm, h2.symm, h3.symm, h4.symm, sameO_symm h5⟩
theorem sameP_trans {P Q R : Prt} (h : sameP P Q = true) (k : sameP Q R = true) : sameP P R = true := by
  obtain ⟨h1, h2, h3, h4, h5⟩ := sameP_iff.1 h
  obtain ⟨k1, k2, k3, k4, k5⟩ := sameP_iff.1 k
  exact sameP_iff.2 ⟨h1.trans k1, h2.trans k2, h3.trans k3, h4.trans k4, sameO_trans h5 k5⟩
theorem sayO_same {x y : Ob} (h : sameZ x y = true) : sayO x = sayO y := by
  obtain ⟨h1, h2, h3⟩ := sameZ_iff.1 h
  unfold sayO
  rw [h1, ← h2]
  congr 2
  exact List.map_congr_left fun i hi => h3 i (List.mem_range.1 hi)
theorem okD_same {x y : Ob} (h : sameZ x y = true) : okD x = okD y := by
  obtain ⟨h1, h2, h3⟩ := sameZ_iff.1 h
  unfold okD; rw [h1, h2]
theorem says_same : ∀ {L M : List Ob}, sameO L M = true → L.flatMap sayO = M.flatMap sayO ∧ allD L = allD M ∧ lenO L = lenO M
  | [], [], _ => ⟨rfl, rfl, rfl⟩
  | [], _ :: _, h => by simp [sameO] at h
  | _ :: _, [], h => by simp [sameO] at h
  | x :: L, y :: M, h => by
    unfold sameO at h
    rw [Bool.and_eq_true] at h
    obtain ⟨e1, e2, e3⟩ := says_same h.2
    refine ⟨by rw [List.flatMap_cons, List.flatMap_cons, sayO_same h.1, e1], ?_, ?_⟩
    · show (okD x && allD L) = (okD y && allD M); rw [okD_same h.1, e2]
    · show 2 + x.n + lenO L = 2 + y.n + lenO M; rw [(sameZ_iff.1 h.1).2.1, e3]
theorem right_same {P Q : Prt} (h : sameP P Q = true) : rightP P = rightP Q := by
  obtain ⟨h1, h2, h3, h4, h5⟩ := sameP_iff.1 h
  obtain ⟨e1, e2, e3⟩ := says_same h5
  unfold rightP nxB; rw [h1, h2, h3, h4, e2, e3, sameO_len h5]
theorem say_same {P Q : Prt} (h : sameP P Q = true) : sayP P = sayP Q := by
  obtain ⟨h1, h2, h3, h4, h5⟩ := sameP_iff.1 h
  unfold sayP headP; rw [h1, h2, h3, h4, (says_same h5).1, sameO_len h5]
theorem rightP_iff {P : Prt} : rightP P = true ↔ allD P.L = true ∧ (1 ≤ P.co ∧ P.co ≤ 4 ∧ 1 ≤ P.lv ∧ P.lv ≤ 3) ∧ nxB P = true ∧ (P.L.length ≤ 255 ∧ 6 + lenO P.L ≤ 252) := by
  unfold rightP; rw [Bool.and_eq_true, Bool.and_eq_true, Bool.and_eq_true, decide_eq_true_iff, decide_eq_true_iff]
theorem nxB_bd {P : Prt} (h : nxB P = true) : 0 ≤ P.nx ∧ P.nx ≤ 255 := by
  unfold nxB at h
  split at h
  · exact of_decide_eq_true h
  · have := of_decide_eq_true h; omega
theorem allD_iff : ∀ {L : List Ob}, allD L = true ↔ ∀ z ∈ L, okD z = true
  | [] => by simp [allD]
  | x :: L => by
    show (okD x && allD L) = true ↔ _
    rw [Bool.and_eq_true, allD_iff (L := L)]
    simp
theorem okD_iff {z : Ob} : okD z = true ↔ 0 ≤ z.id ∧ z.id ≤ 255 ∧ z.n ≤ 240 := by unfold okD; rw [decide_eq_true_iff]
theorem ofL_append_left {l m : List Int} {i : Nat} (h : i < l.length) : ofL (l ++ m) i = ofL l i := by unfold ofL; simp [List.getD_eq_getElem?_getD, List.getElem?_append_left h]
theorem ofL_range (n : Nat) (f : Nat → Int) : ∀ i, i < n → ofL ((List.range n).map f) i = f i := fun i hi => by unfold ofL; simp [List.getD_eq_getElem?_getD, hi]
/-- What is said is understood: the objects. -/
theorem par_say : ∀ (k : Nat) (L : List Ob), allD L = true → L.length ≤ k → sameO (parI k (L.flatMap sayO)) L = true
  | 0, [], _, _ => rfl
  | 0, _ :: _, _, h => by simp at h
  | k + 1, [], _, _ => rfl
  | k + 1, z :: L, hd, hk => by
    have hh : okD z = true ∧ allD L = true := by have h' : (okD z && allD L) = true := hd; rw [Bool.and_eq_true] at h'; exact h'
    have e : (z :: L).flatMap sayO = z.id :: (z.n : Int) :: ((List.range z.n).map z.f ++ L.flatMap sayO) := by rw [List.flatMap_cons]; rfl
    rw [e]
    have hl : ((List.range z.n).map z.f).length = z.n := by simp
    show sameO (if (z.n : Int).toNat ≤ ((List.range z.n).map z.f ++ L.flatMap sayO).length then _ else _) (z :: L) = true
    rw [Int.toNat_natCast, if_pos (by rw [List.length_append, hl]; omega)]
    have e1 : ((List.range z.n).map z.f ++ L.flatMap sayO).take z.n = (List.range z.n).map z.f := by rw [List.take_append_of_le_length (by rw [hl]; omega), List.take_of_length_le (by rw [hl]; omega)]
    have e2 : ((List.range z.n).map z.f ++ L.flatMap sayO).drop z.n = L.flatMap sayO := by
      have := List.drop_left (l₁ := (List.range z.n).map z.f) (l₂ := L.flatMap sayO)
      rw [hl] at this; exact this
    rw [e1, e2]
    show (sameZ _ z && sameO (parI k (L.flatMap sayO)) L) = true
    rw [par_say k L hh.2 (by simpa using hk), Bool.and_true]
    exact sameZ_iff.2 ⟨rfl, rfl, fun i hi => ofL_range z.n z.f i hi⟩
/-- What is said is understood. -/
theorem read_say {P : Prt} (h : rightP P = true) : ∃ Q, readP (sayP P) = some Q ∧ sameP Q P = true := by
  obtain ⟨h1, ⟨h2, h3, h4, h5⟩, h6, h7, h8⟩ := rightP_iff.1 h
  have e1 : ofL (sayP P) 1 = P.co := rfl
  have e2 : ofL (sayP P) 2 = 128 + P.lv := rfl
  have e3 : ofL (sayP P) 3 = if P.mo = true then 255 else 0 := rfl
  have e4 : ofL (sayP P) 4 = P.nx := rfl
  have e5 : (sayP P).drop 6 = P.L.flatMap sayO := rfl
  have hs : sameP (partP (sayP P)) P = true := by
    refine sameP_iff.2 ⟨e1, ?_, ?_, e4, ?_⟩
    · show ofL (sayP P) 2 - 128 = P.lv; rw [e2]; omega
    · show decide (ofL (sayP P) 3 = 255) = P.mo
      rw [e3]
      cases P.mo <;> rfl
    · show sameO (parI (sayP P).length ((sayP P).drop 6)) P.L = true
      rw [e5]
      exact par_say _ _ h1 (by rw [sayP_len, lenO_sum]; omega)
  refine ⟨_, ?_, hs⟩
  unfold readP
  rw [if_pos ⟨by rw [sayP_len]; omega, by rw [e2]; omega, by rw [right_same hs]; exact h, by rw [say_same hs]⟩]
theorem readP_some {l : List Int} {P : Prt} (h : readP l = some P) : rightP P = true ∧ sayP P = l := by
  unfold readP at h
  split at h
  · rename_i hc
    cases h
    exact hc.2.2
  · cases h
end Go.Proofs.Ytkgakeknnfnjdaa
