/-
  CONTRACTS: package object (layer 20): two lists (slices.EqualFunc, Same), where one is (slices.IndexFunc).
-/
import Derived.Test.YthdkhdbabohohaaObjD
namespace Go.Proofs.Ythdkhdbabohohaa
open Go.RowKit
set_option linter.unusedVariables false
set_option maxRecDepth 100000

theorem same1_any (x y : Ob) (w : World) (hx : ObjAt w x) (hy : ObjAt w y) : Calls Try.prog 47 #[.agg (obC x), .agg (obC y)] w fun e w' => e = .returned (.bool (sameZ x y)) ∧ Ext w w' := by
  obtain ⟨xi, xa, xn, xc, xf⟩ := x
  obtain ⟨yi, ya, yn, yc, yf⟩ := y
  have HE := Lib.hid (fun W (z : Ext w W) => equal_any xa ya xn yn xc yc xf yf W (hx.h.ext z) (hy.h.ext z) hx.b hy.b)
  unfold sameZ obC
  simp only
  clear hx hy
  have x2 := (Ext.alloc w (.cells #[.int .i64 xi, .slice xa xn xc] 49)).alloc' (.cells #[.int .i64 yi, .slice ya yn yc] 49)
  by_cases h : xi = yi
  · subst h
    rw [show (decide (xi = xi) && eqB xn yn xf yf) = eqB xn yn xf yf by simp]
    generalize eqB xn yn xf yf = B at HE ⊢
    have HX := Lib.hid x2
    clear x2
    go_enter Try.func47, Try.ntmps47
    go_wp2_with fail
    refine (HE.out _ HX.out).mono ?_; rintro e w3 ⟨rfl, rfl⟩
    go_wp2
    go_ret
    exact ⟨rfl, HX.out⟩
  · rw [show (decide (xi = yi) && eqB xn yn xf yf) = false by simp [h]]
    have b0 : (xi == yi) = false := by simpa using h
    clear h HE
    go_enter Try.func47, Try.ntmps47
    go_wp2
    go_ret
    exact ⟨rfl, x2⟩
theorem sameO_both {L M : List Ob} {k : Nat} (hk : k < L.length) (hm : k < M.length) : sameO (L.drop k) (M.drop k) = (sameZ L[k] M[k] && sameO (L.drop (k + 1)) (M.drop (k + 1))) := by
  rw [List.drop_eq_getElem_cons hk, List.drop_eq_getElem_cons hm]; rfl
set_option maxHeartbeats 4000000 in
theorem equalfunc_any (a b : Option Addr) (n c d : Nat) (L M : List Ob) (w : World) (hL : ObjsAt w a n c L) (hM : ObjsAt w b n d M) (hn : n ≤ 1000000) :
    Calls Try.prog 46 #[.slice a n c, .slice b n d, .func (.func 47) #[] #[]] w fun e w' => e = .returned (.bool (sameO L M)) ∧ Ext w w' := by
  have HL := Lib.hid hL; have HM := Lib.hid hM
  have HN := Lib.hid (And.intro hL.len hM.len)
  obtain ⟨R, hR⟩ : ∃ R, R = sameO L M := ⟨_, rfl⟩
  rw [← hR]
  have HR := Lib.hid hR
  clear hL hM hR
  go_enter Try.func46, Try.ntmps46
  go_wp2
  go_loopw [17] (fun iv wr => ∃ i : Nat, i ≤ n ∧ iv = .int .i64 i ∧ Ext w wr ∧ R = sameO (L.drop i) (M.drop i)) (fun iv _ => n - (intOf iv).toNat)
  case atStart => exact ⟨0, Nat.zero_le _, rfl, Ext.refl _, HR.out⟩
  case round =>
    obtain ⟨i, hi, rfl, xr, hRi⟩ := hrel
    by_cases hlt : i < n
    · have hiL : i < L.length := by rw [HN.out.1]; exact hlt
      have hiM : i < M.length := by rw [HN.out.2]; exact hlt
      obtain ⟨p, o, rfl, hp, -⟩ := HL.out.h.resolve_left (by intro e; rw [e] at hiL; simp at hiL)
      obtain ⟨p', o', rfl, hp', -⟩ := HM.out.h.resolve_left (by intro e; rw [e] at hiM; simp at hiM)
      obtain ⟨a0, a1⟩ := HL.out.h.ob_at i hiL
      obtain ⟨b0, b1⟩ := HM.out.h.ob_at i hiM
      have ox := (HL.out.each _ (List.getElem_mem hiL)).ext xr
      have oy := (HM.out.each _ (List.getElem_mem hiM)).ext xr
      rw [sameO_both hiL hiM] at hRi
      replace a0 := xr.cell hp a0; replace a1 := xr.cell hp a1; replace b0 := xr.cell hp' b0; replace b1 := xr.cell hp' b1
      have q1 : p < wr.heap.size := Nat.lt_of_lt_of_le hp xr.size
      have q2 : p' < wr.heap.size := Nat.lt_of_lt_of_le hp' xr.size
      obtain ⟨x, hx⟩ : ∃ x, L[i] = x := ⟨_, rfl⟩
      obtain ⟨y, hy⟩ : ∃ y, M[i] = y := ⟨_, rfl⟩
      rw [hx] at a0 a1 ox hRi
      rw [hy] at b0 b1 oy hRi
      have HC := Lib.hid (fun W (z : Ext wr W) => same1_any x y W (ox.ext z) (oy.ext z))
      have hlt' : (i : Int) < n := by omega
      obtain ⟨xi, xa, xn, xc, xf⟩ := x
      obtain ⟨yi, ya, yn, yc, yf⟩ := y
      have HRi := Lib.hid hRi
      unfold obC at HC
      simp only at a0 a1 b0 b1 HC
      have x2 := (Ext.alloc wr (.cells #[.int .i64 xi, .slice xa xn xc] 49)).alloc' (.cells #[.int .i64 yi, .slice ya yn yc] 49)
      have HX := Lib.hid (And.intro xr x2)
      clear ox oy hRi hx hy hp hp' xr x2
      clear hiL hiM
      cases hs : sameZ ⟨xi, xa, xn, xc, xf⟩ ⟨yi, ya, yn, yc, yf⟩ with
      | false =>
        rw [hs] at HC HRi
        clear hs
        go_wp2_with fail
        refine (HC.out _ HX.out.2).mono ?_; rintro e w3 ⟨rfl, x3⟩
        go_wp2
        go_ret
        exact ⟨by rw [HRi.out]; rfl, (HX.out.1.trans HX.out.2).trans x3⟩
      | true =>
        rw [hs] at HC HRi
        clear hs
        go_wp2_with fail
        refine (HC.out _ HX.out.2).mono ?_; rintro e w3 ⟨rfl, x3⟩
        go_wp2
        go_roundw
        case rel => exact ⟨i + 1, by omega, by go_num, (HX.out.1.trans HX.out.2).trans x3, by rw [HRi.out]; rfl⟩
        case measure => simp [intOf]; omega
    · have hin : i = n := by omega
      have HE : Hid (R = true) := Lib.hid (by rw [hRi, List.drop_of_length_le (by rw [HN.out.1]; omega), List.drop_of_length_le (by rw [HN.out.2]; omega)]; rfl)
      clear hRi
      go_wp2
      go_ret
      exact ⟨by rw [HE.out]; rfl, xr⟩
theorem equalfunc_no (a b : Option Addr) (n m c d : Nat) (w : World) (hne : n ≠ m) :
    Calls Try.prog 46 #[.slice a n c, .slice b m d, .func (.func 47) #[] #[]] w fun e w' => e = .returned (.bool false) ∧ w' = w := by
  have b0 : (((n : Int) == (m : Int))) = false := by simp; omega
  have b1 : ¬ (n : Int) = m := by omega
  clear hne
  go_enter Try.func46, Try.ntmps46
  go_wp2
  go_ret
  exact ⟨rfl, rfl⟩
theorem same_any (a b : Option Addr) (n m c d : Nat) (L M : List Ob) (w : World) (hL : ObjsAt w a n c L) (hM : ObjsAt w b m d M) (hn : n ≤ 1000000) :
    Calls Try.prog 23 #[.slice a n c, .slice b m d] w fun e w' => e = .returned (.bool (sameO L M)) ∧ Ext w w' := by
  have HC : Hid (Calls Try.prog 46 #[.slice a n c, .slice b m d, .func (.func 47) #[] #[]] w fun e w' => e = .returned (.bool (sameO L M)) ∧ Ext w w') := Lib.hid (by
    by_cases h : n = m
    · subst h; exact equalfunc_any a b n c d L M w hL hM hn
    · rw [sameO_len_ne (by rw [hL.len, hM.len]; exact h)]
      exact (equalfunc_no a b n m c d w h).mono fun e w' ⟨he, hw⟩ => ⟨he, hw ▸ Ext.refl _⟩)
  clear hL hM hn
  go_enter Try.func23, Try.ntmps23
  go_wp2_with fail
  refine HC.out.mono ?_; rintro e w3 ⟨rfl, x3⟩
  go_wp2
  go_ret
  exact ⟨rfl, x3⟩
/-- Where the first one is that has the ID; -1: none. -/
def idxO (id : Int) : List Ob → Nat → Int
  | [], _ => -1
  | z :: L, k => if z.id = id then (k : Int) else idxO id L (k + 1)
theorem idxO_step {id : Int} {L : List Ob} {k : Nat} (hk : k < L.length) : idxO id (L.drop k) k = if L[k].id = id then (k : Int) else idxO id (L.drop (k + 1)) (k + 1) := by
  rw [List.drop_eq_getElem_cons hk]; rfl
theorem idxO_at (id : Int) : ∀ (L : List Ob) (k : Nat), (idxO id L k = -1 ∧ atO id L = []) ∨ ∃ j, j < L.length ∧ idxO id L k = ((k + j : Nat) : Int) ∧ atO id L = L.drop j ∧ atO id L ≠ []
  | [], k => .inl ⟨rfl, rfl⟩
  | z :: L, k => by
    unfold idxO atO
    by_cases h : z.id = id
    · rw [if_pos h, if_pos h]; exact .inr ⟨0, by simp, rfl, rfl, by simp⟩
    · rw [if_neg h, if_neg h]
      rcases idxO_at id L (k + 1) with e | ⟨j, h1, h2, h3, h4⟩
      · exact .inl e
      · exact .inr ⟨j + 1, by simp; exact h1, by rw [h2]; congr 1; omega, by simpa using h3, h4⟩
set_option maxHeartbeats 2000000 in
theorem index_any (a : Option Addr) (n c : Nat) (L : List Ob) (id : Int) (b1 b2 : Nat) (w : World) (hL : ObjsAt w a n c L) (hn : n ≤ 1000000) (ht : TakesW w b1 b2 (fun z => decide (z.id = id))) :
    Calls Try.prog 56 #[.slice a n c, witV b1 b2] w fun e w' => e = .returned (.int .i64 (idxO id L 0)) ∧ Ext w w' := by
  have HL := Lib.hid hL
  have HN := Lib.hid hL.len
  have HT := Lib.hid ht
  obtain ⟨R, hR⟩ : ∃ R, R = idxO id L 0 := ⟨_, rfl⟩
  rw [← hR]
  have HR := Lib.hid hR
  unfold witV
  clear hL hR ht
  go_enter Try.func56, Try.ntmps56
  go_wp2
  go_loopw [8] (fun iv wr => ∃ i : Nat, i ≤ n ∧ iv = .int .i64 i ∧ Ext w wr ∧ R = idxO id (L.drop i) i) (fun iv _ => n - (intOf iv).toNat)
  case atStart => exact ⟨0, Nat.zero_le _, rfl, Ext.refl _, HR.out⟩
  case round =>
    obtain ⟨i, hi, rfl, xr, hRi⟩ := hrel
    by_cases hlt : i < n
    · have hiL : i < L.length := by rw [HN.out]; exact hlt
      obtain ⟨p, o, rfl, hp, -⟩ := HL.out.h.resolve_left (by intro e; rw [e] at hiL; simp at hiL)
      obtain ⟨a0, a1⟩ := HL.out.h.ob_at i hiL
      have ox := (HL.out.each _ (List.getElem_mem hiL)).wi
      rw [idxO_step hiL] at hRi
      replace a0 := xr.cell hp a0; replace a1 := xr.cell hp a1
      have q1 : p < wr.heap.size := Nat.lt_of_lt_of_le hp xr.size
      obtain ⟨x, hx⟩ : ∃ x, L[i] = x := ⟨_, rfl⟩
      rw [hx] at a0 a1 ox hRi
      have HC := Lib.hid (wit_any b1 b2 _ x wr (HT.out.ext xr) ox)
      have hlt' : (i : Int) < n := by omega
      obtain ⟨xi, xa, xn, xc, xf⟩ := x
      unfold obC at HC
      simp only at a0 a1 HC hRi
      have HRi := Lib.hid hRi
      have HX := Lib.hid xr
      clear ox hRi hx hp xr
      clear hiL
      by_cases hs : xi = id
      · rw [decide_eq_true hs] at HC
        rw [if_pos hs] at HRi
        clear hs
        go_wp2_with fail
        refine HC.out.mono ?_; rintro e w3 ⟨rfl, x3⟩
        go_wp2
        go_ret
        exact ⟨by rw [HRi.out]; rfl, HX.out.trans x3⟩
      · rw [decide_eq_false hs] at HC
        rw [if_neg hs] at HRi
        clear hs
        go_wp2_with fail
        refine HC.out.mono ?_; rintro e w3 ⟨rfl, x3⟩
        go_wp2
        go_roundw
        case rel => exact ⟨i + 1, by omega, by go_num, HX.out.trans x3, HRi.out⟩
        case measure => simp [intOf]; omega
    · have hin : i = n := by omega
      have HE : Hid (R = -1) := Lib.hid (by rw [hRi, List.drop_of_length_le (by rw [HN.out]; omega)]; rfl)
      clear hRi
      go_wp2
      go_ret
      exact ⟨by rw [HE.out]; rfl, xr⟩
end Go.Proofs.Ythdkhdbabohohaa
