/-
  CONTRACTS: package adu and bilgeref11 (layer 11).
-/
import Derived.Test.YtaaapfpcdkfleaaDoorAduMath
import Derived.Test.YtaaapfpcdkfleaaDoorAppend
import Derived.Test.YtaaapfpcdkfleaaDoorStepAppend
import Derived.Deep.RegionHeld3
import Derived.Laws.CopyOwn
namespace Go.Proofs.YtaaapfpcdkfleaaDoor
open Go.RowKit

/-- Cells laid over others from place 'off' on. -/
def over {α : Type} (f : Nat → α) (off n : Nat) (g : Nat → α) : Nat → α := fun i => if i < off then f i else if i < off + n then g (i - off) else f i
/-- 'copy' into a block of the call's own, from whatever slice, as many as the place takes. -/
theorem wpList_copy_row {α : Type} {mk : α → Value} {P : Program} {w : World} {ops : Array Oper} {rest : List Oper} {o : Oper} {a : Act} {Q : Exit → Act → World → Prop} (hgd : o.guard = none) (d s : Operand) (dT sT : TypeId)
    (ho : o.op = .call { callee := .builtin .copy, args := #[d, s], argTypes := #[dT, sT] }) (elem : TypeId) (hu : P.underlying dT = some (.slice elem)) (hsz : (P.info? elem).map (·.size) = some 1)
    (dp sp : Option Addr) (dLen dCap sLen sCap n : Nat) (hd : a.eval d = .slice dp dLen dCap) (hs : a.eval s = .slice sp sLen sCap) (hdn : dLen = n) (hsn : n ≤ sLen)
    (B off m : Nat) (t : TypeId) (f g : Nat → α) (hrow : Row mk t w B m f) (hsrc : HoldsG mk w sp n g) (hpos : 0 < n → dp = some ⟨B, off, none⟩) (hfit : off + n ≤ m) (h1 : ∀ x, (mk x).oneCell' = true)
    (w0 : World) (hb : Below B w0 w)
    (h : ∀ w', Row mk t w' B m (over f off n g) → Below B w0 w' → wpList P ops Q rest (a.put o.dst (goInt n)) w') :
    wpList P ops Q (o :: rest) a w := by
  subst hdn
  obtain ⟨cs, hcs, hsize, hcell⟩ := hrow
  have hl : (lstG mk g dLen).length = dLen := lstG_length _ _ _
  refine wpList_copy_splice hgd d s dT sT ho elem hu hsz dp sp dLen dCap sLen sCap hd hs B off cs.toList t (by simpa using hcs) (lstG mk g dLen) (by rw [hl]; exact (Nat.min_eq_right hsn).symm) (fun hp => ?_) (by rw [hl]; simpa [hsize] using hfit) (fun v hv => ?_) B w0 hb (Nat.le_refl _) (fun w' hw' hb' => ?_)
  · rw [hl] at hp
    obtain ⟨b, o', rfl, _, hc⟩ := hsrc.resolve_left (by omega)
    refine ⟨hpos hp, _, rfl, fun j v hj => ?_⟩
    by_cases hjn : j < dLen
    · rw [lstG_get _ _ _ _ hjn] at hj
      cases hj
      have := hc j hjn
      by_cases hj0 : j = 0
      · subst hj0; simpa [Addr.add] using this
      · simpa [Addr.add, hj0] using this
    · rw [List.getElem?_eq_none (by rw [hl]; omega)] at hj; cases hj
  · obtain ⟨x, _, rfl⟩ := List.mem_map.1 hv
    exact h1 _
  · have := hw'.out
    rw [hl]
    refine h w' ⟨_, this, ?_, fun i hi => ?_⟩ hb'
    · have := length_splice cs.toList off (lstG mk g dLen) (by rw [hl]; simpa [hsize] using hfit)
      simpa [hsize] using this
    · unfold splice over
      rw [List.getElem?_toArray, hl]
      by_cases c1 : i < off
      · rw [if_pos c1, List.getElem?_append_left (by simp; omega), List.getElem?_take, if_pos c1]
        simpa using hcell i hi
      · rw [if_neg c1, List.getElem?_append_right (by simp; omega)]
        have e1 : (List.take off cs.toList).length = off := by simp; omega
        rw [e1]
        by_cases c2 : i < off + dLen
        · rw [if_pos c2, List.getElem?_append_left (by rw [hl]; omega), lstG_get _ _ _ _ (by omega)]
        · rw [if_neg c2, List.getElem?_append_right (by rw [hl]; omega), hl, List.getElem?_drop]
          rw [show off + dLen + (i - off - dLen) = i from by omega]
          simpa using hcell i hi

theorem size_any (n : Int) (w : World) : Calls Tryd.prog 12 #[.int .i64 n] w fun e w' => e = .returned (.int .i64 (sizeN n)) ∧ w' = w := by
  by_cases h1 : n < 1
  · have hs : sizeN n = 0 := if_pos (.inl h1)
    have HS := Lib.hid hs
    clear hs
    go_enter Tryd.func12, Tryd.ntmps12
    go_wp2
    go_ret
    exact ⟨by rw [HS.out]; rfl, rfl⟩
  · by_cases h2 : 253 < n
    · have hs : sizeN n = 0 := if_pos (.inr h2)
      have HS := Lib.hid hs
      clear hs
      go_enter Tryd.func12, Tryd.ntmps12
      go_wp2
      go_ret
      exact ⟨by rw [HS.out]; rfl, rfl⟩
    · have hs : sizeN n = n + 3 := if_neg (by omega)
      have HS := Lib.hid hs
      clear hs
      go_enter Tryd.func12, Tryd.ntmps12
      go_wp2
      go_ret
      exact ⟨by rw [HS.out]; rfl, rfl⟩

theorem over_cons (s : Int) (f : Nat → Int) (n : Nat) : ∀ i, i < n + 1 → over (upd (fun _ => 0) 0 s) 1 n f i = consF s f i := by
  intro i hi; unfold over consF upd
  by_cases h : i = 0
  · rw [if_pos (by omega), if_pos h, if_pos h]
  · rw [if_neg (by omega), if_pos (by omega), if_neg h]

theorem together_any (s : Int) (a : Option Addr) (n c : Nat) (f : Nat → Int) (w : World) (ht : Tabs w) (ha : Holds .u8 w a n f) (h0 : 0 ≤ s) (h1 : s < 256) (hn1 : 1 ≤ n) (hn : n ≤ 1000) (hf : ∀ i, i < n → 0 ≤ f i ∧ f i < 256) :
    Calls Tryd.prog 14 #[.int .u8 s, .slice a n c] w fun e w' => ∃ x y, e = .returned (.slice x (n + 3) y) ∧ n + 3 ≤ y ∧ y ≤ maxLen ∧ Holds .u8 w' x (n + 3) (frm s f n) ∧ Ext w w' := by
  obtain ⟨i8, hi8, hz80, hz81, hz82⟩ := info_parts Tryd.info8p
  obtain ⟨m, hm⟩ : ∃ m, m = n + 1 := ⟨_, rfl⟩
  have k1 : 1 + (n : Int) = (m : Int) := by omega
  have k2 : (m : Int) ≤ 1001 := by omega
  have k3 : 2 ≤ m := by omega
  have hbd := consF_bd h0 h1 hf
  rw [← hm] at hbd
  have HM := Lib.hid hm
  clear hm
  go_enter Tryd.func14, Tryd.ntmps14
  go_wp2_with (first
    | (at_make; refine wpList_make_full _ rfl _ _ 22 rfl w.heap.size 5 i8 (.int .u8 0) 1 Tryd.underlying22 hi8 hz80 hz81 .i64 .i64 m m m rfl rfl rfl rfl (by rw [hz82]; omega) (by unfold maxLen; omega) (Nat.le_refl _) ?_; intro w2 hown2 hgrow2; have hr2 : Row (Value.int .u8) 5 w2 w.heap.size m (fun _ => 0) := Row.made hown2; have x2 : Ext w w2 := (Below.refl _ _).grown hgrow2 (Nat.le_refl _) (fun k hk => by cases hk); have c0 := hr2.cell 0 (by omega); have z0 := hr2.frozen 0; have r3 := hr2.set 0 s; have x3 : Ext w (w2.setCell ⟨w.heap.size, 0, none⟩ (.int .u8 s)) := x2.setCell (Nat.le_refl _) _; clear hown2 hgrow2)
    | (refine wpList_copy_row (mk := Value.int .u8) rfl (.tmp 14) (.tmp 15) _ _ rfl 5 Tryd.underlying22 (by kernel_rfl) _ _ _ _ _ _ n rfl rfl (by have := HM.out; omega) (Nat.le_refl _) w.heap.size 1 m 5 _ f r3 (ha.ext x3) (fun _ => rfl) (by have := HM.out; omega) (fun _ => rfl) w x3 ?_; intro w5 r5 x5; clear r3 x3 c0 z0 hr2 x2))
  have r6 : Row (Value.int .u8) 5 w5 w.heap.size m (consF s f) := r5.congr (fun i hi => over_cons s f n i (by rw [← HM.out]; exact hi))
  refine (append_any _ m m _ _ (ht.ext x5) r6.holds (by omega) hbd).mono ?_; rintro e w7 ⟨b7, d7, rfl, c7, m7, h7, x7⟩
  have x8 := Ext.trans x5 x7
  have hk : m + 2 = n + 3 := by have := HM.out; omega
  have h8 : Holds .u8 w7 b7 (n + 3) (frm s f n) := by unfold frm; rw [← HM.out, ← hk]; exact h7
  rw [hk] at c7 ⊢
  clear h7 r5 r6 x5 x7
  go_wp2
  go_ret
  exact ⟨_, _, rfl, c7, m7, h8, x8⟩
theorem lst_cons (s : Int) (f : Nat → Int) (n : Nat) : [Value.int .u8 s] ++ lstG (.int .u8) f n = lstG (.int .u8) (consF s f) (n + 1) := by
  apply List.ext_getElem?
  intro i
  by_cases hi : i < n + 1
  · rw [lstG_get _ _ _ _ hi]
    by_cases h0 : i = 0
    · subst h0; rfl
    · rw [List.getElem?_append_right (by simp; omega), lstG_get _ _ _ _ (by simp; omega)]
      show some (Value.int .u8 (f (i - 1))) = some (Value.int .u8 (if i = 0 then s else f (i - 1)))
      rw [if_neg h0]
  · rw [List.getElem?_eq_none (by simp [lstG_length]; omega), List.getElem?_eq_none (by rw [lstG_length]; omega)]
theorem wrap_lo (s : Int) (a : Option Addr) (n c : Nat) (w : World) (h : s < 0) :
    Calls Tryd.prog 7 #[.int .i64 s, .slice a n c] w fun e w' => e = .returned (.tuple #[.slice none 0 0, .int .i64 11]) ∧ w' = w := by
  go_enter Tryd.func7, Tryd.ntmps7
  go_wp2
  go_ret2
  exact ⟨rfl, rfl⟩
theorem wrap_hi (s : Int) (a : Option Addr) (n c : Nat) (w : World) (h : 255 < s) :
    Calls Tryd.prog 7 #[.int .i64 s, .slice a n c] w fun e w' => e = .returned (.tuple #[.slice none 0 0, .int .i64 11]) ∧ w' = w := by
  have k1 : 0 ≤ s := by omega
  go_enter Tryd.func7, Tryd.ntmps7
  go_wp2
  go_ret2
  exact ⟨rfl, rfl⟩
theorem wrap_short (s : Int) (a : Option Addr) (n c : Nat) (w : World) (h0 : 0 ≤ s) (h1 : s < 256) (h : n = 0) :
    Calls Tryd.prog 7 #[.int .i64 s, .slice a n c] w fun e w' => e = .returned (.tuple #[.slice none 0 0, .int .i64 12]) ∧ w' = w := by
  have k1 : s ≤ 255 := by omega
  subst h
  go_enter Tryd.func7, Tryd.ntmps7
  go_wp2
  go_ret2
  exact ⟨rfl, rfl⟩
theorem wrap_long (s : Int) (a : Option Addr) (n c : Nat) (w : World) (h0 : 0 ≤ s) (h1 : s < 256) (h : 253 < n) :
    Calls Tryd.prog 7 #[.int .i64 s, .slice a n c] w fun e w' => e = .returned (.tuple #[.slice none 0 0, .int .i64 13]) ∧ w' = w := by
  have k1 : s ≤ 255 := by omega
  have k2 : (253 : Int) < n := by omega
  have k3 : ((n : Int) == 0) = false := beq_eq_false_iff_ne.2 (by omega)
  go_enter Tryd.func7, Tryd.ntmps7
  go_wp2
  go_ret2
  exact ⟨rfl, rfl⟩
theorem wrap_ok (s : Int) (a : Option Addr) (n c : Nat) (f : Nat → Int) (w : World) (ht : Tabs w) (ha : Holds .u8 w a n f) (h0 : 0 ≤ s) (h1 : s < 256) (hn1 : 1 ≤ n) (hn : n ≤ 253) (hf : ∀ i, i < n → 0 ≤ f i ∧ f i < 256) :
    Calls Tryd.prog 7 #[.int .i64 s, .slice a n c] w fun e w' => ∃ x y, e = .returned (.tuple #[.slice x (n + 3) y, .int .i64 0]) ∧ n + 3 ≤ y ∧ y ≤ maxLen ∧ Holds .u8 w' x (n + 3) (frm s f n) ∧ Ext w w' := by
  have k1 : s ≤ 255 := by omega
  have k2 : (n : Int) ≤ 253 := by omega
  have k3 : ((n : Int) == 0) = false := beq_eq_false_iff_ne.2 (by omega)
  have k4 : s % 256 = s := by omega
  go_enter Tryd.func7, Tryd.ntmps7
  go_wp2_with fail
  refine (together_any s a n c f _ ht ha h0 h1 hn1 (by omega) hf).mono ?_; rintro e w1 ⟨b1, d1, rfl, c1, m1, h1, x1⟩
  go_wp2
  go_ret2
  exact ⟨_, _, rfl, c1, m1, h1, x1⟩
theorem wrap_any (s : Int) (a : Option Addr) (n c : Nat) (f : Nat → Int) (w : World) (ht : Tabs w) (ha : Holds .u8 w a n f) (hn : n ≤ 1000000) (hf : ∀ i, i < n → 0 ≤ f i ∧ f i < 256) :
    Calls Tryd.prog 7 #[.int .i64 s, .slice a n c] w fun e w' => ∃ x y, e = .returned (.tuple #[.slice x (wrapN s n) y, .int .i64 (wrapE s n)]) ∧ wrapN s n ≤ y ∧ y ≤ maxLen ∧ Holds .u8 w' x (wrapN s n) (frm s f n) ∧ Ext w w' := by
  have no : ∀ E : Int, E ≠ 0 → wrapE s n = E → (Calls Tryd.prog 7 #[.int .i64 s, .slice a n c] w fun e w' => e = .returned (.tuple #[.slice none 0 0, .int .i64 E]) ∧ w' = w) →
      Calls Tryd.prog 7 #[.int .i64 s, .slice a n c] w fun e w' => ∃ x y, e = .returned (.tuple #[.slice x (wrapN s n) y, .int .i64 (wrapE s n)]) ∧ wrapN s n ≤ y ∧ y ≤ maxLen ∧ Holds .u8 w' x (wrapN s n) (frm s f n) ∧ Ext w w' := by
    intro E hE he hC
    refine hC.mono ?_; rintro e w' ⟨rfl, rfl⟩
    rw [he, wrapN_no (by rw [he]; exact hE)]
    exact ⟨none, 0, rfl, Nat.le_refl _, by decide, .inl rfl, Ext.refl _⟩
  by_cases h0 : s < 0
  · exact no 11 (by decide) (wrapE_arg (.inl h0)) (wrap_lo s a n c w h0)
  · by_cases h1 : 255 < s
    · exact no 11 (by decide) (wrapE_arg (.inr h1)) (wrap_hi s a n c w h1)
    · by_cases h2 : n = 0
      · exact no 12 (by decide) (wrapE_short (by omega) (by omega) h2) (wrap_short s a n c w (by omega) (by omega) h2)
      · by_cases h3 : 253 < n
        · exact no 13 (by decide) (wrapE_long (by omega) (by omega) h3) (wrap_long s a n c w (by omega) (by omega) h3)
        · have hE := wrapE_ok (s := s) (n := n) (by omega) (by omega) (by omega) (by omega)
          rw [hE, wrapN_ok hE]
          exact wrap_ok s a n c f w ht ha (by omega) (by omega) (by omega) (by omega) hf
theorem rwrap_lo (s : Int) (a : Option Addr) (n c : Nat) (w : World) (h : s < 0) :
    Calls Tryd.prog 8 #[.int .i64 s, .slice a n c] w fun e w' => e = .returned (.tuple #[.slice none 0 0, .int .i64 11]) ∧ w' = w := by
  go_enter Tryd.func8, Tryd.ntmps8
  go_wp2
  go_ret2
  exact ⟨rfl, rfl⟩
theorem rwrap_hi (s : Int) (a : Option Addr) (n c : Nat) (w : World) (h : 255 < s) :
    Calls Tryd.prog 8 #[.int .i64 s, .slice a n c] w fun e w' => e = .returned (.tuple #[.slice none 0 0, .int .i64 11]) ∧ w' = w := by
  have k1 : 0 ≤ s := by omega
  go_enter Tryd.func8, Tryd.ntmps8
  go_wp2
  go_ret2
  exact ⟨rfl, rfl⟩
theorem rwrap_short (s : Int) (a : Option Addr) (n c : Nat) (w : World) (h0 : 0 ≤ s) (h1 : s < 256) (h : n = 0) :
    Calls Tryd.prog 8 #[.int .i64 s, .slice a n c] w fun e w' => e = .returned (.tuple #[.slice none 0 0, .int .i64 12]) ∧ w' = w := by
  have k1 : s ≤ 255 := by omega
  subst h
  go_enter Tryd.func8, Tryd.ntmps8
  go_wp2
  go_ret2
  exact ⟨rfl, rfl⟩
theorem rwrap_long (s : Int) (a : Option Addr) (n c : Nat) (w : World) (h0 : 0 ≤ s) (h1 : s < 256) (h : 253 < n) :
    Calls Tryd.prog 8 #[.int .i64 s, .slice a n c] w fun e w' => e = .returned (.tuple #[.slice none 0 0, .int .i64 13]) ∧ w' = w := by
  have k1 : s ≤ 255 := by omega
  have k2 : (253 : Int) < n := by omega
  have k3 : ((n : Int) == 0) = false := beq_eq_false_iff_ne.2 (by omega)
  go_enter Tryd.func8, Tryd.ntmps8
  go_wp2
  go_ret2
  exact ⟨rfl, rfl⟩
theorem rwrap_ok (s : Int) (a : Option Addr) (n c : Nat) (f : Nat → Int) (w : World) (ha : Holds .u8 w a n f) (h0 : 0 ≤ s) (h1 : s < 256) (hn1 : 1 ≤ n) (hn : n ≤ 253) (hf : ∀ i, i < n → 0 ≤ f i ∧ f i < 256) :
    Calls Tryd.prog 8 #[.int .i64 s, .slice a n c] w fun e w' => ∃ x y, e = .returned (.tuple #[.slice x (n + 3) y, .int .i64 0]) ∧ Holds .u8 w' x (n + 3) (frm s f n) ∧ Ext w w' := by
  have k1 : s ≤ 255 := by omega
  have k2 : (n : Int) ≤ 253 := by omega
  have k3 : ((n : Int) == 0) = false := beq_eq_false_iff_ne.2 (by omega)
  have k4 : s % 256 = s := by omega
  obtain ⟨i8, hi8, hz80, hz81, hz82⟩ := info_parts Tryd.info8p
  go_enter Tryd.func8, Tryd.ntmps8
  go_wp2_with (at_builtin; refine wpList_append_holds rfl (.tmp 20) (.tmp 21) _ rfl w.heap.size 5 i8 (.int .u8 0) 1 Tryd.underlying22 hi8 hz80 hz81 hz82 rfl _ 1 [.int .u8 s] rfl (World.ownsRow_lit w #[.int .u8 s] 1 (Nat.le_refl _) (by unfold maxLen; omega) rfl) a n c f rfl (Holds.ext ha (Ext.alloc _ _)) (fun _ => rfl) (by unfold maxLen; omega) (by omega) (by simp) ?_; intro v2 w2 hown2 hgr2 hb2; obtain ⟨b2, d2, rfl, l2, m2, h2⟩ := HoldsG.of_own (mk := Value.int .u8) (n := n + 1) (f := consF s f) (by rw [← lst_cons, Nat.add_comm n 1]; exact hown2); have x2 : Ext w w2 := ((Below.refl _ _).alloc (Nat.le_refl _) _).trans hb2; clear hown2 hgr2 hb2)
  refine (rappend_any b2 (n + 1) d2 _ _ h2 (by omega) (consF_bd h0 h1 hf)).mono ?_; rintro e w3 ⟨b3, d3, rfl, h3, x3⟩
  have x4 := x2.trans x3
  clear h2 x2 x3 ha
  go_wp2
  go_ret2
  exact ⟨_, _, rfl, h3, x4⟩
theorem rwrap_any (s : Int) (a : Option Addr) (n c : Nat) (f : Nat → Int) (w : World) (ha : Holds .u8 w a n f) (hn : n ≤ 1000000) (hf : ∀ i, i < n → 0 ≤ f i ∧ f i < 256) :
    Calls Tryd.prog 8 #[.int .i64 s, .slice a n c] w fun e w' => ∃ x y, e = .returned (.tuple #[.slice x (wrapN s n) y, .int .i64 (wrapE s n)]) ∧ Holds .u8 w' x (wrapN s n) (frm s f n) ∧ Ext w w' := by
  have no : ∀ E : Int, E ≠ 0 → wrapE s n = E → (Calls Tryd.prog 8 #[.int .i64 s, .slice a n c] w fun e w' => e = .returned (.tuple #[.slice none 0 0, .int .i64 E]) ∧ w' = w) →
      Calls Tryd.prog 8 #[.int .i64 s, .slice a n c] w fun e w' => ∃ x y, e = .returned (.tuple #[.slice x (wrapN s n) y, .int .i64 (wrapE s n)]) ∧ Holds .u8 w' x (wrapN s n) (frm s f n) ∧ Ext w w' := by
    intro E hE he hC
    refine hC.mono ?_; rintro e w' ⟨rfl, rfl⟩
    rw [he, wrapN_no (by rw [he]; exact hE)]
    exact ⟨none, 0, rfl, .inl rfl, Ext.refl _⟩
  by_cases h0 : s < 0
  · exact no 11 (by decide) (wrapE_arg (.inl h0)) (rwrap_lo s a n c w h0)
  · by_cases h1 : 255 < s
    · exact no 11 (by decide) (wrapE_arg (.inr h1)) (rwrap_hi s a n c w h1)
    · by_cases h2 : n = 0
      · exact no 12 (by decide) (wrapE_short (by omega) (by omega) h2) (rwrap_short s a n c w (by omega) (by omega) h2)
      · by_cases h3 : 253 < n
        · exact no 13 (by decide) (wrapE_long (by omega) (by omega) h3) (rwrap_long s a n c w (by omega) (by omega) h3)
        · have hE := wrapE_ok (s := s) (n := n) (by omega) (by omega) (by omega) (by omega)
          rw [hE, wrapN_ok hE]
          exact rwrap_ok s a n c f w ha (by omega) (by omega) (by omega) (by omega) hf
theorem open_short (a : Option Addr) (n c : Nat) (w : World) (h : n < 4) :
    Calls Tryd.prog 9 #[.slice a n c] w fun e w' => e = .returned (.tuple #[.int .i64 0, .slice none 0 0, .int .i64 12]) ∧ w' = w := by
  have k1 : (n : Int) < 4 := by omega
  clear h
  go_enter Tryd.func9, Tryd.ntmps9
  go_wp2
  go_ret3
  exact ⟨rfl, rfl⟩
theorem open_long (a : Option Addr) (n c : Nat) (w : World) (h : 256 < n) (hn : n ≤ 1000000) :
    Calls Tryd.prog 9 #[.slice a n c] w fun e w' => e = .returned (.tuple #[.int .i64 0, .slice none 0 0, .int .i64 13]) ∧ w' = w := by
  have k1 : (256 : Int) < n := by omega
  clear h
  go_enter Tryd.func9, Tryd.ntmps9
  go_wp2
  go_ret3
  exact ⟨rfl, rfl⟩
theorem open_form (a : Option Addr) (n c : Nat) (f : Nat → Int) (w : World) (ht : Tabs w) (ha : Holds .u8 w a n f) (hc : n ≤ c) (hcm : c ≤ maxLen) (h4 : 4 ≤ n) (hn : n ≤ 256) (hf : ∀ i, i < n → 0 ≤ f i ∧ f i < 256) (he : endsB f n = false) :
    Calls Tryd.prog 9 #[.slice a n c] w fun e w' => e = .returned (.tuple #[.int .i64 0, .slice none 0 0, .int .i64 14]) ∧ Ext w w' := by
  have k1 : (4 : Int) ≤ n := by omega
  have k2 : (n : Int) ≤ 256 := by omega
  go_enter Tryd.func9, Tryd.ntmps9
  go_wp2_with fail
  refine (check_v a n c f false _ ht ha hc hcm (by omega) hf he).mono ?_; rintro e w1 ⟨rfl, x1⟩
  go_wp2
  go_ret3
  exact ⟨rfl, x1⟩
set_option maxHeartbeats 1600000 in
theorem open_ok (a : Option Addr) (n m c : Nat) (f : Nat → Int) (w : World) (ht : Tabs w) (ha : Holds .u8 w a n f) (hc : n ≤ c) (hcm : c ≤ maxLen) (hm : n = m + 3) (hm1 : 1 ≤ m) (hn : m ≤ 253) (hf : ∀ i, i < n → 0 ≤ f i ∧ f i < 256) (he : endsB f n = true) :
    Calls Tryd.prog 9 #[.slice a n c] w fun e w' => ∃ x y, e = .returned (.tuple #[.int .i64 (f 0), .slice x m y, .int .i64 0]) ∧ m ≤ y ∧ y ≤ maxLen ∧ Holds .u8 w' x m (fun i => f (i + 1)) ∧ Ext w w' := by
  obtain ⟨i8, hi8, hz80, hz81, hz82⟩ := info_parts Tryd.info8p
  have k1 : (4 : Int) ≤ n := by omega
  have k2 : (n : Int) ≤ 256 := by omega
  have hmax : c ≤ 9223372036854775807 := hcm
  obtain ⟨f0, f1⟩ := hf 0 (by omega)
  have k3 : 1 < c := by omega
  have k4 : (1 : Int) ≤ c := by omega
  have k5 : (n : Int) - 3 = (m : Int) := by omega
  have HM := Lib.hid hm
  clear hm
  go_enter Tryd.func9, Tryd.ntmps9
  go_wp2_with fail
  refine (check_v a n c f true _ ht ha hc hcm (by omega) hf he).mono ?_; rintro e w1 ⟨rfl, x1⟩
  have h1 := ha.ext x1
  clear ha ht
  obtain ⟨b, off, rfl, hlt, hcell⟩ := id (h1.resolve_left (by omega))
  have c0 := hcell 0 (by omega)
  rw [Nat.add_zero] at c0
  have hb := ((Holds.back h1 1).front (m := m) (by have := HM.out; omega)).congr (g := fun i => f (i + 1)) (fun i _ => congrArg f (Nat.add_comm 1 i))
  have HC := Lib.hid c0
  have HLT := Lib.hid hlt
  clear hcell hlt c0
  go_wp2_with (first
    | (at_make; refine wpList_make_full _ rfl _ _ 22 rfl w1.heap.size 5 i8 (.int .u8 0) 1 Tryd.underlying22 hi8 hz80 hz81 .i64 .i64 m m m rfl rfl rfl rfl (by rw [hz82]; omega) (by unfold maxLen; omega) (Nat.le_refl _) ?_; intro w2 hown2 hgrow2; have hr2 : Row (Value.int .u8) 5 w2 w1.heap.size m (fun _ => 0) := Row.made hown2; have x2 : Ext w1 w2 := (Below.refl _ _).grown hgrow2 (Nat.le_refl _) (fun k hk => by cases hk); have b2 := hb.ext x2; clear hown2 hgrow2)
    | (refine wpList_copy_row (mk := Value.int .u8) rfl (.tmp 22) (.tmp 24) _ _ rfl 5 Tryd.underlying22 (by kernel_rfl) _ _ _ _ _ _ m rfl rfl rfl (by have := HM.out; omega) w1.heap.size 0 m 5 _ _ hr2 b2 (fun _ => rfl) (by omega) (fun _ => rfl) w1 x2 ?_; intro w5 r5 x5; have c5 := (x5.cell (p := ⟨b, off, none⟩) HLT.out).trans HC.out; clear hr2 x2 b2 h1))
  go_ret3
  have h9 := r5.holds.congr (g := fun i => f (i + 1)) (fun i hi => by unfold over; rw [if_neg (by omega), if_pos (by omega)]; rfl)
  exact ⟨_, _, rfl, by omega, by unfold maxLen; omega, h9, Ext.trans x1 x5⟩
theorem open_any (a : Option Addr) (n c : Nat) (f : Nat → Int) (w : World) (ht : Tabs w) (ha : Holds .u8 w a n f) (hc : n ≤ c) (hcm : c ≤ maxLen) (hn : n ≤ 1000000) (hf : ∀ i, i < n → 0 ≤ f i ∧ f i < 256) :
    Calls Tryd.prog 9 #[.slice a n c] w fun e w' => ∃ x y, e = .returned (.tuple #[.int .i64 (openS f n), .slice x (openN f n) y, .int .i64 (openE f n)]) ∧ openN f n ≤ y ∧ y ≤ maxLen ∧ Holds .u8 w' x (openN f n) (fun i => f (i + 1)) ∧ Ext w w' := by
  have no : ∀ E : Int, E ≠ 0 → openE f n = E → (Calls Tryd.prog 9 #[.slice a n c] w fun e w' => e = .returned (.tuple #[.int .i64 0, .slice none 0 0, .int .i64 E]) ∧ Ext w w') →
      Calls Tryd.prog 9 #[.slice a n c] w fun e w' => ∃ x y, e = .returned (.tuple #[.int .i64 (openS f n), .slice x (openN f n) y, .int .i64 (openE f n)]) ∧ openN f n ≤ y ∧ y ≤ maxLen ∧ Holds .u8 w' x (openN f n) (fun i => f (i + 1)) ∧ Ext w w' := by
    intro E hE he hC
    refine hC.mono ?_; rintro e w' ⟨rfl, x⟩
    rw [openS_no (by rw [he]; exact hE), openN_no (by rw [he]; exact hE), he]
    exact ⟨none, 0, rfl, Nat.le_refl _, by decide, .inl rfl, x⟩
  by_cases h0 : n < 4
  · exact no 12 (by decide) (openE_short h0) ((open_short a n c w h0).mono fun _ _ h => ⟨h.1, Ext.of_eq h.2.symm⟩)
  · by_cases h1 : 256 < n
    · exact no 13 (by decide) (openE_long h1) ((open_long a n c w h1 hn).mono fun _ _ h => ⟨h.1, Ext.of_eq h.2.symm⟩)
    · cases he : endsB f n
      · exact no 14 (by decide) (openE_form (by omega) (by omega) he) (open_form a n c f w ht ha hc hcm (by omega) (by omega) hf he)
      · have hE := openE_ok (f := f) (n := n) (by omega) (by omega) he
        rw [openS_ok hE, openN_ok hE, hE]
        exact open_ok a n (n - 3) c f w ht ha hc hcm (by omega) (by omega) (by omega) hf he
theorem ropen_short (a : Option Addr) (n c : Nat) (w : World) (h : n < 4) :
    Calls Tryd.prog 10 #[.slice a n c] w fun e w' => e = .returned (.tuple #[.int .i64 0, .slice none 0 0, .int .i64 12]) ∧ w' = w := by
  have k1 : (n : Int) < 4 := by omega
  clear h
  go_enter Tryd.func10, Tryd.ntmps10
  go_wp2
  go_ret3
  exact ⟨rfl, rfl⟩
theorem ropen_long (a : Option Addr) (n c : Nat) (w : World) (h : 256 < n) (hn : n ≤ 1000000) :
    Calls Tryd.prog 10 #[.slice a n c] w fun e w' => e = .returned (.tuple #[.int .i64 0, .slice none 0 0, .int .i64 13]) ∧ w' = w := by
  have k1 : (256 : Int) < n := by omega
  clear h
  go_enter Tryd.func10, Tryd.ntmps10
  go_wp2
  go_ret3
  exact ⟨rfl, rfl⟩
theorem ropen_form (a : Option Addr) (n c : Nat) (f : Nat → Int) (w : World) (ha : Holds .u8 w a n f) (hc : n ≤ c) (hcm : c ≤ maxLen) (h4 : 4 ≤ n) (hn : n ≤ 256) (hf : ∀ i, i < n → 0 ≤ f i ∧ f i < 256) (he : endsB f n = false) :
    Calls Tryd.prog 10 #[.slice a n c] w fun e w' => e = .returned (.tuple #[.int .i64 0, .slice none 0 0, .int .i64 14]) ∧ Ext w w' := by
  have k1 : (4 : Int) ≤ n := by omega
  have k2 : (n : Int) ≤ 256 := by omega
  go_enter Tryd.func10, Tryd.ntmps10
  go_wp2_with fail
  refine (rcheck_v a n c f false _ ha hc hcm (by omega) hf he).mono ?_; rintro e w1 ⟨rfl, x1⟩
  go_wp2
  go_ret3
  exact ⟨rfl, x1⟩
set_option maxHeartbeats 1600000 in
theorem ropen_ok (a : Option Addr) (n m c : Nat) (f : Nat → Int) (w : World) (ha : Holds .u8 w a n f) (hc : n ≤ c) (hcm : c ≤ maxLen) (hm : n = m + 3) (hm1 : 1 ≤ m) (hn : m ≤ 253) (hf : ∀ i, i < n → 0 ≤ f i ∧ f i < 256) (he : endsB f n = true) :
    Calls Tryd.prog 10 #[.slice a n c] w fun e w' => ∃ x y, e = .returned (.tuple #[.int .i64 (f 0), .slice x m y, .int .i64 0]) ∧ m ≤ y ∧ y ≤ maxLen ∧ Holds .u8 w' x m (fun i => f (i + 1)) ∧ Ext w w' := by
  obtain ⟨i8, hi8, hz80, hz81, hz82⟩ := info_parts Tryd.info8p
  have k1 : (4 : Int) ≤ n := by omega
  have k2 : (n : Int) ≤ 256 := by omega
  have hmax : c ≤ 9223372036854775807 := hcm
  obtain ⟨f0, f1⟩ := hf 0 (by omega)
  have k3 : 1 < c := by omega
  have k4 : (1 : Int) ≤ c := by omega
  obtain ⟨q, hq⟩ : ∃ q, q = m + 1 := ⟨_, rfl⟩
  have k5 : (n : Int) - 2 = (q : Int) := by omega
  have i0 : (0 : Int) < n := by omega
  have w0 : IntKind.i64.wrap (f 0) = f 0 := IntWalk.i64_in _ (by omega)
  have w1' : IntKind.i64.wrap (q : Int) = q := IntWalk.i64_in _ (by omega)
  have i1 : 0 < n := by omega
  have e1 : ¬ c = 1 := by omega
  have e2 : ¬ 1 = c := by omega
  have k6 : 1 ≤ q := by omega
  have k7 : q ≤ c := by omega
  have k8 : (1 : Int) ≤ q := by omega
  have k9 : (q : Int) ≤ c := by omega
  have HQ := Lib.hid hq
  have HM := Lib.hid hm
  clear hm hq
  go_enter Tryd.func10, Tryd.ntmps10
  go_wp2_with fail
  refine (rcheck_v a n c f true _ ha hc hcm (by omega) hf he).mono ?_; rintro e w1 ⟨rfl, x1⟩
  have h1 := ha.ext x1
  clear ha
  obtain ⟨b, off, rfl, hlt, hcell⟩ := id (h1.resolve_left (by omega))
  have c0 := hcell 0 (by omega)
  rw [Nat.add_zero] at c0
  have hb := ((Holds.back h1 1).front (m := q - 1) (by have := HM.out; have := HQ.out; omega)).congr (g := fun i => f (i + 1)) (fun i _ => congrArg f (Nat.add_comm 1 i))
  have HB := Lib.hid (fun w' (x : Ext w1 w') => hb.ext x)
  have HS := Lib.hid (fun w' (x : Ext w1 w') => (show w'.cell? ⟨b, off, none⟩ = some (.int .u8 (f 0)) ∧ Ext w1 w' from ⟨(Below.cell x (p := ⟨b, off, none⟩) hlt).trans c0, x⟩))
  obtain ⟨r0, -⟩ := HS.out w1.drew (Ext.drew _)
  have z1 : Ext w1 w1.drew := Ext.drew _
  clear hcell hlt hb h1
  go_wp2_with fail
  go_region_held3 (fun w' => w'.cell? ⟨b, off, none⟩ = some (.int .u8 (f 0)) ∧ Ext w1 w')
    (first | exact HS.out _ (by assumption) | exact HS.out _ (Ext.refl _) | exact HS.out _ (Ext.alloc _ _) | exact HS.out _ (Ext.trans (Ext.alloc _ _) (Ext.drew _)))
    ((refine step_append_holds rfl (.tmp 18) (.tmp 23) 22 rfl w1.heap.size 5 i8 (.int .u8 0) 1 Tryd.underlying22 hi8 hz80 hz81 hz82 rfl _ 0 [] (by rfl)
        (own_ext (own_empty (heap_alloc_new w1 _) (Nat.le_refl _)) (Ext.drew _)) _ (q - 1) _ _ (by rfl) (HB.out _ (Ext.trans (Ext.alloc _ _) (Ext.drew _))) (fun _ => rfl) (by unfold maxLen; omega) (by omega) (by simp) ?_
      intro v2 w2 hown2 _ hb2
      have x2 : Ext w1 w2 := Below.trans (Ext.trans (Ext.alloc _ _) (Ext.drew _)) hb2
      clear hb2))
  have hq1 : q - 1 = m := by have := HQ.out; omega
  rw [hq1, Nat.zero_add, List.nil_append] at hown2
  obtain ⟨b8, d8, rfl, l8, m8, h8⟩ := HoldsG.of_own (mk := Value.int .u8) hown2
  have x9 := Ext.trans x1 x2
  clear hown2
  go_wp2
  go_ret3
  exact ⟨_, _, rfl, l8, m8, h8, x9⟩
theorem ropen_any (a : Option Addr) (n c : Nat) (f : Nat → Int) (w : World) (ha : Holds .u8 w a n f) (hc : n ≤ c) (hcm : c ≤ maxLen) (hn : n ≤ 1000000) (hf : ∀ i, i < n → 0 ≤ f i ∧ f i < 256) :
    Calls Tryd.prog 10 #[.slice a n c] w fun e w' => ∃ x y, e = .returned (.tuple #[.int .i64 (openS f n), .slice x (openN f n) y, .int .i64 (openE f n)]) ∧ openN f n ≤ y ∧ y ≤ maxLen ∧ Holds .u8 w' x (openN f n) (fun i => f (i + 1)) ∧ Ext w w' := by
  have no : ∀ E : Int, E ≠ 0 → openE f n = E → (Calls Tryd.prog 10 #[.slice a n c] w fun e w' => e = .returned (.tuple #[.int .i64 0, .slice none 0 0, .int .i64 E]) ∧ Ext w w') →
      Calls Tryd.prog 10 #[.slice a n c] w fun e w' => ∃ x y, e = .returned (.tuple #[.int .i64 (openS f n), .slice x (openN f n) y, .int .i64 (openE f n)]) ∧ openN f n ≤ y ∧ y ≤ maxLen ∧ Holds .u8 w' x (openN f n) (fun i => f (i + 1)) ∧ Ext w w' := by
    intro E hE he hC
    refine hC.mono ?_; rintro e w' ⟨rfl, x⟩
    rw [openS_no (by rw [he]; exact hE), openN_no (by rw [he]; exact hE), he]
    exact ⟨none, 0, rfl, Nat.le_refl _, by decide, .inl rfl, x⟩
  by_cases h0 : n < 4
  · exact no 12 (by decide) (openE_short h0) ((ropen_short a n c w h0).mono fun _ _ h => ⟨h.1, Ext.of_eq h.2.symm⟩)
  · by_cases h1 : 256 < n
    · exact no 13 (by decide) (openE_long h1) ((ropen_long a n c w h1 hn).mono fun _ _ h => ⟨h.1, Ext.of_eq h.2.symm⟩)
    · cases he : endsB f n
      · exact no 14 (by decide) (openE_form (by omega) (by omega) he) (ropen_form a n c f w ha hc hcm (by omega) (by omega) hf he)
      · have hE := openE_ok (f := f) (n := n) (by omega) (by omega) he
        rw [openS_ok hE, openN_ok hE, hE]
        exact ropen_ok a n (n - 3) c f w ha hc hcm (by omega) (by omega) (by omega) hf he
theorem wrap_v (s : Int) (a : Option Addr) (n c : Nat) (f : Nat → Int) (E : Int) (W : Nat) (w : World) (ht : Tabs w) (ha : Holds .u8 w a n f) (hn : n ≤ 1000000) (hf : ∀ i, i < n → 0 ≤ f i ∧ f i < 256) (hE : wrapE s n = E) (hW : wrapN s n = W) :
    Calls Tryd.prog 7 #[.int .i64 s, .slice a n c] w fun e w' => ∃ x y, e = .returned (.tuple #[.slice x W y, .int .i64 E]) ∧ W ≤ y ∧ y ≤ maxLen ∧ Holds .u8 w' x W (frm s f n) ∧ Ext w w' := by
  subst hE; subst hW; exact wrap_any s a n c f w ht ha hn hf
theorem open_v (a : Option Addr) (n c : Nat) (f : Nat → Int) (V E : Int) (O : Nat) (w : World) (ht : Tabs w) (ha : Holds .u8 w a n f) (hc : n ≤ c) (hcm : c ≤ maxLen) (hn : n ≤ 1000000) (hf : ∀ i, i < n → 0 ≤ f i ∧ f i < 256) (hV : openS f n = V) (hE : openE f n = E) (hO : openN f n = O) :
    Calls Tryd.prog 9 #[.slice a n c] w fun e w' => ∃ x y, e = .returned (.tuple #[.int .i64 V, .slice x O y, .int .i64 E]) ∧ O ≤ y ∧ y ≤ maxLen ∧ Holds .u8 w' x O (fun i => f (i + 1)) ∧ Ext w w' := by
  subst hV; subst hE; subst hO; exact open_any a n c f w ht ha hc hcm hn hf
theorem rwrap_v (s : Int) (a : Option Addr) (n c : Nat) (f : Nat → Int) (E : Int) (W : Nat) (w : World) (ha : Holds .u8 w a n f) (hn : n ≤ 1000000) (hf : ∀ i, i < n → 0 ≤ f i ∧ f i < 256) (hE : wrapE s n = E) (hW : wrapN s n = W) :
    Calls Tryd.prog 8 #[.int .i64 s, .slice a n c] w fun e w' => ∃ x y, e = .returned (.tuple #[.slice x W y, .int .i64 E]) ∧ Holds .u8 w' x W (frm s f n) ∧ Ext w w' := by
  subst hE; subst hW; exact rwrap_any s a n c f w ha hn hf
theorem ropen_v (a : Option Addr) (n c : Nat) (f : Nat → Int) (V E : Int) (O : Nat) (w : World) (ha : Holds .u8 w a n f) (hc : n ≤ c) (hcm : c ≤ maxLen) (hn : n ≤ 1000000) (hf : ∀ i, i < n → 0 ≤ f i ∧ f i < 256) (hV : openS f n = V) (hE : openE f n = E) (hO : openN f n = O) :
    Calls Tryd.prog 10 #[.slice a n c] w fun e w' => ∃ x y, e = .returned (.tuple #[.int .i64 V, .slice x O y, .int .i64 E]) ∧ O ≤ y ∧ y ≤ maxLen ∧ Holds .u8 w' x O (fun i => f (i + 1)) ∧ Ext w w' := by
  subst hV; subst hE; subst hO; exact ropen_any a n c f w ha hc hcm hn hf
theorem size_v (n v : Int) (w : World) (h : sizeN n = v) : Calls Tryd.prog 12 #[.int .i64 n] w fun e w' => e = .returned (.int .i64 v) ∧ w' = w := h ▸ size_any n w
end Go.Proofs.YtaaapfpcdkfleaaDoor
