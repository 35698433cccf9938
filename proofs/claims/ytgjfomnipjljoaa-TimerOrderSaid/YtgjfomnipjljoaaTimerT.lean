/-
  CONTRACTS: bilgeref06.Due, Ints.
-/
import Derived.Test.YtgjfomnipjljoaaTimerS
namespace Go.Proofs.Ytgjfomnipjljoaa
open Go.RowKit

theorem Try.infoI : (Try.prog.info? 3).map (fun i => (i.zero, i.size, i.bytes)) = some (some (.int .i64 0), 1, 8) := by kernel_rfl
theorem drewN_two (w : World) (q r : Nat) : ∃ s, (w.drewN q).drewN r = w.drewN s := ⟨q + r, by simp⟩
set_option maxHeartbeats 400000 in
theorem ints_any (a b : Option Addr) (n m c d : Nat) (f g : Nat → Int) (w : World) (ha : Holds .i64 w a n f) (hb : Holds .i64 w b m g) (hn : n ≤ 1000000) (hm : m ≤ 1000000) :
    Calls Try.prog 17 #[.slice a n c, .slice b m d] w fun e w' => e = .returned (.bool (eqB n m f g)) ∧ ∃ q, w' = w.drewN q := by
  by_cases hnm : n = m
  · subst hnm
    go_enter Try.func17, Try.ntmps17
    go_wp2
    go_loopw [5] (fun i wr => ∃ j : Nat, j ≤ n ∧ i = .int .i64 j ∧ (∀ t, t < j → f t = g t) ∧ ∃ q, wr = w.drewN q) (fun i _ => n - (intOf i).toNat)
    case atStart => exact ⟨0, Nat.zero_le _, rfl, fun t ht => absurd ht (by omega), 0, rfl⟩
    case round =>
      obtain ⟨j, hj, rfl, hall0, q, rfl⟩ := hrel
      have hall := Lib.hid hall0
      clear hall0
      by_cases hlt : j < n
      · obtain ⟨p, o, rfl, hp, hc⟩ := ha.resolve_left (by omega)
        obtain ⟨p', o', rfl, hp', hc'⟩ := hb.resolve_left (by omega)
        have c1 := hc j hlt
        have c2 := hc' j hlt
        clear hc hc' ha hb
        by_cases hfg : f j = g j
        · have hfe := Lib.hid hfg
          have hff : (f j != g j) = false := by simp [hfg]
          clear hfg
          go_wp2
          go_quiet (fail)
          go_wp2
          go_roundw
          case rel => exact ⟨j + 1, by omega, by go_num, fun t ht => by rcases Nat.lt_or_ge t j with h | h; exact hall.out t h; obtain rfl : t = j := by omega
                                                                        exact hfe.out, q + _, rfl⟩
          case measure => simp [intOf]; omega
        · have he := Lib.hid (eqB_false (n := n) (m := n) (f := f) (g := g) (.inr ⟨j, hlt, hfg⟩))
          have hff : (f j != g j) = true := by simp [hfg]
          clear hfg
          go_wp2
          go_quiet (fail)
          go_wp2
          go_ret
          exact ⟨by rw [he.out]; rfl, drewN_two _ _ _⟩
      · have he := Lib.hid (eqB_true (n := n) (m := n) (f := f) (g := g) rfl (fun i hi => hall.out i (by omega)))
        clear ha hb
        go_wp2
        go_ret
        exact ⟨by rw [he.out]; rfl, _, rfl⟩
  · have he := Lib.hid (eqB_false (n := n) (m := m) (f := f) (g := g) (.inl hnm))
    clear ha hb
    go_enter Try.func17, Try.ntmps17
    go_wp2
    go_ret
    exact ⟨by rw [he.out]; rfl, 0, rfl⟩

/-- What is due: how many of the first. -/
def dueN (L : List (Int × Int)) (t : Int) : Nat := (L.takeWhile fun x => decide (x.2 ≤ t)).length
def dueF (L : List (Int × Int)) : Nat → Int := fun i => (L.getD i (0, 0)).1
theorem dueN_le (L : List (Int × Int)) (t : Int) : dueN L t ≤ L.length := (List.takeWhile_sublist _).length_le
theorem dueN_at : ∀ (L : List (Int × Int)) (t : Int) (k : Nat), (∀ j, (h : j < L.length) → j < k → (L[j]).2 ≤ t) → k ≤ L.length → (∀ h : k < L.length, ¬ (L[k]).2 ≤ t) → dueN L t = k
  | [], t, k, _, hk, _ => by simp at hk; subst hk; rfl
  | x :: L, t, 0, _, _, h => by
    have := h (by simp)
    simp at this
    unfold dueN; rw [List.takeWhile_cons_of_neg (by simpa using this)]; rfl
  | x :: L, t, k + 1, h, hk, h2 => by
    have h0 : x.2 ≤ t := h 0 (by simp) (by omega)
    have := dueN_at L t k (fun j hj hjk => by have := h (j + 1) (by simpa using hj) (by omega); simpa using this) (by simpa using hk) (fun hh => by have := h2 (by simpa using hh); simpa using this)
    unfold dueN at this ⊢
    rw [List.takeWhile_cons_of_pos (by simpa using h0), List.length_cons, this]
theorem HoldsL.dropN {α : Type} {sz : Nat} {mk : α → List Value} {w : World} {b off : Nat} {L : List α} (h : HoldsL sz mk w (some ⟨b, off, none⟩) L) (k : Nat) : HoldsL sz mk w (some ⟨b, off + k * sz, none⟩) (L.drop k) := by
  rcases h with h | ⟨b', off', ha, hlt, hc⟩
  · subst h; simp; exact .inl rfl
  · cases ha
    refine .inr ⟨b, off + k * sz, rfl, hlt, fun i y hy j v hv => ?_⟩
    have := hc (k + i) y (by simpa using hy) j v hv
    rw [Nat.add_mul] at this
    rw [show off + k * sz + i * sz + j = off + (k * sz + i * sz) + j by omega]; exact this
/-- How long a slice in a slot is (for a measure). -/
def slen : Value → Nat
  | .slice _ m _ => m
  | _ => 0
set_option maxHeartbeats 2000000 in
theorem rdue_any (a : Option Addr) (n c : Nat) (L : List (Int × Int)) (t : Int) (w : World) (ha : HoldsL 2 two w a L) (hL : L.length = n) (hn : n ≤ 100000) (hc : n ≤ c) (hcm : c ≤ maxLen) :
    Calls Try.prog 20 #[.slice a n c, .int .i64 t] w fun e w' => ∃ x y z u, e = .returned (.tuple #[.slice x (n - dueN L t) y, .slice z (dueN L t) u]) ∧ n - dueN L t ≤ y ∧ y ≤ maxLen ∧ HoldsL 2 two w' x (L.drop (dueN L t)) ∧ Holds .i64 w' z (dueN L t) (dueF L) ∧ Ext w w' ∧ Within a x ∧ Fresh w z ∧ dueN L t ≤ u ∧ u ≤ maxLen := by
  obtain ⟨i0, hi0, hz0, hz1, hz2⟩ := info_parts Try.infoI
  obtain ⟨B, hB⟩ : ∃ B, B = w.heap.size := ⟨_, rfl⟩
  have hb0 : Below B w w := by rw [hB]; exact Below.refl _ _
  have HB := Lib.hid hB
  have HL := Lib.hid hL
  have hcm' : c ≤ 9223372036854775807 := hcm
  clear hB hL
  rcases Nat.eq_zero_or_pos n with hn0 | hn0
  · have hLn : L = [] := List.eq_nil_of_length_eq_zero (HL.out.trans hn0)
    subst hLn
    subst hn0
    go_enter Try.func20, Try.ntmps20
    go_wp2
    go_loopw [0, 6] (fun s v wr => s = .slice a 0 c ∧ v = .slice none 0 0 ∧ wr = w) (fun s _ _ => slen s)
    case atStart => exact ⟨rfl, rfl, rfl⟩
    case round =>
      obtain ⟨rfl, rfl, rfl⟩ := hrel
      go_wp2
      go_ret2
      exact ⟨a, c, none, 0, rfl, Nat.zero_le _, hcm, .inl rfl, .inl rfl, Ext.refl _, Within.refl _, Fresh.nil _, Nat.le_refl _, Nat.zero_le _⟩
  · obtain ⟨p, o, rfl, hp, _⟩ := ha.resolve_left (by intro e; subst e; have := HL.out; simp at this; omega)
    go_enter Try.func20, Try.ntmps20
    go_wp2
    go_loopw [0, 6] (fun s v wr => ∃ (k : Nat) (A : Option Addr), k ≤ n ∧ s = .slice A (n - k) (c - k) ∧ (k < n → A = some ⟨p, o + k * 2, none⟩) ∧ Within (some ⟨p, o, none⟩) A ∧ (∀ j, (h : j < L.length) → j < k → (L[j]).2 ≤ t) ∧ wr.ownsRow B 3 1 v k (lst .i64 (dueF L) k) ∧ Below B w wr) (fun s _ _ => slen s)
    case atStart => exact ⟨0, _, Nat.zero_le _, rfl, fun _ => by simp, Within.refl _, fun j _ h => absurd h (by omega), World.ownsRow_nil _ _ _ _, hb0⟩
    case round =>
      obtain ⟨k, A, hk, rfl, hA, hW0, hno0, hown, hbl⟩ := hrel
      have HW := Lib.hid hW0
      clear hW0
      have hno := Lib.hid hno0
      clear hno0
      have hLn := HL.out
      obtain ⟨r, hr⟩ : ∃ r, r = n - k := ⟨_, rfl⟩
      obtain ⟨cr, hcr⟩ : ∃ cr, cr = c - k := ⟨_, rfl⟩
      obtain ⟨o2, ho2⟩ : ∃ o2, o2 = o + k * 2 := ⟨_, rfl⟩
      rw [← hr, ← hcr]
      have HR := Lib.hid hr
      have HC := Lib.hid hcr
      have HO := Lib.hid ho2
      rw [← ho2] at hA
      by_cases hlt : k < n
      · obtain rfl := hA hlt
        have hkL : k < L.length := by omega
        obtain ⟨c0, c1⟩ := ha.two_at k hkL
        rw [← ho2] at c0 c1
        have hpB : p < B := by rw [HB.out]; exact hp
        have d0 := (hbl.cell (p := ⟨p, o2, none⟩) hpB).trans c0
        have d1 := (hbl.cell (p := ⟨p, o2 + 1, none⟩) hpB).trans c1
        have hr0 : 0 < (r : Int) := by omega
        have hcr2 : r ≤ cr := by omega
        obtain ⟨y, hy⟩ : ∃ y, y = L[k] := ⟨_, rfl⟩
        rw [← hy] at d0 d1
        have HY := Lib.hid hy
        have hyk : y.1 = dueF L k := by unfold dueF; rw [List.getD_eq_getElem?_getD, List.getElem?_eq_getElem hkL, hy]; rfl
        have hBs : B ≤ wr.heap.size := by have := hbl.size; rw [HB.out]; exact this
        clear c0 c1 hy hr hcr ho2 hLn
        by_cases he : y.2 ≤ t
        · have HE := Lib.hid he
          have he1 : decide (y.2 ≤ t) = true := decide_eq_true he
          go_wp2_with (at_builtin; refine wpList_append_lies _ rfl (.tmp 18) (.tmp 23) _ rfl B 3 i0 _ 1 8 Try.underlying45 hi0 hz0 hz1 hz2 rfl (by omega) _ k _ rfl (own_ext hown (Ext.alloc _ _)) ⟨wr.heap.size, 0, none⟩ 1 1 [.int .i64 (dueF L k)] rfl (by rfl) (World.news_of_block (cs := #[.int .i64 (dueF L k)]) (t := 3) (fr := (0, 0)) (heap_alloc_new wr _)) (by simp [Value.oneCell']) (by omega) (by unfold maxLen; omega) (by omega) (by simp; omega) (wr.heap.size + 1) (by simp) ?_; intro gg cap w1 hown1 hgrow hat hlt1)
          have hob : ∀ q, u6.ownBlock = some q → B ≤ q := fun q hq => (hown.lt q hq).1
          have hown2 : w1.ownsRow B 3 1 (.slice (some ⟨gg, 0, none⟩) (k + 1) cap) (k + 1) (lst .i64 (dueF L) (k + 1)) := by rw [← lst_succ]; exact hown1
          have hb2 : Below B w w1 := (hbl.alloc hBs _).grown hgrow (by simp; omega) hob
          clear hown1 hgrow hat hlt1 hown hbl hob d0 d1
          go_wp2
          go_roundw
          case rel =>
            refine ⟨k + 1, (if cr = 1 then some ⟨p, o2, none⟩ else some ⟨p, o2 + 2, none⟩), by omega, ?_, fun hk1 => ?_, fun r hr => ⟨_, rfl, by split at hr <;> (cases hr; rfl)⟩, fun j h hj => ?_, hown2, hb2⟩
            · have e1 := HR.out; have e2 := HC.out
              rw [show n - (k + 1) = r - 1 by omega, show c - (k + 1) = cr - 1 by omega]
            · have e1 := HR.out; have e2 := HC.out; have e3 := HO.out
              rw [if_neg (by omega), show o + (k + 1) * 2 = o2 + 2 by omega]
            · by_cases e : j = k
              · subst e; rw [← HY.out]; exact HE.out
              · exact hno.out j h (by omega)
          case measure => simp [slen]; omega
        · have hd : dueN L t = k := dueN_at L t k hno.out (by omega) (fun h => by rw [← HY.out]; exact he)
          have HD := Lib.hid hd
          have he1 : decide (y.2 ≤ t) = false := decide_eq_false he
          obtain ⟨z, u, hv, zu, um, hz, nz⟩ := Holds.of_own_at hown
          subst hv
          have hdr := ha.dropN k
          rw [← HO.out] at hdr
          have x9 : Ext w wr := by rw [Ext, ← HB.out]; exact hbl
          clear hown hbl hd hyk he
          go_wp2
          clear d0 d1
          go_ret2
          refine ⟨some ⟨p, o2, none⟩, cr, z, ⟨u, ?_, ?_, ?_, ?_, ?_, x9, HW.out, by rw [HB.out] at nz; exact nz, by rw [HD.out]; exact zu, um⟩⟩
          · rw [HD.out, ← HR.out]; rfl
          · have e1 := HR.out; have e2 := HD.out; omega
          · have := HC.out; omega
          · rw [HD.out]; exact hdr.ext x9
          · rw [HD.out]; exact hz
      · obtain rfl : k = n := by omega
        have hd : dueN L t = k := dueN_at L t k hno.out (by omega) (fun h => by omega)
        have HD := Lib.hid hd
        have hr0 : r = 0 := by have := HR.out; omega
        obtain ⟨z, u, hv, zu, um, hz, nz⟩ := Holds.of_own_at hown
        subst hv
        have hdr : HoldsL 2 two wr A (L.drop k) := .inl (List.drop_eq_nil_of_le (by omega))
        have x9 : Ext w wr := by rw [Ext, ← HB.out]; exact hbl
        have hcr2 : r ≤ cr := by omega
        have hcr3 : cr ≤ c := by omega
        clear hown hbl hd hr hcr ho2 hLn
        subst hr0
        go_wp2
        go_ret2
        refine ⟨A, cr, z, u, ?_, ?_, ?_, ?_, ?_, x9, HW.out, by rw [HB.out] at nz; exact nz, by rw [HD.out]; exact zu, um⟩
        · rw [HD.out, ← HR.out]; rfl
        · rw [HD.out, ← HR.out]; omega
        · omega
        · rw [HD.out]; exact hdr
        · rw [HD.out]; exact hz
end Go.Proofs.Ytgjfomnipjljoaa
