/-
  CONTRACTS: bilgeref06.
-/
import Derived.Test.YtgjfomnipjljoaaRows
import Derived.Test.YtgjfomnipjljoaaBools
import Derived.Test.YtgjfomnipjljoaaLater
import Derived.Test.YtgjfomnipjljoaaKeep
import Derived.Test.YtgjfomnipjljoaaStructs
import Derived.WalkLawsBesides
import Derived.WalkSpells
import Derived.Deep.QuietTactic
import Derived.BigQuiet
import Derived.RegionTactic
import Derived.Outline
import Derived.Lib.Hide
import Derived.Handy
import Derived.IntWalk
namespace Go.Proofs.Ytgjfomnipjljoaa
open Go.RowKit

/-- Where a number stands. -/
def placeI (L : List (Int × Int)) (q : Int) : Int := match L.findIdx? (fun x => x.1 == q) with
  | some k => (k : Int)
  | none => -1
theorem placeI_at {L : List (Int × Int)} {q : Int} {k : Nat} (hk : k < L.length) (h : (L[k]).1 = q) (hno : ∀ j, (h : j < L.length) → j < k → (L[j]).1 ≠ q) : placeI L q = k := by
  have : L.findIdx? (fun x => x.1 == q) = some k := by
    rw [List.findIdx?_eq_some_iff_getElem]
    exact ⟨hk, by simpa using h, fun j hj => by simpa using hno j (by omega) hj⟩
  unfold placeI; rw [this]
theorem placeI_no {L : List (Int × Int)} {q : Int} (hno : ∀ j, (h : j < L.length) → (L[j]).1 ≠ q) : placeI L q = -1 := by
  have : L.findIdx? (fun x => x.1 == q) = none := by
    rw [List.findIdx?_eq_none_iff]
    intro x hx
    obtain ⟨j, hj, rfl⟩ := List.getElem_of_mem hx
    simpa using hno j hj
  unfold placeI; rw [this]
set_option maxHeartbeats 1000000 in
theorem rfind_any (a : Option Addr) (n c : Nat) (L : List (Int × Int)) (q : Int) (w : World) (ha : HoldsL 2 two w a L) (hL : L.length = n) (hn : n ≤ 1000000) :
    Calls Try.prog 11 #[.slice a n c, .int .i64 q] w fun e w' => e = .returned (.int .i64 (placeI L q)) ∧ w = w' := by
  obtain ⟨z, hz⟩ : ∃ z, z = placeI L q := ⟨_, rfl⟩
  rw [← hz]
  have HZ := Lib.hid hz
  have HL := Lib.hid hL
  clear hz hL
  go_enter Try.func11, Try.ntmps11
  go_wp2
  go_loop [5] (fun i => ∃ k : Nat, k ≤ n ∧ i = .int .i64 k ∧ ∀ j, (h : j < L.length) → j < k → (L[j]).1 ≠ q) (fun i => n - (intOf i).toNat)
  case atStart => exact ⟨0, Nat.zero_le _, rfl, fun j _ h => absurd h (by omega)⟩
  case round =>
    obtain ⟨k, hk, rfl, hno0⟩ := hrel
    have hno := Lib.hid hno0
    clear hno0
    have hLn := HL.out
    by_cases hlt : k < n
    · have hkL : k < L.length := by omega
      obtain ⟨p, o, rfl, hp, _⟩ := ha.resolve_left (by intro e; subst e; simp at hkL)
      obtain ⟨c0, c1⟩ := ha.two_at k hkL
      have hlt' : (k : Int) < n := by omega
      obtain ⟨X, hX⟩ : ∃ X, X = (L[k]).1 := ⟨_, rfl⟩
      rw [← hX] at c0
      have HX := Lib.hid hX
      by_cases he : X = q
      · have hv := placeI_at hkL (hX.symm.trans he) (fun j h hj => hno.out j h hj)
        rw [← HZ.out] at hv
        subst he
        have HV := Lib.hid hv
        clear hX hv hLn ha c1
        go_wp2
        go_ret
        exact ⟨by rw [HV.out]; rfl, rfl⟩
      · have he' : (X == q) = false := by simpa using he
        have HE := Lib.hid he
        clear hX hLn ha c1 he
        go_wp2
        go_round
        case rel => exact ⟨k + 1, by omega, by go_num, fun j h hj => by
          by_cases e : j = k
          · subst e; rw [← HX.out]; exact HE.out
          · exact hno.out j h (by omega)⟩
        case measure => simp [intOf]; omega
    · obtain rfl : k = n := by omega
      have hv := placeI_no (q := q) (L := L) (fun j h => hno.out j h (by omega))
      rw [← HZ.out] at hv
      have HV := Lib.hid hv
      clear hv hLn ha
      go_wp2
      go_ret
      exact ⟨by rw [HV.out]; rfl, rfl⟩

theorem Try.infoTimer : (Try.prog.info? 35).map (fun i => (i.zero, i.size, i.bytes)) = some (some (.agg #[.int .i64 0, .int .i64 0]), 2, 16) := by kernel_rfl
/-- Without a number. -/
def dropI (L : List (Int × Int)) (q : Int) : List (Int × Int) := L.filter fun x => x.1 != q
theorem dropI_length (L : List (Int × Int)) (q : Int) : (dropI L q).length ≤ L.length := List.length_filter_le _ _
theorem dropI_succ (L : List (Int × Int)) (q : Int) (k : Nat) (hk : k < L.length) : dropI (L.take (k + 1)) q = if (L[k]).1 = q then dropI (L.take k) q else dropI (L.take k) q ++ [L[k]] := by
  unfold dropI
  rw [List.take_succ_eq_append_getElem hk, List.filter_append]
  by_cases h : (L[k]).1 = q
  · rw [if_pos h]; simp [h]
  · rw [if_neg h]; simp [h]
set_option maxHeartbeats 1000000 in
theorem rdrop_any (a : Option Addr) (n c : Nat) (L : List (Int × Int)) (q : Int) (w : World) (ha : HoldsL 2 two w a L) (hL : L.length = n) (hn : n ≤ 1000000) :
    Calls Try.prog 19 #[.slice a n c, .int .i64 q] w fun e w' => ∃ x y, e = .returned (.slice x (dropI L q).length y) ∧ (dropI L q).length ≤ y ∧ y ≤ maxLen ∧ HoldsL 2 two w' x (dropI L q) ∧ Ext w w' ∧ Fresh w x := by
  obtain ⟨i0, hi0, hz0, hz1, hz2⟩ := info_parts Try.infoTimer
  obtain ⟨B, hB⟩ : ∃ B, B = w.heap.size := ⟨_, rfl⟩
  have hb0 : Below B w w := by rw [hB]; exact Below.refl _ _
  have HB := Lib.hid hB
  have HL := Lib.hid hL
  clear hB hL
  go_enter Try.func19, Try.ntmps19
  go_wp2
  go_loopw [5, 6] (fun v i wr => ∃ k m : Nat, k ≤ n ∧ i = .int .i64 k ∧ m = (dropI (L.take k) q).length ∧ wr.ownsRow B 35 2 v m ((dropI (L.take k) q).flatMap two) ∧ Below B w wr) (fun _ i _ => n - (intOf i).toNat)
  case atStart => exact ⟨0, 0, Nat.zero_le _, rfl, rfl, World.ownsRow_nil _ _ _ _, hb0⟩
  case round =>
    obtain ⟨k, m, hk, rfl, hm, hown, hbl⟩ := hrel
    have hLn := HL.out
    have HM := Lib.hid hm
    by_cases hlt : k < n
    · have hkL : k < L.length := by omega
      have hmk : m ≤ k := by
        have := dropI_length (L.take k) q
        rw [List.length_take] at this
        omega
      obtain ⟨p, o, rfl, hp, _⟩ := ha.resolve_left (by intro e; subst e; simp at hkL)
      obtain ⟨c0, c1⟩ := ha.two_at k hkL
      have hpB : p < B := by rw [HB.out]; exact hp
      have d0 := (hbl.cell (p := ⟨p, o + k * 2, none⟩) hpB).trans c0
      have d1 := (hbl.cell (p := ⟨p, o + k * 2 + 1, none⟩) hpB).trans c1
      have hsucc := dropI_succ L q k hkL
      obtain ⟨y, hy⟩ : ∃ y, y = L[k] := ⟨_, rfl⟩
      rw [← hy] at d0 d1 hsucc
      have hBs : B ≤ wr.heap.size := by have := hbl.size; rw [HB.out]; exact this
      have hlt' : (k : Int) < n := by omega
      clear c0 c1 ha hm hy
      by_cases he : y.1 = q
      · rw [if_pos he] at hsucc
        have he' : (y.1 != q) = false := by simp [he]
        have HS := Lib.hid hsucc
        clear he hsucc hLn
        go_wp2
        go_roundw
        case rel => exact ⟨k + 1, m, by omega, by go_num, by rw [HS.out, HM.out], by rw [HS.out]; exact hown, hbl⟩
        case measure => simp [intOf]; omega
      · rw [if_neg he] at hsucc
        have he' : (y.1 != q) = true := by simp [he]
        have HS := Lib.hid hsucc
        clear he hsucc hLn
        obtain ⟨y0, y1⟩ := y
        simp only at d0 d1 he'
        go_wp2_with (at_builtin; refine wpList_append_el rfl _ _ _ rfl B 35 i0 _ 16 Try.underlying26 hi0 hz0 hz1 hz2 rfl (by omega) _ m _ rfl (own_ext hown (Ext.alloc _ _)) _ _ _ _ (y0, y1) rfl (heap_alloc_new _ _) rfl rfl (by simp [two, Value.oneCell']) (by unfold maxLen; omega) (by omega) (by simp; omega) ?_; intro v2 w2 hown2 hb2)
        have hbl2 : Below B w w2 := (hbl.alloc hBs _).trans hb2
        clear hown hb2 hbl
        go_wp2
        go_roundw
        case rel => exact ⟨k + 1, m + 1, by omega, by go_num, by rw [HS.out, List.length_append, ← HM.out]; rfl, by rw [HS.out]; exact hown2, hbl2⟩
        case measure => simp [intOf]; omega
    · obtain rfl : k = n := by omega
      have hall : L.take k = L := List.take_of_length_le (by omega)
      rw [hall] at hown HM
      obtain ⟨x, y, hv, l9, m9, hh, n9⟩ := HoldsL.of_own two_length hown HM.out
      subst hv
      have x9 : Ext w wr := by rw [Ext, ← HB.out]; exact hbl
      have hmm := HM.out
      clear hm hLn ha hown
      go_wp2
      go_ret
      exact ⟨x, y, by rw [← hmm]; rfl, by rw [← hmm]; exact l9, m9, hh, x9, by rw [HB.out] at n9; exact n9⟩

/-- Is one due ahead of another one? -/
def BeforeP (x y : Int × Int) : Prop := x.2 < y.2 ∨ x.2 = y.2 ∧ x.1 < y.1
instance (x y : Int × Int) : Decidable (BeforeP x y) := by unfold BeforeP; infer_instance
def beforeB (x y : Int × Int) : Bool := decide (BeforeP x y)
theorem beforeB_iff (a b c d : Int) : beforeB (a, b) (c, d) = true ↔ (b < d ∨ b = d ∧ a < c) := by unfold beforeB; rw [decide_eq_true_iff]; exact Iff.rfl
set_option maxHeartbeats 1000000 in
theorem rbefore_any (a b c d : Int) (w : World) : Calls Try.prog 30 #[.agg #[.int .i64 a, .int .i64 b], .agg #[.int .i64 c, .int .i64 d]] w fun e w' => e = .returned (.bool (beforeB (a, b) (c, d))) ∧ Ext w w' := by
  have H := Lib.hid (beforeB_iff a b c d)
  generalize beforeB (a, b) (c, d) = R at H ⊢
  rcases (show b < d ∨ (¬ b < d ∧ b ≠ d) ∨ b = d by omega) with h | ⟨h1, h2⟩ | h
  · go_enter Try.func30, Try.ntmps30
    go_wp2
    all_goals
      go_ret
      first
        | exact ⟨ret_b (b_true H.out (by omega)), (Ext.alloc _ _).trans (Ext.alloc _ _)⟩
        | exact ⟨ret_b (b_false H.out (by omega)), (Ext.alloc _ _).trans (Ext.alloc _ _)⟩
        | exact ⟨ret_b (b_dec H.out (by omega)), (Ext.alloc _ _).trans (Ext.alloc _ _)⟩
  · have h2' : (b == d) = false := by simpa using h2
    go_enter Try.func30, Try.ntmps30
    go_wp2
    all_goals
      go_ret
      first
        | exact ⟨ret_b (b_true H.out (by omega)), (Ext.alloc _ _).trans (Ext.alloc _ _)⟩
        | exact ⟨ret_b (b_false H.out (by omega)), (Ext.alloc _ _).trans (Ext.alloc _ _)⟩
        | exact ⟨ret_b (b_dec H.out (by omega)), (Ext.alloc _ _).trans (Ext.alloc _ _)⟩
  · subst h
    go_enter Try.func30, Try.ntmps30
    go_wp2
    all_goals
      go_ret
      first
        | exact ⟨ret_b (b_true H.out (by omega)), (Ext.alloc _ _).trans (Ext.alloc _ _)⟩
        | exact ⟨ret_b (b_false H.out (by omega)), (Ext.alloc _ _).trans (Ext.alloc _ _)⟩
        | exact ⟨ret_b (b_dec (Q := a < c) H.out ⟨fun x => x.elim (fun y => absurd y (Int.lt_irrefl _)) (fun y => y.2), fun x => .inr ⟨trivial, x⟩⟩), (Ext.alloc _ _).trans (Ext.alloc _ _)⟩

/-- In its place. -/
def insI (t : Int × Int) : List (Int × Int) → List (Int × Int)
  | [] => [t]
  | y :: r => if beforeB t y then t :: y :: r else y :: insI t r
theorem insI_none (t : Int × Int) : ∀ L : List (Int × Int), (∀ y, y ∈ L → beforeB t y = false) → insI t L = L ++ [t]
  | [], _ => rfl
  | y :: r, h => by
    have h1 := h y (by simp)
    simp only [insI, h1]
    rw [insI_none t r (fun z hz => h z (by simp [hz]))]; rfl
theorem insI_here (t y : Int × Int) (M : List (Int × Int)) (hy : beforeB t y = true) : ∀ L : List (Int × Int), (∀ z, z ∈ L → beforeB t z = false) → insI t (L ++ y :: M) = L ++ t :: y :: M
  | [], _ => by simp only [List.nil_append, insI, hy]; rfl
  | x :: r, h => by
    have h1 := h x (by simp)
    simp only [List.cons_append, insI, h1]
    rw [insI_here t y M hy r (fun z hz => h z (by simp [hz]))]; rfl
theorem insI_more (t : Int × Int) (M : List (Int × Int)) : ∀ L : List (Int × Int), (∃ y, y ∈ L ∧ beforeB t y = true) → insI t (L ++ M) = insI t L ++ M
  | [], h => by obtain ⟨y, hy, _⟩ := h; simp at hy
  | x :: r, h => by
    simp only [List.cons_append, insI]
    by_cases hx : beforeB t x = true
    · rw [if_pos hx, if_pos hx]; rfl
    · rw [if_neg hx, if_neg hx, insI_more t M r]
      · rfl
      · obtain ⟨y, hy, hb⟩ := h
        rcases List.mem_cons.1 hy with rfl | hy
        · exact absurd hb hx
        · exact ⟨y, hy, hb⟩
theorem insI_length (t : Int × Int) : ∀ L : List (Int × Int), (insI t L).length = L.length + 1
  | [] => rfl
  | y :: r => by
    simp only [insI]
    split
    · rfl
    · simp [insI_length t r]
/-- Where the round stands: what is out, and whether the new one is among it. -/
def InsAt (t : Int × Int) (L : List (Int × Int)) (k : Nat) (O : List (Int × Int)) (dn : Bool) : Prop :=
  (dn = false ∧ O = L.take k ∧ ∀ y, y ∈ L.take k → beforeB t y = false) ∨ (dn = true ∧ O = insI t (L.take k) ∧ ∃ y, y ∈ L.take k ∧ beforeB t y = true)
theorem InsAt.start (t : Int × Int) (L : List (Int × Int)) : InsAt t L 0 [] false := .inl ⟨rfl, rfl, fun y hy => by simp at hy⟩
theorem InsAt.skip {t : Int × Int} {L O : List (Int × Int)} {k : Nat} (h : InsAt t L k O false) (hk : k < L.length) (hb : beforeB t L[k] = false) : InsAt t L (k + 1) (O ++ [L[k]]) false := by
  rcases h with ⟨_, ho, hno⟩ | ⟨h, _⟩
  · refine .inl ⟨rfl, by rw [ho, List.take_succ_eq_append_getElem hk], fun y hy => ?_⟩
    rw [List.take_succ_eq_append_getElem hk] at hy
    rcases List.mem_append.1 hy with hy | hy
    · exact hno y hy
    · rw [List.mem_singleton.1 hy]; exact hb
  · cases h
theorem InsAt.found {t : Int × Int} {L O : List (Int × Int)} {k : Nat} (h : InsAt t L k O false) (hk : k < L.length) (hb : beforeB t L[k] = true) : InsAt t L (k + 1) (O ++ [t] ++ [L[k]]) true := by
  rcases h with ⟨_, ho, hno⟩ | ⟨h, _⟩
  · refine .inr ⟨rfl, ?_, L[k], by rw [List.take_succ_eq_append_getElem hk]; exact List.mem_append_right _ (List.mem_singleton.2 rfl), hb⟩
    rw [ho, List.take_succ_eq_append_getElem hk, insI_here t L[k] [] hb _ hno]; simp
  · cases h
theorem InsAt.more {t : Int × Int} {L O : List (Int × Int)} {k : Nat} (h : InsAt t L k O true) (hk : k < L.length) : InsAt t L (k + 1) (O ++ [L[k]]) true := by
  rcases h with ⟨h, _⟩ | ⟨_, ho, y, hy, hb⟩
  · cases h
  · refine .inr ⟨rfl, ?_, y, by rw [List.take_succ_eq_append_getElem hk]; exact List.mem_append_left _ hy, hb⟩
    rw [ho, List.take_succ_eq_append_getElem hk, insI_more t [L[k]] _ ⟨y, hy, hb⟩]
theorem InsAt.end_no {t : Int × Int} {L O : List (Int × Int)} (h : InsAt t L L.length O false) : O ++ [t] = insI t L := by
  rcases h with ⟨_, ho, hno⟩ | ⟨h, _⟩
  · rw [List.take_length] at ho hno; rw [ho, insI_none t L hno]
  · cases h
theorem InsAt.end_yes {t : Int × Int} {L O : List (Int × Int)} (h : InsAt t L L.length O true) : O = insI t L := by
  rcases h with ⟨h, _⟩ | ⟨_, ho, _⟩
  · cases h
  · rw [List.take_length] at ho; exact ho
theorem InsAt.length {t : Int × Int} {L O : List (Int × Int)} {k : Nat} {dn : Bool} (h : InsAt t L k O dn) : O.length ≤ k + 1 := by
  rcases h with ⟨_, ho, _⟩ | ⟨_, ho, _⟩
  · rw [ho, List.length_take]; omega
  · rw [ho, insI_length, List.length_take]; omega
end Go.Proofs.Ytgjfomnipjljoaa
