/-
  LISTS OF SEGMENTS; bilgeref09.Alike.
-/
import Derived.Test.YtlemnjphjmnmbaaSegR
import Derived.Deep.LoopGhost
namespace Go.Proofs.Ytlemnjphjmnmbaa
open Go.RowKit

/-- A segment, and where its bytes lie. -/
abbrev SegP := (Option Addr × Nat) × Seg
def segL (x : SegP) : List Value := [.slice x.1.1 x.2.n x.1.2, .int .i64 x.2.first, .int .i64 x.2.last, .int .i64 x.2.count, .bool x.2.gap, .bool x.2.bad]
theorem segL_length (x : SegP) : (segL x).length = 6 := rfl
/-- From a on lie the segments of L, each with its bytes. -/
structure Segs (w : World) (a : Option Addr) (L : List SegP) : Prop where
  holds : HoldsL 6 segL w a L
  each : ∀ x ∈ L, Holds .u8 w x.1.1 x.2.n x.2.f ∧ x.2.n ≤ x.1.2 ∧ x.1.2 ≤ maxLen ∧ SegB x.2
theorem Segs.ext {w w' : World} {a : Option Addr} {L : List SegP} (h : Segs w a L) (x : Ext w w') : Segs w' a L :=
  ⟨h.holds.ext x, fun y hy => ⟨(h.each y hy).1.ext x, (h.each y hy).2⟩⟩
theorem HoldsL.seg_at {w : World} {b off : Nat} {L : List SegP} (h : HoldsL 6 segL w (some ⟨b, off, none⟩) L) (i : Nat) (hi : i < L.length) :
    w.cell? ⟨b, off + i * 6, none⟩ = some (.slice (L[i]).1.1 (L[i]).2.n (L[i]).1.2) ∧ w.cell? ⟨b, off + i * 6 + 1, none⟩ = some (.int .i64 (L[i]).2.first) ∧ w.cell? ⟨b, off + i * 6 + 2, none⟩ = some (.int .i64 (L[i]).2.last) ∧
      w.cell? ⟨b, off + i * 6 + 3, none⟩ = some (.int .i64 (L[i]).2.count) ∧ w.cell? ⟨b, off + i * 6 + 4, none⟩ = some (.bool (L[i]).2.gap) ∧ w.cell? ⟨b, off + i * 6 + 5, none⟩ = some (.bool (L[i]).2.bad) := by
  rcases h with h | ⟨b', off', ha, hlt, hc⟩
  · subst h; simp at hi
  · cases ha
    have e : ∀ j v, (segL L[i])[j]? = some v → w.cell? ⟨b, off + i * 6 + j, none⟩ = some v := fun j v hv => hc i L[i] (by simp [hi]) j v hv
    exact ⟨e 0 _ rfl, e 1 _ rfl, e 2 _ rfl, e 3 _ rfl, e 4 _ rfl, e 5 _ rfl⟩
/-- Are segments the same, one by one? -/
def alikeB : List SegP → List SegP → Bool
  | [], [] => true
  | x :: L, y :: M => sameB x.2 y.2 && alikeB L M
  | _, _ => false
theorem alikeB_len : ∀ {L M : List SegP}, L.length ≠ M.length → alikeB L M = false
  | [], [], h => absurd rfl h
  | [], _ :: _, _ => rfl
  | _ :: _, [], _ => rfl
  | x :: L, y :: M, h => by
    unfold alikeB
    rw [alikeB_len (L := L) (M := M) (by simpa using h), Bool.and_false]
set_option maxRecDepth 100000 in
set_option maxHeartbeats 2000000 in
theorem ralike_any (a b : Option Addr) (n m c d : Nat) (L M : List SegP) (w : World) (ha : Segs w a L) (hb : Segs w b M) (hL : L.length = n) (hM : M.length = m) (hn : n ≤ 1000000) (hm : m ≤ 1000000)
    (hLn : ∀ x ∈ L, x.2.n ≤ 1000000) (hMn : ∀ x ∈ M, x.2.n ≤ 1000000) :
    Calls Try.prog 16 #[.slice a n c, .slice b m d] w fun e w' => e = .returned (.bool (alikeB L M)) ∧ Ext w w' := by
  by_cases hnm : n = m
  · subst hnm
    obtain ⟨R, hR⟩ : ∃ R, R = alikeB L M := ⟨_, rfl⟩
    rw [← hR]
    have HR := Lib.hid hR
    have HA := Lib.hid ha
    have HB := Lib.hid hb
    have HL := Lib.hid hL
    have HM := Lib.hid hM
    have HLn := Lib.hid hLn
    have HMn := Lib.hid hMn
    clear hR ha hb hL hM hLn hMn
    go_enter Try.func16, Try.ntmps16
    go_wp2
    go_loopw [5] (fun iv wr => ∃ k : Nat, k ≤ n ∧ iv = .int .i64 k ∧ Ext w wr ∧ R = alikeB (L.drop k) (M.drop k)) (fun iv _ => n - (intOf iv).toNat)
    case atStart => exact ⟨0, Nat.zero_le _, rfl, Ext.refl _, HR.out⟩
    case round =>
      obtain ⟨k, hk, rfl, xr, hr⟩ := hrel
      have HRk := Lib.hid hr
      clear hr
      by_cases hlt : k < n
      · have hkL : k < L.length := by rw [HL.out]; exact hlt
        have hkM : k < M.length := by rw [HM.out]; exact hlt
        obtain ⟨p, o, rfl, hp, -⟩ := HA.out.holds.resolve_left (by intro e; rw [e] at hkL; simp at hkL)
        obtain ⟨p', o', rfl, hp', -⟩ := HB.out.holds.resolve_left (by intro e; rw [e] at hkM; simp at hkM)
        obtain ⟨a0, a1, a2, a3, a4, a5⟩ := HA.out.holds.seg_at k hkL
        obtain ⟨b0, b1, b2, b3, b4, b5⟩ := HB.out.holds.seg_at k hkM
        have hlt' : (k : Int) < n := by omega
        obtain ⟨ea, -, -, -⟩ := HA.out.each L[k] (List.getElem_mem _)
        obtain ⟨eb, -, -, -⟩ := HB.out.each M[k] (List.getElem_mem _)
        have hs := fun w' (x : Ext w w') => rsame_any (L[k]).1.1 (M[k]).1.1 (L[k]).1.2 (M[k]).1.2 (L[k]).2 (M[k]).2 w' (ea.ext x) (eb.ext x) (HLn.out _ (List.getElem_mem _)) (HMn.out _ (List.getElem_mem _))
        have hdr : R = (sameB (L[k]).2 (M[k]).2 && alikeB (L.drop (k + 1)) (M.drop (k + 1))) := by
          rw [HRk.out, List.drop_eq_getElem_cons hkL, List.drop_eq_getElem_cons hkM]; rfl
        have HD := Lib.hid hdr
        generalize L[k] = x at a0 a1 a2 a3 a4 a5 hs HD
        generalize M[k] = y at b0 b1 b2 b3 b4 b5 hs HD
        obtain ⟨⟨A, u⟩, s⟩ := x
        obtain ⟨⟨B, v⟩, t⟩ := y
        unfold segC at hs
        simp only at a0 a1 a2 a3 a4 a5 b0 b1 b2 b3 b4 b5 hs HD
        have P0 := Later.cell (xr.cell hp a0); have P1 := Later.cell (xr.cell hp a1); have P2 := Later.cell (xr.cell hp a2); have P3 := Later.cell (xr.cell hp a3); have P4 := Later.cell (xr.cell hp a4); have P5 := Later.cell (xr.cell hp a5)
        have Q0 := Later.cell (xr.cell hp' b0); have Q1 := Later.cell (xr.cell hp' b1); have Q2 := Later.cell (xr.cell hp' b2); have Q3 := Later.cell (xr.cell hp' b3); have Q4 := Later.cell (xr.cell hp' b4); have Q5 := Later.cell (xr.cell hp' b5)
        have HS := Lib.hid (fun w' (x : Ext wr w') => hs w' (xr.trans x))
        clear a0 a1 a2 a3 a4 a5 b0 b1 b2 b3 b4 b5 hs hdr ea eb hkL hkM
        generalize sameB s t = z at HS HD
        go_wp2_with fail
        refine wp_region_later (by kernel_rfl) (by kernel_rfl) ?_
        repeat (go_big_quiet_step (first | (go_at_call 33; exact later_of (HS.out _ (Later.ext _)))))
        refine wpQuiet_nil ?_
        intro _ hw'
        obtain ⟨x, rfl⟩ := hw'
        have x9 := xr.trans x.ext
        generalize x.at = w9 at x9 ⊢
        clear P0 P1 P2 P3 P4 P5 Q0 Q1 Q2 Q3 Q4 Q5 HS
        cases z
        · go_wp2
          go_ret
          exact ⟨by rw [HD.out]; rfl, x9⟩
        · have HD2 := Lib.hid (show R = alikeB (L.drop (k + 1)) (M.drop (k + 1)) by rw [HD.out, Bool.true_and])
          clear HD
          go_wp2
          go_roundw
          case rel => exact ⟨k + 1, by omega, by go_num, x9, HD2.out⟩
          case measure => simp [intOf]; omega
      · have hr1 : R = true := by rw [HRk.out, List.drop_of_length_le (by rw [HL.out]; omega), List.drop_of_length_le (by rw [HM.out]; omega)]; rfl
        have HR1 := Lib.hid hr1
        clear hr1
        go_wp2
        go_ret
        exact ⟨by rw [HR1.out]; rfl, xr⟩
  · rw [alikeB_len (by rw [hL, hM]; exact hnm)]
    have hne : ((n : Int) != (m : Int)) = true := by simp; omega
    clear ha hb hL hM hLn hMn
    go_enter Try.func16, Try.ntmps16
    go_wp2
    go_ret
    exact ⟨rfl, Ext.refl _⟩
end Go.Proofs.Ytlemnjphjmnmbaa
