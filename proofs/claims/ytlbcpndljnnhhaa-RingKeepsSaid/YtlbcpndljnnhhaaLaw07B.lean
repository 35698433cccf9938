/-
  THE LAWS OF LAYER 7: the walk of RingKeeps.
-/
import Derived.Test.YtlbcpndljnnhhaaLaw07A
import Derived.Deep.LoopGhost
namespace Go.Proofs.Ytlbcpndljnnhhaa
open Go.RowKit

/-- A struct of an integer and a byte. -/
def kb (x : Int × Int) : List Value := [.int .i64 x.1, .int .u8 x.2]
theorem HoldsL.kb_at {w : World} {b off : Nat} {L : List (Int × Int)} (h : HoldsL 2 kb w (some ⟨b, off, none⟩) L) (i : Nat) (hi : i < L.length) :
    w.cell? ⟨b, off + i * 2, none⟩ = some (.int .i64 (L[i]).1) ∧ w.cell? ⟨b, off + i * 2 + 1, none⟩ = some (.int .u8 (L[i]).2) := by
  rcases h with h | ⟨b', off', ha, hlt, hc⟩
  · subst h; simp at hi
  · cases ha
    exact ⟨hc i L[i] (by simp [hi]) 0 _ rfl, hc i L[i] (by simp [hi]) 1 _ rfl⟩
def WfKB (O : List (Int × Int)) : Prop := ∀ x ∈ O, (Lit.int .i64 x.1).wf = true ∧ 0 ≤ x.2 ∧ x.2 < 256
set_option maxRecDepth 100000 in
set_option maxHeartbeats 4000000 in
theorem ringKeeps.in (room : Nat) (a : Option Addr) (n c : Nat) (O : List (Int × Int)) (w : World) (hr1 : 1 ≤ room) (hr2 : room ≤ 64) (ha : HoldsL 2 kb w a O) (hO : O.length = n) (hn : n ≤ 300) (hw : WfKB O) :
    Calls Try.prog 3 #[.int .i64 room, .slice a n c] w fun e w' => e = .returned (.bool true) ∧ Ext w w' := by
  have HO := Lib.hid hO
  have HW := Lib.hid hw
  have HA := Lib.hid ha
  have hr3 : (1 : Int) ≤ (room : Int) := by omega
  have hr4 : (room : Int) ≤ 64 := by omega
  clear hO hw ha
  go_enter Try.func3, Try.ntmps3
  go_wp2_with fail
  refine (gnew_ok room _ hr1 hr2).mono ?_; rintro e w1 ⟨p, F, rfl, x1, T1, n1⟩
  go_wp2
  go_loopg [5, 6, 7] n (fun h qv lv iv wr => ∃ (i p : Nat) (F : Nat → Prop) (L : List Int) (x : Option Addr) (y : Nat), i + h = n ∧ iv = .int .i64 i ∧ qv = .pointer (some ⟨p, 0, none⟩) ∧ lv = .slice x L.length y ∧ L.length ≤ y ∧ y ≤ maxLen ∧ RG wr p F room L ∧ Holds .u8 wr x L.length (ofL L) ∧ OffN F x L.length ∧ Ext w wr ∧ Above w F)
  case atStart => exact ⟨0, p, F, [], none, 0, by omega, rfl, rfl, rfl, Nat.zero_le _, Nat.zero_le _, T1, .inl rfl, OffN.none _ _, x1, n1⟩
  case round =>
    clear T1 n1 x1
    obtain ⟨i, p, F, L, x, y, hi, rfl, rfl, rfl, hLy, hy, T, hx, ho, xr, nF⟩ := hrel
    cases gk with
    | zero =>
      obtain rfl : i = n := by omega
      have hi1 : ¬ ((i : Int) < i) := by omega
      clear HA
      go_wp2_with fail
      refine (sure7_any _).mono ?_; rintro e w2 ⟨rfl, x2⟩
      have x9 := xr.trans x2
      clear T hx ho xr x2 nF
      go_wp2
      go_ret
      exact ⟨rfl, x9⟩
    | succ h =>
      have hiO : i < O.length := by rw [HO.out]; omega
      obtain ⟨b, off, rfl, hb, -⟩ := HA.out.resolve_left (by intro e; rw [e] at hiO; simp at hiO)
      obtain ⟨c0, c1⟩ := HA.out.kb_at i hiO
      obtain ⟨-, hq0, hq1⟩ := HW.out O[i] (List.getElem_mem _)
      have hi1 : (i : Int) < n := by omega
      have d0 := xr.cell hb c0
      have d1 := xr.cell hb c1
      have HC1 := Lib.hid (fun w' (x : Ext w w') => x.cell hb c1)
      generalize (O[i]).1 = k at d0 c0
      generalize (O[i]).2 = q at hq0 hq1 d1 HC1 c1
      have hmay := T.may
      have hlen : L.length ≤ 64 := by omega
      clear c0 c1 hiO hmay
      by_cases h0 : k = 0
      · subst h0
        have hLn : L.length ≤ 1000000 := by omega
        have hLy' : L.length ≤ 9223372036854775807 := by omega
        have HRP := Lib.hid (fun w' (hx : Holds .u8 w' x L.length (ofL L)) => rput_any x y L room q w' hx hLn hr1 hr2)
        have hHo := Lib.hid ho
        obtain ⟨n0, hn0⟩ : ∃ n0, n0 = L.length := ⟨_, rfl⟩
        rw [← hn0] at hx HRP hHo hLy hLy' ⊢
        clear ho hlen hLn hn0
        go_wp2_with fail
        refine (gput_any p room F L q _ T hq0 hq1).mono ?_; rintro e w2 ⟨rfl, G, k2, T2, g2⟩
        have xr2 := xr.keep k2 nF
        have nG := nF.grows g2 xr
        have hx2 := hx.keepN k2 hHo.out
        have e1 := HC1.out _ xr2
        clear d0 d1 T hx xr nF k2 g2
        go_wp2_with fail
        refine (HRP.out _ hx2).mono ?_; rintro e w3 ⟨x3, y3, rfl, l3, m3, h3, x3e, f3⟩
        have T3 := T2.ext x3e
        have o3 : OffN G x3 (putL L room q).length := .inr (f3.off T2.lt)
        have xr3 := xr2.trans x3e
        clear e1 hx2 T2 x3e xr2 f3 HRP
        generalize putL L room q = M at T3 h3 l3 o3 ⊢
        obtain ⟨hm0, -, hm2, hmw⟩ := T3.may
        cases M with
        | nil =>
          have hLa := glast_any p room G [] w3 T3
          simp only [List.headD_nil, List.isEmpty_nil, Bool.not_true] at hLa
          go_wp2_with fail
          refine hLa.mono ?_; rintro e w5 ⟨rfl, x5⟩
          have T5 := T3.ext x5
          have xr5 := xr3.trans x5
          clear T3 xr3 x5 h3
          go_wp2_with fail
          refine (glist_any p room G [] _ T5).mono ?_; rintro e w6 ⟨z, u, rfl, -, -, hz, x6⟩
          have T6 := T5.ext x6
          have xr6 := xr5.trans x6
          clear T5 xr5 x6 hz
          go_wp2_with fail
          refine (bytes_any _ _ 0 0 _ _ (fun _ => 0) (fun _ => 0) _ (.inl rfl) (.inl rfl) (by omega) (by omega)).mono ?_; rintro e w7 ⟨rfl, q7⟩
          rw [eqB_true rfl (fun _ _ => rfl)]
          have x7 := Ext.of_drewN q7
          have T7 := T6.ext x7
          have xr7 := xr6.trans x7
          clear T6 xr6 x7 q7
          go_wp2_with fail
          refine (glen_any p room G [] _ T7).mono ?_; rintro e w8 ⟨rfl, x8⟩
          have T8 := T7.ext x8
          have xr8 := xr7.trans x8
          clear T7 xr7 x8
          go_wp2
          go_roundg h
          case rel => exact ⟨i + 1, p, G, [], x3, y3, by omega, by go_num, rfl, rfl, Nat.zero_le _, m3, T8, .inl rfl, .inl rfl, xr8, nG⟩
          case measure => omega
        | cons v M' =>
          have hLa := glast_any p room G (v :: M') w3 T3
          simp only [List.headD_cons, List.isEmpty_cons, Bool.not_false] at hLa
          have hv0 : ofL (v :: M') 0 = v := rfl
          have hml : (v :: M').length ≤ 64 := by omega
          have hm1 : 0 < (v :: M').length := by simp
          generalize hN : v :: M' = N at *
          obtain ⟨m, hm⟩ : ∃ m, m = N.length := ⟨_, rfl⟩
          have HM := Lib.hid hm
          have HLi := Lib.hid (fun w' (T : RG w' p G room N) => glist_any p room G N w' T)
          have HLe := Lib.hid (fun w' (T : RG w' p G room N) => glen_any p room G N w' T)
          rw [← hm] at l3 h3 o3 HLi HLe hml hm1 ⊢
          have hm1' : (0 : Int) < (m : Int) := by omega
          clear hm hN hm1 hm0 hmw
          go_wp2_with fail
          refine hLa.mono ?_; rintro e w5 ⟨rfl, x5⟩
          have T5 := T3.ext x5
          have h5 := h3.ext x5
          have xr5 := xr3.trans x5
          clear T3 xr3 x5 h3 hLa
          go_wp2_with fail
          refine (HLi.out _ T5).mono ?_; rintro e w6 ⟨z, u, rfl, -, -, hz, x6⟩
          have T6 := T5.ext x6
          have h6 := h5.ext x6
          have xr6 := xr5.trans x6
          clear T5 xr5 x6 h5
          go_wp2_with fail
          refine (bytes_any _ _ m m _ _ _ _ _ hz h6 (by omega) (by omega)).mono ?_; rintro e w7 ⟨rfl, q7⟩
          rw [eqB_true rfl (fun _ _ => rfl)]
          have x7 := Ext.of_drewN q7
          have T7 := T6.ext x7
          have h7 := h6.ext x7
          have xr7 := xr6.trans x7
          clear T6 xr6 x7 q7 h6 hz
          go_wp2_with fail
          refine (HLe.out _ T7).mono ?_; rintro e w8 ⟨rfl, x8⟩
          have T8 := T7.ext x8
          have h8 := h7.ext x8
          have xr8 := xr7.trans x8
          clear T7 xr7 x8 h7
          obtain ⟨bx, ox, rfl, hbx, hcx⟩ := id (h8.resolve_left (by omega))
          have cx := hcx 0 (by omega)
          rw [hv0, Nat.add_zero] at cx
          clear hcx hv0
          go_wp2
          go_roundg h
          case rel => exact ⟨i + 1, p, G, N, _, y3, by omega, by go_num, rfl, by rw [← HM.out], by rw [← HM.out]; exact l3, m3, T8, by rw [← HM.out]; exact h8, by rw [← HM.out]; exact o3, xr8, nG⟩
          case measure => omega
      · by_cases h1 : k = 1
        · subst h1
          clear hlen
          go_wp2_with fail
          refine (gclear_any p room F L _ T).mono ?_; rintro e w2 ⟨rfl, G, k2, T2, g2⟩
          have xr2 := xr.keep k2 nF
          have nG := nF.grows g2 xr
          have h2 : Holds .u8 w2 none 0 (ofL []) := .inl rfl
          have m2 : 0 ≤ maxLen := Nat.zero_le _
          clear d0 d1 T hx xr nF k2 g2 ho
          obtain ⟨hm0, -, hm2, hmw⟩ := T2.may
          have hLa := glast_any p room G [] w2 T2
          simp only [List.headD_nil, List.isEmpty_nil, Bool.not_true] at hLa
          go_wp2_with fail
          refine hLa.mono ?_; rintro e w5 ⟨rfl, x5⟩
          have T5 := T2.ext x5
          have xr5 := xr2.trans x5
          clear T2 xr2 x5 h2
          go_wp2_with fail
          refine (glist_any p room G [] _ T5).mono ?_; rintro e w6 ⟨z, u, rfl, -, -, hz, x6⟩
          have T6 := T5.ext x6
          have xr6 := xr5.trans x6
          clear T5 xr5 x6 hz
          go_wp2_with fail
          refine (bytes_any _ _ 0 0 _ _ (fun _ => 0) (fun _ => 0) _ (.inl rfl) (.inl rfl) (by omega) (by omega)).mono ?_; rintro e w7 ⟨rfl, q7⟩
          rw [eqB_true rfl (fun _ _ => rfl)]
          have x7 := Ext.of_drewN q7
          have T7 := T6.ext x7
          have xr7 := xr6.trans x7
          clear T6 xr6 x7 q7
          go_wp2_with fail
          refine (glen_any p room G [] _ T7).mono ?_; rintro e w8 ⟨rfl, x8⟩
          have T8 := T7.ext x8
          have xr8 := xr7.trans x8
          clear T7 xr7 x8
          go_wp2
          go_roundg h
          case rel => exact ⟨i + 1, p, G, [], none, 0, by omega, by go_num, rfl, rfl, Nat.zero_le _, m2, T8, .inl rfl, .inl rfl, xr8, nG⟩
          case measure => omega
        · have HL := Lib.hid (fun w' (k : Keep F wr w') => hx.keepN k ho)
          have hLt := Lib.hid T.lt
          clear hlen
          go_wp2_with fail
          refine (gclone_any p room F L _ T).mono ?_; rintro e w2 ⟨r, G, rfl, x2, R2, n2⟩
          have T2 := T.ext x2
          have hGF : ∀ i, G i → ¬ F i := fun i hi hf => absurd (n2 i hi) (by have := hLt.out i hf; omega)
          have nG : Above w G := n2.of xr
          have oG : OffN G x L.length := hx.offN n2 (Nat.le_refl _)
          clear d0 d1 T hx ho
          go_wp2_with fail
          refine (gput_any p room F L 7 _ T2 (by omega) (by omega)).mono ?_; rintro e w3 ⟨rfl, F3, k3, _, _⟩
          have R3 := R2.keep k3 hGF
          have k4 : Keep F wr w3 := (Keep.of_ext x2).trans k3 (fun _ h => .inl h)
          have h3 := HL.out w3 k4
          have xr3 := xr.keep k4 nF
          clear T2 R2 x2 k3 k4 HL xr nF n2
          obtain ⟨hm0, -, hm2, hmw⟩ := R3.may
          cases L with
          | nil =>
            have hLa := glast_any r room G [] w3 R3
            simp only [List.headD_nil, List.isEmpty_nil, Bool.not_true] at hLa
            go_wp2_with fail
            refine hLa.mono ?_; rintro e w5 ⟨rfl, x5⟩
            have T5 := R3.ext x5
            have xr5 := xr3.trans x5
            clear R3 xr3 x5 h3
            go_wp2_with fail
            refine (glist_any r room G [] _ T5).mono ?_; rintro e w6 ⟨z, u, rfl, -, -, hz, x6⟩
            have T6 := T5.ext x6
            have xr6 := xr5.trans x6
            clear T5 xr5 x6 hz
            go_wp2_with fail
            refine (bytes_any _ _ 0 0 _ _ (fun _ => 0) (fun _ => 0) _ (.inl rfl) (.inl rfl) (by omega) (by omega)).mono ?_; rintro e w7 ⟨rfl, q7⟩
            rw [eqB_true rfl (fun _ _ => rfl)]
            have x7 := Ext.of_drewN q7
            have T7 := T6.ext x7
            have xr7 := xr6.trans x7
            clear T6 xr6 x7 q7
            go_wp2_with fail
            refine (glen_any r room G [] _ T7).mono ?_; rintro e w8 ⟨rfl, x8⟩
            have T8 := T7.ext x8
            have xr8 := xr7.trans x8
            clear T7 xr7 x8
            go_wp2
            go_roundg h
            case rel => exact ⟨i + 1, r, G, [], x, y, by omega, by go_num, rfl, rfl, Nat.zero_le _, hy, T8, .inl rfl, .inl rfl, xr8, nG⟩
            case measure => omega
          | cons v M' =>
            have hLa := glast_any r room G (v :: M') w3 R3
            simp only [List.headD_cons, List.isEmpty_cons, Bool.not_false] at hLa
            have hv0 : ofL (v :: M') 0 = v := rfl
            have hml : (v :: M').length ≤ 64 := by omega
            have hm1 : 0 < (v :: M').length := by simp
            generalize hN : v :: M' = N at *
            obtain ⟨m, hm⟩ : ∃ m, m = N.length := ⟨_, rfl⟩
            have HM := Lib.hid hm
            have HLi := Lib.hid (fun w' (T : RG w' r G room N) => glist_any r room G N w' T)
            have HLe := Lib.hid (fun w' (T : RG w' r G room N) => glen_any r room G N w' T)
            rw [← hm] at hLy h3 oG HLi HLe hml hm1 ⊢
            have hm1' : (0 : Int) < (m : Int) := by omega
            clear hm hN hm1 hm0 hmw
            go_wp2_with fail
            refine hLa.mono ?_; rintro e w5 ⟨rfl, x5⟩
            have T5 := R3.ext x5
            have h5 := h3.ext x5
            have xr5 := xr3.trans x5
            clear R3 xr3 x5 h3 hLa
            go_wp2_with fail
            refine (HLi.out _ T5).mono ?_; rintro e w6 ⟨z, u, rfl, -, -, hz, x6⟩
            have T6 := T5.ext x6
            have h6 := h5.ext x6
            have xr6 := xr5.trans x6
            clear T5 xr5 x6 h5
            go_wp2_with fail
            refine (bytes_any _ _ m m _ _ _ _ _ hz h6 (by omega) (by omega)).mono ?_; rintro e w7 ⟨rfl, q7⟩
            rw [eqB_true rfl (fun _ _ => rfl)]
            have x7 := Ext.of_drewN q7
            have T7 := T6.ext x7
            have h7 := h6.ext x7
            have xr7 := xr6.trans x7
            clear T6 xr6 x7 q7 h6 hz
            go_wp2_with fail
            refine (HLe.out _ T7).mono ?_; rintro e w8 ⟨rfl, x8⟩
            have T8 := T7.ext x8
            have h8 := h7.ext x8
            have xr8 := xr7.trans x8
            clear T7 xr7 x8 h7
            obtain ⟨bx, ox, rfl, hbx, hcx⟩ := id (h8.resolve_left (by omega))
            have cx := hcx 0 (by omega)
            rw [hv0, Nat.add_zero] at cx
            clear hcx hv0
            go_wp2
            go_roundg h
            case rel => exact ⟨i + 1, r, G, N, _, y, by omega, by go_num, rfl, by rw [← HM.out], by rw [← HM.out]; exact hLy, hy, T8, by rw [← HM.out]; exact h8, by rw [← HM.out]; exact oG, xr8, nG⟩
            case measure => omega
end Go.Proofs.Ytlbcpndljnnhhaa
