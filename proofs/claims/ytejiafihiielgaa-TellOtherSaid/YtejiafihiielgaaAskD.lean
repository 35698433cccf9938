/-
  CONTRACTS: package ask (layer 15): fieldsOf, Known, fits, lists.
-/
import Derived.Test.YtejiafihiielgaaAskA
import Derived.Test.YtejiafihiielgaaAskS
namespace Go.Proofs.Ytejiafihiielgaa
open Go.RowKit
set_option linter.unusedVariables false
set_option maxRecDepth 100000

theorem call_enters {P : Program} {f : FuncId} {fn : Func} {c : Code} (hf : P.funcs[f]? = some fn) (hname : (fn.name == "runtime.NumGoroutine") = false) (hb : fn.body = some c) (args : Array Value) (w : World) :
    (callFunc f args).run P w = .ok (.enter f args) w := by
  have h1 : fn.name ≠ "runtime.NumGoroutine" := by simpa using hname
  simp [callFunc, hf, h1, hb]
/-- A reader that was told: it is entered when it is called, and tells the fields. -/
structure ReadC (F : FuncId) (k : Int) : Prop where
  enters : ∀ (args : Array Value) (w : World), (callFunc F args).run Try.prog w = .ok (.enter F args) w
  tells : ∀ (p : Nat) (W : World), Calls Try.prog F #[.pointer (some ⟨p, 0, none⟩)] W (FldP p k W)
set_option maxHeartbeats 4000000 in
theorem fieldsOf_yes (k : Int) (h : knownB k = true) (w : World) : Calls Try.prog 47 #[.int .i64 k] w fun e w' => ∃ F, e = .returned (.func (Fn.func F) #[] #[]) ∧ ReadC F k ∧ w' = w := by
  have hk := (known_iff k).1 h
  clear h
  rcases hk with rfl | rfl | rfl | rfl | rfl | rfl | rfl | rfl | rfl | rfl
  all_goals
    go_enter Try.func47, Try.ntmps47
    go_wp2
    go_ret
  · exact ⟨_, rfl, ⟨fun args w => call_enters Try.func59 (by kernel_rfl) rfl args w, fun p W => fld_readBits p _ (by decide) W⟩, rfl⟩
  · exact ⟨_, rfl, ⟨fun args w => call_enters Try.func59 (by kernel_rfl) rfl args w, fun p W => fld_readBits p _ (by decide) W⟩, rfl⟩
  · exact ⟨_, rfl, ⟨fun args w => call_enters Try.func60 (by kernel_rfl) rfl args w, fun p W => fld_readRegs p _ (by decide) W⟩, rfl⟩
  · exact ⟨_, rfl, ⟨fun args w => call_enters Try.func60 (by kernel_rfl) rfl args w, fun p W => fld_readRegs p _ (by decide) W⟩, rfl⟩
  · exact ⟨_, rfl, ⟨fun args w => call_enters Try.func61 (by kernel_rfl) rfl args w, fun p W => fld_setBit p _ (by decide) W⟩, rfl⟩
  · exact ⟨_, rfl, ⟨fun args w => call_enters Try.func62 (by kernel_rfl) rfl args w, fun p W => fld_setReg p _ (by decide) W⟩, rfl⟩
  · exact ⟨_, rfl, ⟨fun args w => call_enters Try.func63 (by kernel_rfl) rfl args w, fun p W => fld_setBits p _ (by decide) W⟩, rfl⟩
  · exact ⟨_, rfl, ⟨fun args w => call_enters Try.func64 (by kernel_rfl) rfl args w, fun p W => fld_setRegs p _ (by decide) W⟩, rfl⟩
  · exact ⟨_, rfl, ⟨fun args w => call_enters Try.func65 (by kernel_rfl) rfl args w, fun p W => fld_mask p _ (by decide) W⟩, rfl⟩
  · exact ⟨_, rfl, ⟨fun args w => call_enters Try.func66 (by kernel_rfl) rfl args w, fun p W => fld_readSetRegs p _ (by decide) W⟩, rfl⟩
set_option maxHeartbeats 4000000 in
theorem fieldsOf_no (k : Int) (h : knownB k = false) (w : World) : Calls Try.prog 47 #[.int .i64 k] w fun e w' => e = .returned .nilFunc ∧ w' = w := by
  have hk : ¬ (k = 1 ∨ k = 2 ∨ k = 3 ∨ k = 4 ∨ k = 5 ∨ k = 6 ∨ k = 15 ∨ k = 16 ∨ k = 22 ∨ k = 23) := fun hh => by have := (known_iff k).2 hh; rw [h] at this; cases this
  have b1 : (k == 1) = false := by simp; omega
  have b2 : (k == 2) = false := by simp; omega
  have b3 : (k == 3) = false := by simp; omega
  have b4 : (k == 4) = false := by simp; omega
  have b5 : (k == 5) = false := by simp; omega
  have b6 : (k == 6) = false := by simp; omega
  have b15 : (k == 15) = false := by simp; omega
  have b16 : (k == 16) = false := by simp; omega
  have b22 : (k == 22) = false := by simp; omega
  have b23 : (k == 23) = false := by simp; omega
  clear hk h
  go_enter Try.func47, Try.ntmps47
  go_wp2
  go_ret
  exact ⟨rfl, rfl⟩
theorem nil_in (d : Nat) (F : FuncId) (w : World) : (Op.equalIn (d + 1) 82 (.func (Fn.func F) #[] #[]) .nilFunc).run Try.prog w = .ok false w := by
  have hu := Try.underlying82
  simp [Op.equalIn, run_underlying hu]
theorem nil_in' (d : Nat) (w : World) : (Op.equalIn (d + 1) 82 .nilFunc .nilFunc).run Try.prog w = .ok true w := by
  have hu := Try.underlying82
  simp [Op.equalIn, run_underlying hu]
theorem nil_ne (F : FuncId) (w : World) : (binOp .neq 82 (.func (Fn.func F) #[] #[]) .nilFunc).run Try.prog w = .ok (.bool true) w := by
  have h := nil_in 9999 F w
  simp only [binOp, Op.equal, Op.maxDepth, Sem.run_bind]
  rw [h]; rfl
theorem nil_eq (w : World) : (binOp .neq 82 .nilFunc .nilFunc).run Try.prog w = .ok (.bool false) w := by
  have h := nil_in' 9999 w
  simp only [binOp, Op.equal, Op.maxDepth, Sem.run_bind]
  rw [h]; rfl
theorem aknown_v {k : Int} {B : Bool} (h : knownB k = B) (w : World) : Calls Try.prog 46 #[.int .i64 k] w fun e w' => e = .returned (.bool B) ∧ w' = w := by
  cases B with
  | true =>
    have H := Lib.hid (fun w => fieldsOf_yes k h w)
    have hne := nil_ne
    clear h
    go_enter Try.func46, Try.ntmps46
    go_wp2_with fail
    refine (H.out _).mono ?_; rintro e w1 ⟨F, rfl, -, rfl⟩
    go_wp2
    go_ret
    exact ⟨rfl, rfl⟩
  | false =>
    have H := Lib.hid (fun w => fieldsOf_no k h w)
    have hne := nil_eq
    clear h
    go_enter Try.func46, Try.ntmps46
    go_wp2_with fail
    refine (H.out _).mono ?_; rintro e w1 ⟨rfl, rfl⟩
    go_wp2
    go_ret
    exact ⟨rfl, rfl⟩
theorem fitI_iff (l h t n : Int) : fitI l h t n = true ↔ l ≤ n ∧ n ≤ h ∧ (n - l) % t = 0 := by unfold fitI; rw [decide_eq_true_iff]
set_option maxHeartbeats 2000000 in
theorem fits_any (p o : Nat) (l h t n : Int) (w : World) (hc : w.cell? ⟨p, o, none⟩ = some (.int .i64 n)) (hb : 0 ≤ l ∧ l ≤ 1 ∧ 0 ≤ h ∧ h ≤ 65535 ∧ 1 ≤ t ∧ t ≤ 65280) :
    Calls Try.prog 48 #[.agg #[.pointer (some ⟨p, o, none⟩), .int .i64 l, .int .i64 h, .int .i64 t]] w fun e w' => e = .returned (.bool (fitI l h t n)) ∧ Ext w w' := by
  have H := Lib.hid (fitI_iff l h t n)
  generalize fitI l h t n = B at H ⊢
  have e0 := Ext.alloc w (.cells #[.pointer (some ⟨p, o, none⟩), .int .i64 l, .int .i64 h, .int .i64 t] 87)
  have c1 := e0.cell (World.block_lt_of_cell? _ _ hc) hc
  clear hc
  by_cases h1 : l ≤ n
  · by_cases h2 : n ≤ h
    · have hs : IntKind.i64.wrap (n - l) = n - l := IntWalk.i64_in _ (by omega)
      have ht0 : (t == 0) = false := by simp; omega
      have htn : t ≠ 0 := by omega
      have hm : (n - l).tmod t = (n - l) % t := Int.tmod_eq_emod_of_nonneg (by omega)
      have hw : IntKind.i64.wrap ((n - l).tmod t) = (n - l).tmod t := by
        rw [hm]
        have := Int.emod_nonneg (n - l) htn
        have := Int.emod_lt_of_pos (n - l) (show 0 < t by omega)
        exact IntWalk.i64_in _ (by omega)
      have HM := Lib.hid hm
      have HH := Lib.hid (show B = decide ((n - l) % t = 0) by
        cases B
        · exact (decide_eq_false fun hq => by have := H.out.2 ⟨h1, h2, hq⟩; cases this).symm
        · exact (decide_eq_true (H.out.1 rfl).2.2).symm)
      clear H
      have hd1 : decide (l ≤ n) = true := decide_eq_true h1
      have hd2 : decide (n ≤ h) = true := decide_eq_true h2
      clear hm hb
      go_enter Try.func48, Try.ntmps48
      go_wp2
      go_ret
      refine ⟨?_, e0⟩
      rw [HH.out]
      show Ending.returned (.bool ((n - l) % t == 0)) = _
      refine ret_b ?_
      by_cases hz : (n - l) % t = 0
      · rw [hz]; rfl
      · rw [decide_eq_false hz]; simp [hz]
    · have hB : B = false := by
        cases B
        · rfl
        · exact absurd (H.out.1 rfl).2.1 h2
      subst hB
      clear H hb
      have hd1 : decide (l ≤ n) = true := decide_eq_true h1
      have hd2 : decide (n ≤ h) = false := decide_eq_false h2
      go_enter Try.func48, Try.ntmps48
      go_wp2
      go_ret
      exact ⟨rfl, e0⟩
  · have hB : B = false := by
      cases B
      · rfl
      · exact absurd (H.out.1 rfl).1 h1
    subst hB
    clear H hb
    have hd1 : decide (l ≤ n) = false := decide_eq_false h1
    go_enter Try.func48, Try.ntmps48
    go_wp2
    go_ret
    exact ⟨rfl, e0⟩
set_option maxHeartbeats 2000000 in
theorem lists_any (V : QstV) (Q : Qst) (w : World) : Calls Try.prog 49 #[.agg (qstC V Q)] w fun e w' => e = .returned (.tuple #[.int .i64 (ofbQ Q), .int .i64 (ofrQ Q)]) ∧ Ext w w' := by
  unfold ofbQ ofrQ
  obtain ⟨k, ad, ct, va, an, oo, fr, mn, nb, B, nr, R⟩ := Q
  obtain ⟨a1, d1, a2, d2⟩ := V
  unfold qstC
  dsimp only
  have e0 := Ext.alloc w (.cells #[.int .i64 k, .int .i64 ad, .int .i64 ct, .int .i64 va, .int .i64 an, .int .i64 oo, .int .i64 fr, .int .i64 mn, .slice a1 nb d1, .slice a2 nr d2] 25)
  by_cases h1 : k = 15
  · subst h1
    rw [if_pos rfl, if_neg (by decide)]
    go_enter Try.func49, Try.ntmps49
    go_wp2
    go_ret2
    exact ⟨rfl, e0⟩
  by_cases h2 : k = 16
  · subst h2
    rw [if_neg (by decide), if_pos (by decide)]
    go_enter Try.func49, Try.ntmps49
    go_wp2
    go_quiet (fail)
    go_wp2
    go_ret2
    exact ⟨rfl, e0.trans (Ext.drewN _ _)⟩
  by_cases h3 : k = 23
  · subst h3
    rw [if_neg (by decide), if_pos (by decide)]
    go_enter Try.func49, Try.ntmps49
    go_wp2
    go_quiet (fail)
    go_wp2
    go_ret2
    exact ⟨rfl, e0.trans (Ext.drewN _ _)⟩
  rw [if_neg h1, if_neg (by omega)]
  have b1 : (k == 15) = false := by simp; omega
  have b2 : (k == 16) = false := by simp; omega
  have b3 : (k == 23) = false := by simp; omega
  clear h1 h2 h3
  go_enter Try.func49, Try.ntmps49
  go_wp2
  go_ret2
  exact ⟨rfl, e0⟩
end Go.Proofs.Ytejiafihiielgaa
