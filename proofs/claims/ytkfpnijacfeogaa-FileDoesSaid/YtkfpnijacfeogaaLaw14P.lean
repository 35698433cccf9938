/-
  THE LAWS OF LAYER 14, PLAIN: what is measured twice, and read.
-/
import Derived.Test.YtkfpnijacfeogaaFilC
import Derived.Test.YtkfpnijacfeogaaFilU
namespace Go.Proofs.Ytkfpnijacfeogaa
open Go.RowKit
set_option linter.unusedVariables false

theorem seE_holds {F : Fil} {x : Int} (h : seE F true x = 0) : rightB F = true ∧ rdE F.rf F.rc F.nR x 1 = 0 := by
  cases hr : rightB F with
  | false => rw [seE_wrong hr] at h; cases h
  | true => exact ⟨rfl, by rw [seE_words hr] at h; exact h⟩
theorem seE_holdsB {F : Fil} {x : Int} (h : seE F false x = 0) : rightB F = true ∧ rdE F.jf F.jc F.nI x 1 = 0 := by
  cases hr : rightB F with
  | false => rw [seE_wrong hr] at h; cases h
  | true => exact ⟨rfl, by rw [seE_bits hr] at h; exact h⟩
theorem rd_place {f c n x : Int} (h : rdE f c n x 1 = 0) : f ≤ x := by
  unfold rdE at h
  by_cases h1 : rgtB f c = true ∧ n = c ∧ 1 ≤ (1 : Int)
  · rw [if_pos h1] at h
    cases hh : holdB f c x 1 with
    | false => rw [hh, if_neg (by decide)] at h; cases h
    | true => have := (holdB_iff f c x 1).1 hh; omega
  · rw [if_neg h1] at h; cases h
theorem seE_seF {F : Fil} {I : Bool} {i v : Int} (h : seE F I i = 0) (k : Int) : seE (seF F I i v) I k = seE F I k := by
  cases I
  · rw [seF_bits h]; rfl
  · rw [seF_words h]; rfl
theorem wr_two {α : Type} (l : Nat → α) (u v : α) {f x y : Int} (hx : f ≤ x) (hy : f ≤ y) (hne : x ≠ y) : wrF (wrF l (fun _ => u) f x 1) (fun _ => v) f y 1 = wrF (wrF l (fun _ => v) f y 1) (fun _ => u) f x 1 := by
  funext i
  unfold wrF
  obtain ⟨p, hp⟩ : ∃ p : Nat, p = (x - f).toNat := ⟨_, rfl⟩
  obtain ⟨q, hq⟩ : ∃ q : Nat, q = (y - f).toNat := ⟨_, rfl⟩
  have hpq : p ≠ q := by omega
  rw [← hp, ← hq]
  by_cases h1 : i = p
  · subst h1
    by_cases h2 : i < q
    · rw [if_pos h2, if_neg (by omega), if_pos (by omega), if_neg (by omega), if_pos (by omega)]
    · rw [if_neg h2, if_neg (by omega), if_neg (by omega), if_pos (by omega), if_neg (by omega), if_pos (by omega)]
  · by_cases h2 : i = q
    · subst h2
      by_cases h3 : i < p
      · rw [if_neg (by omega), if_pos (by omega), if_pos h3, if_neg (by omega), if_pos (by omega)]
      · rw [if_neg (by omega), if_pos (by omega), if_neg h3, if_neg (by omega), if_neg (by omega), if_pos (by omega)]
    · have a1 : ∀ {β : Type} (z r s : β), (if i < p then z else if i < p + 1 then r else s) = if i < p then z else s := fun z r s => by
        by_cases c : i < p
        · rw [if_pos c, if_pos c]
        · rw [if_neg c, if_neg c, if_neg (by omega)]
      have a2 : ∀ {β : Type} (z r s : β), (if i < q then z else if i < q + 1 then r else s) = if i < q then z else s := fun z r s => by
        by_cases c : i < q
        · rw [if_pos c, if_pos c]
        · rw [if_neg c, if_neg c, if_neg (by omega)]
      rw [a1, a2, a1, a2, ite_self, ite_self, ite_self, ite_self]
theorem se_swap {F : Fil} {I : Bool} {i k u v : Int} (hi : seE F I i = 0) (hk : seE F I k = 0) (hne : i ≠ k) : seF (seF F I i u) I k v = seF (seF F I k v) I i u := by
  have e1 := (seE_seF (v := u) hi k).trans hk
  have e2 := (seE_seF (v := v) hk i).trans hi
  cases I
  · rw [seF_bits e1, seF_bits e2, seF_bits hi, seF_bits hk]
    have h := wr_two F.I (decide (u ≠ 0)) (decide (v ≠ 0)) (rd_place (seE_holdsB hi).2) (rd_place (seE_holdsB hk).2) hne
    simp only
    rw [h]
  · rw [seF_words e1, seF_words e2, seF_words hi, seF_words hk]
    have h := wr_two F.R (u % 65536) (v % 65536) (rd_place (seE_holds hi).2) (rd_place (seE_holds hk).2) hne
    simp only
    rw [h]
theorem wr_own {α : Type} (l : Nat → α) (u : α) (f x : Int) : wrF l (fun _ => u) f x 1 ((x - f).toNat + 0) = u := by
  unfold wrF; rw [if_neg (by omega), if_pos (by omega)]
/-- What was measured is read. -/
theorem se_words {F : Fil} {k v : Int} (h : seE F true k = 0) : wrdE (seF F true k v) true k 1 = 0 ∧ wrdN (seF F true k v) true k 1 = 1 ∧ wrdL (seF F true k v) true k 0 = v % 65536 := by
  have e : wrdE (seF F true k v) true k 1 = 0 := (seE_seF (v := v) h k).trans h
  refine ⟨e, by unfold wrdN; rw [if_pos e]; rfl, ?_⟩
  rw [seF_words h]
  exact wr_own F.R (v % 65536) F.rf k
theorem se_bits {F : Fil} {k v : Int} (h : seE F false k = 0) : bitE (seF F false k v) true k 1 = 0 ∧ bitN (seF F false k v) true k 1 = 1 ∧ bitL (seF F false k v) true k 0 = decide (v ≠ 0) := by
  have e : bitE (seF F false k v) true k 1 = 0 := (seE_seF (v := v) h k).trans h
  refine ⟨e, by unfold bitN; rw [if_pos e]; rfl, ?_⟩
  rw [seF_bits h]
  exact wr_own F.I (decide (v ≠ 0)) F.jf k
theorem wr_read {α : Type} (l v : Nat → α) (f x : Int) (m i : Nat) (h : i < m) : rdF (wrF l v f x m) f x i = v i := by
  unfold rdF wrF
  rw [if_neg (by omega), if_pos (by omega), show (x - f).toNat + i - (x - f).toNat = i by omega]
/-- What was written is read. -/
theorem sb_reads {F : Fil} {x : Int} {m : Nat} {v : Nat → Bool} (h : sbE F x m = 0) : bitE (sbF F x m v) false x m = 0 ∧ bitN (sbF F x m v) false x m = m ∧ ∀ i, i < m → bitL (sbF F x m v) false x i = v i := by
  have e : bitE (sbF F x m v) false x m = 0 := by rw [sbF_yes h]; exact h
  refine ⟨e, by unfold bitN; rw [if_pos e]; exact Int.toNat_natCast m, fun i hi => ?_⟩
  rw [sbF_yes h]
  exact wr_read F.C v F.cf x m i hi
theorem sw_reads {F : Fil} {x : Int} {m : Nat} {v : Nat → Int} (h : swE F x m = 0) : wrdE (swF F x m v) false x m = 0 ∧ wrdN (swF F x m v) false x m = m ∧ ∀ i, i < m → wrdL (swF F x m v) false x i = v i := by
  have e : wrdE (swF F x m v) false x m = 0 := by rw [swF_yes h]; exact h
  refine ⟨e, by unfold wrdN; rw [if_pos e]; exact Int.toNat_natCast m, fun i hi => ?_⟩
  rw [swF_yes h]
  exact wr_read F.H v F.hf x m i hi
theorem sbE_right' {F : Fil} {x : Int} {m : Nat} (h : sbE F x m = 0) : rightB F = true := by
  cases hr : rightB F with
  | false => rw [sbE_wrong hr] at h; cases h
  | true => rfl
theorem swE_right' {F : Fil} {x : Int} {m : Nat} (h : swE F x m = 0) : rightB F = true := by
  cases hr : rightB F with
  | false => rw [swE_wrong hr] at h; cases h
  | true => rfl
theorem right_sb {F : Fil} {x : Int} {m : Nat} {v : Nat → Bool} (h : sbE F x m = 0) : rightB (sbF F x m v) = true := by rw [sbF_yes h]; exact sbE_right' h
theorem right_sw {F : Fil} {x : Int} {m : Nat} {v : Nat → Int} (h : swE F x m = 0) : rightB (swF F x m v) = true := by rw [swF_yes h]; exact swE_right' h
theorem right_se {F : Fil} {I : Bool} {x v : Int} (h : seE F I x = 0) : rightB (seF F I x v) = true := by
  cases I
  · rw [seF_bits h]; exact (seE_holdsB h).1
  · rw [seF_words h]; exact (seE_holds h).1
/-- A file that may be stays one. -/
theorem right_opF {F : Fil} (h : rightB F = true) (o : Ope) : rightB (opF F o) = true := by
  unfold opF
  split
  · rename_i h0
    unfold opE at h0
    unfold opX
    split
    · rename_i k; rw [if_pos k] at h0; exact right_sb h0
    · rename_i k; rw [if_neg k] at h0
      split
      · rename_i k; rw [if_pos k] at h0; exact right_sw h0
      · rename_i k; rw [if_neg k] at h0
        split
        · rename_i k; rw [if_pos k] at h0; exact right_se h0
        · rename_i k; rw [if_neg k] at h0
          split
          · rename_i k; rw [if_pos k] at h0; exact right_se h0
          · exact h
  · exact h
theorem right_new {F : Fil} (h : bankB F = true) : rightB (newF F) = true := by
  have := bank_small h
  exact (rightB_iff _).2 ⟨h, show (F.cc.toNat : Int) = F.cc by omega, show (F.jc.toNat : Int) = F.jc by omega, show (F.hc.toNat : Int) = F.hc by omega, show (F.rc.toNat : Int) = F.rc by omega⟩
end Go.Proofs.Ytkfpnijacfeogaa
