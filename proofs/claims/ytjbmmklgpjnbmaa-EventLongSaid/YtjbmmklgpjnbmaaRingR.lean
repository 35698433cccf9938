/-
  CONTRACTS: bilgeref07.Put. The last things that happened, plain.
-/
import Derived.Test.YtjbmmklgpjnbmaaRows
import Derived.Test.YtjbmmklgpjnbmaaAppend
import Derived.Test.YtjbmmklgpjnbmaaKeep
import Derived.Test.YtjbmmklgpjnbmaaLater
import Derived.WalkLawsBesides
import Derived.WalkSpells
import Derived.Deep.QuietTactic
import Derived.BigQuiet
import Derived.RegionTactic
import Derived.Outline
import Derived.Lib.Hide
import Derived.Handy
import Derived.IntWalk
namespace Go.Proofs.Ytjbmmklgpjnbmaa
open Go.RowKit

theorem Try.info8r : (Try.prog.info? 5).map (fun i => (i.zero, i.size, i.bytes)) = some (some (.int .u8 0), 1, 1) := by kernel_rfl
/-- One more, the last one first; no more than there is room for. -/
def putL (L : List Int) (room : Nat) (b : Int) : List Int := (b :: L).take room
theorem putL_length (L : List Int) (room : Nat) (b : Int) : (putL L room b).length = min room (L.length + 1) := by unfold putL; rw [List.length_take, List.length_cons]
theorem ofL_get {L : List Int} {i : Nat} (h : i < L.length) : ofL L i = L[i] := by unfold ofL; rw [List.getD_eq_getElem?_getD, List.getElem?_eq_getElem h]; rfl
theorem ofL_take {L : List Int} {n i : Nat} (h : i < n) : ofL (L.take n) i = ofL L i := by
  unfold ofL; rw [List.getD_eq_getElem?_getD, List.getD_eq_getElem?_getD, List.getElem?_take, if_pos h]
theorem lst_cons (L : List Int) (b : Int) : [Value.int .u8 b] ++ lst .u8 (ofL L) L.length = lst .u8 (ofL (b :: L)) (L.length + 1) := by
  unfold lst
  rw [List.range_succ_eq_map, List.map_cons, List.map_map]
  rfl
theorem Holds.less {k : IntKind} {w : World} {a : Option Addr} {n m : Nat} {f : Nat → Int} (h : Holds k w a n f) (hm : m ≤ n) : Holds k w a m f := by
  rcases h with h | ⟨b, off, ha, hlt, hc⟩
  · exact .inl (by omega)
  · exact .inr ⟨b, off, ha, hlt, fun i hi => hc i (by omega)⟩
set_option maxHeartbeats 1600000 in
theorem rput07_any (a : Option Addr) (c : Nat) (L : List Int) (room : Nat) (b : Int) (w : World) (ha : Holds .u8 w a L.length (ofL L)) (hn : L.length ≤ 1000000) (hr : 1 ≤ room) (hr2 : room ≤ 64) :
    Calls Try.prog 36 #[.slice a L.length c, .int .i64 room, .int .u8 b] w fun e w' => ∃ x y, e = .returned (.slice x (putL L room b).length y) ∧ (putL L room b).length ≤ y ∧ y ≤ maxLen ∧ Holds .u8 w' x (putL L room b).length (ofL (putL L room b)) ∧ Ext w w' ∧ Fresh w x := by
  obtain ⟨i8, hi8, hz80, hz81, hz82⟩ := info_parts Try.info8r
  have hlen := putL_length L room b
  have hget := fun i (h : i < room) => (ofL_take (L := b :: L) h : ofL (putL L room b) i = ofL (b :: L) i)
  have hlc := lst_cons L b
  have HLen := Lib.hid hlen
  have HGet := Lib.hid hget
  have HLc := Lib.hid hlc
  obtain ⟨n, hnn⟩ : ∃ n, n = L.length := ⟨_, rfl⟩
  rw [← hnn] at ha hn HLen HLc ⊢
  have hr0 : (1 : Int) ≤ (room : Int) := by omega
  have hb1 : HoldsG (Value.int .u8) ((w.alloc (.cells #[] 5)).alloc (.cells #[.int .u8 b] 5)) (some ⟨w.heap.size + 1, 0, none⟩) 1 (fun _ => b) := by
    have h := Holds.new (k := .u8) (w.alloc (.cells #[] 5)) #[.int .u8 b] 5 1 (fun _ => b) (fun i hi => by
      obtain rfl : i = 0 := by omega
      rfl)
    have hs : (w.alloc (.cells #[] 5)).heap.size = w.heap.size + 1 := by simp
    rw [hs] at h; exact h
  clear hlen hget hlc hnn
  by_cases hlt : (room : Int) < (n : Int) + 1
  all_goals
    go_enter Try.func36, Try.ntmps36
    go_wp2_with (first
      | (at_builtin; refine wpList_append_holds rfl (.tmp 8) (.tmp 10) _ rfl w.heap.size 5 i8 (.int .u8 0) 1 Try.underlying27 hi8 hz80 hz81 hz82 rfl _ 0 [] rfl (own_ext (World.ownsRow_lit w #[] 0 (Nat.le_refl _) (by unfold maxLen; omega) rfl) (Ext.alloc _ _)) _ 1 _ (fun _ => b) rfl hb1 (fun _ => rfl) (by unfold maxLen; omega) (by omega) (by simp; omega) ?_; intro v2 w2 hown2 hgr2 hb2; have x2 : Ext w w2 := (((Below.refl _ _).alloc (Nat.le_refl _) _).alloc (by simp) _).trans hb2; have ha2 := ha.ext x2; rw [Nat.zero_add, List.nil_append] at hown2)
      | (at_builtin; refine wpList_append_holds rfl (.tmp 12) (.tmp 13) _ rfl w.heap.size 5 i8 (.int .u8 0) 1 Try.underlying27 hi8 hz80 hz81 hz82 rfl v2 1 (lstG (.int .u8) (fun _ => b) 1) rfl hown2 a n c (ofL L) rfl ha2 (fun _ => rfl) (by unfold maxLen; omega) (by omega) x2.size ?_; intro v3 w3 hown3 hgr3 hb3; have hown4 : w3.ownsRow w.heap.size 5 1 v3 (n + 1) (lst .u8 (ofL (b :: L)) (n + 1)) := (by rw [← HLc.out, Nat.add_comm n 1]; exact hown3); obtain ⟨x, y, rfl, l4, m4, h4, n4⟩ := Holds.of_own_at hown4; have x4 : Ext w w3 := Below.trans x2 hb3; clear hown2 hown3 hown4 hgr2 hgr3 hb2 hb3 x2 ha2 hb1))
    go_ret
  · have hl : (putL L room b).length = room := by rw [HLen.out]; omega
    refine ⟨x, y, by rw [hl]; rfl, by rw [hl]; omega, m4, ?_, x4, n4⟩
    rw [hl]
    exact (h4.less (by omega)).congr fun i hi => (HGet.out i hi).symm
  · have hl : (putL L room b).length = n + 1 := by rw [HLen.out]; omega
    refine ⟨x, y, by rw [hl]; rfl, by rw [hl]; omega, m4, ?_, x4, n4⟩
    rw [hl]
    exact h4.congr fun i hi => (HGet.out i (by omega)).symm
theorem Holds.keepN {k : IntKind} {F : Nat → Prop} {w w' : World} {a : Option Addr} {n : Nat} {f : Nat → Int} (h : Holds k w a n f) (x : Keep F w w') (ho : OffN F a n) : Holds k w' a n f := by
  rcases ho with e | e
  · exact .inl e
  · exact h.keep x e
theorem OffN.growsH {k : IntKind} {F G : Nat → Prop} {w : World} {a : Option Addr} {n : Nat} {f : Nat → Int} (h : OffN F a n) (g : Grows F G w) (hh : Holds k w a n f) : OffN G a n := by
  rcases h with e | e
  · exact .inl e
  · rcases hh with e2 | ⟨b, off, ha, hlt, _⟩
    · exact .inl e2
    · exact .inr (e.grows g fun p hp => by rw [ha] at hp; cases hp; exact hlt)
theorem Holds.offN {k : IntKind} {F : Nat → Prop} {w v : World} {a : Option Addr} {n : Nat} {f : Nat → Int} (hh : Holds k v a n f) (h : Above w F) (x : v.heap.size ≤ w.heap.size) : OffN F a n := by
  rcases hh with e2 | ⟨b, off, ha, hlt, _⟩
  · exact .inl e2
  · exact .inr (h.off fun p hp => by rw [ha] at hp; cases hp; exact Nat.lt_of_lt_of_le hlt x)
end Go.Proofs.Ytjbmmklgpjnbmaa
