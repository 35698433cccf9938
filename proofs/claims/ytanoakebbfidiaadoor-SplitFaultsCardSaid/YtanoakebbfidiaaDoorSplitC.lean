/-
  PACKAGE SPLIT's CONTRACTS, as the laws of layer 9 take them. 'Rd w': package crc's tables are as they were laid.
-/
import Derived.Test.YtanoakebbfidiaaDoorSplitH
namespace Go.Proofs.YtanoakebbfidiaaDoor
open Go.RowKit
abbrev Rd (w : World) : Prop := Tabs w
theorem Rd.ext {w w' : World} (h : Rd w) (x : Ext w w') : Rd w' := Tabs.ext h x
theorem sright_any (a : Option Addr) (n c : Nat) (L : List (Int × Int × Bool)) (f : Int) (w : World) (ha : HoldsL 3 byt w a L) (hL : L.length = n) (hn : n ≤ 1000000) (_hw : WfB L) (_hf : (Lit.int .i64 f).wf = true) :
    Calls Tryd.prog 9 #[.slice a n c, .int .i64 f] w fun e w' => e = .returned (.bool (rightI L f)) ∧ Ext w w' := sright0 a n c L f w ha hL hn
theorem sall_any (a : Option Addr) (n cp : Nat) (L : List Byt) (c s l u f : Int) (w : World) (_hr : Rd w) (ha : HoldsL 3 byt w a L) (hL : L.length = n) (hcp : n ≤ cp) (hcm : cp ≤ maxLen) (hn : n ≤ 1000000) (hw : WfB L)
    (_hc : (Lit.int .i64 c).wf = true) (_hs : (Lit.int .i64 s).wf = true) (_hl : (Lit.int .i64 l).wf = true) (_hu : (Lit.int .i64 u).wf = true) (_hf : (Lit.int .i64 f).wf = true) :
    Calls Tryd.prog 12 #[.slice a n cp, timesC c s l u, .int .i64 f] w fun e w' => ∃ z x Ls, e = .returned (.slice z (List.length Ls) x) ∧ Ext w w' ∧ SegsO w.heap.size w' z x Ls ∧ Ls.map Prod.snd = allS c s l u f L :=
  sall_any' a n cp L c s l u f w ha hL hcp hcm hn fun x hx => wf8 (hw x hx).2
end Go.Proofs.YtanoakebbfidiaaDoor
