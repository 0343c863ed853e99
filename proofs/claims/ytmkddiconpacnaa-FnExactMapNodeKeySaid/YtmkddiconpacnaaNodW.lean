/- A node, measured; its key compared. Written by wip/gen/src.py. -/
import Derived.Test.YtmkddiconpacnaaNodV
namespace Go.Proofs.Ytmkddiconpacnaa
open Go.ChangeShapes Go.WideShapes Go.ChangeAt Go.RowKit
set_option linter.unusedVariables false
set_option linter.unusedSimpArgs false
set_option maxRecDepth 100000 in
set_option maxHeartbeats 1000000 in
theorem szN_in (l r : List Int) (nm vl : ByteArray) (hl : l.length = 32) (hr : r.length = 32) (left : Int) (h0 : 0 ≤ left) (h1 : left ≤ 1099511627776) (hs : nm.size ≤ maxLen) (ht : vl.size ≤ maxLen) (h : ((nm.size + vl.size : Nat) : Int) ≤ left) (w : World) :
    Calls Try.prog 24 #[.agg (nodC l r nm vl), .int .i64 left] w fun e w' => e = .returned (.int .i64 (left - nm.size - vl.size)) ∧ Below w.heap.size w w' := by
  have A0 := heap_alloc_last w (.cells (nodC l r nm vl) 38)
  obtain ⟨c64, c65⟩ := nod_texts hl hr A0
  have HS := Lib.hid (fun U => szE_in nm vl left h0 h1 hs ht h U)
  have k2 : ¬ left - (nm.size : Int) - (vl.size : Int) < 0 := by omega
  clear A0 hl hr hs ht h
  go_enter Try.func24, Try.ntmps24
  go_wp2_with fail
  refine (HS.out _).mono ?_
  rintro e w1 ⟨rfl, hb⟩
  have B1 := Lib.hid (below_call ((Below.refl w.heap.size w).alloc (Nat.le_refl _) (.cells (nodC l r nm vl) 38)) (by simp) hb)
  clear hb
  go_wp2
  go_ret
  exact ⟨rfl, B1.out⟩
set_option maxRecDepth 100000 in
set_option maxHeartbeats 1000000 in
theorem szN_out (l r : List Int) (nm vl : ByteArray) (hl : l.length = 32) (hr : r.length = 32) (left : Int) (h0 : 0 ≤ left) (h1 : left ≤ 1099511627776) (hs : nm.size ≤ maxLen) (ht : vl.size ≤ maxLen) (h : left < ((nm.size + vl.size : Nat) : Int)) (w : World) :
    Calls Try.prog 24 #[.agg (nodC l r nm vl), .int .i64 left] w fun e w' => e = .returned (.int .i64 (-1)) ∧ Below w.heap.size w w' := by
  have A0 := heap_alloc_last w (.cells (nodC l r nm vl) 38)
  obtain ⟨c64, c65⟩ := nod_texts hl hr A0
  have HS := Lib.hid (fun U => szE_out nm vl left h0 h1 hs ht h U)
  clear A0 hl hr hs ht h
  go_enter Try.func24, Try.ntmps24
  go_wp2_with fail
  refine (HS.out _).mono ?_
  rintro e w1 ⟨rfl, hb⟩
  have B1 := Lib.hid (below_call ((Below.refl w.heap.size w).alloc (Nat.le_refl _) (.cells (nodC l r nm vl) 38)) (by simp) hb)
  clear hb
  go_wp2
  go_ret
  exact ⟨rfl, B1.out⟩
end Go.Proofs.Ytmkddiconpacnaa
