/- ValidStore, by program and specification. Written by hand. -/
import Derived.Test.YtdoelmjaongjfaaOpn
namespace Go.Proofs.Ytdoelmjaongjfaa
open Go.ChangeShapes Go.WideShapes Go.ChangeAt Go.RowKit
set_option linter.unusedVariables false
set_option linter.unusedSimpArgs false
open Classical in
noncomputable def stV (bs : List BlV) : Bool := if stP bs then true else false
theorem stV_yes {bs : List BlV} (h : stP bs) : stV bs = true := by unfold stV; exact if_pos h
theorem stV_no {bs : List BlV} (h : ¬ stP bs) : stV bs = false := by unfold stV; exact if_neg h
set_option maxRecDepth 100000 in
set_option maxHeartbeats 2000000 in
theorem vs_spec (g n : Nat) (bs : List BlV) (hn : n ≤ 1048576) (hl : bs.length = n) (hf : ∀ (i : Nat) (x : BlV), bs[i]? = some x → BlG x) (w : World) (ha : OutB w g n n bs) :
    Calls Try.prog 15 #[.agg #[.slice (some ⟨g, 0, none⟩) n n]] w fun e w' => e = .returned (.bool (stV bs)) ∧ Below w.heap.size w w' := by
  have HO := Lib.hid (open_spec w.heap.size g n bs hn hl hf (w.alloc (.cells #[.slice (some ⟨g, 0, none⟩) n n] 29)) (heap_alloc_last _ _) (ha.below ((Below.refl _ _).alloc (Nat.le_refl _) _)))
  clear ha hf hl
  go_enter Try.func15, Try.ntmps15
  go_wp2_with fail
  refine HO.out.mono ?_
  rintro e w1 ⟨h, hb⟩
  have HB := Lib.hid (show Below w.heap.size w w1 from ((Below.refl _ _).alloc (Nat.le_refl _) _).trans (hb.mono (by simp)))
  clear hb
  rcases h with ⟨hP, rfl, -⟩ | ⟨hP, rfl⟩
  · have HS := Lib.hid (stV_yes hP)
    clear hP
    go_wp2_with fail
    go_ret
    exact ⟨by rw [HS.out]; rfl, HB.out⟩
  · have HS := Lib.hid (stV_no hP)
    clear hP
    go_wp2_with fail
    go_ret
    exact ⟨by rw [HS.out]; rfl, HB.out⟩
set_option maxRecDepth 100000 in
set_option maxHeartbeats 2000000 in
theorem vs_impl (g n : Nat) (bs : List BlV) (hn : n ≤ 1048576) (hl : bs.length = n) (hf : ∀ (i : Nat) (x : BlV), bs[i]? = some x → BlG x) (w : World) (ha : OutB w g n n bs) :
    Calls Try.prog 17 #[.agg #[.slice (some ⟨g, 0, none⟩) n n]] w fun e w' => e = .returned (.bool (stV bs)) ∧ Below w.heap.size w w' := by
  have HO := Lib.hid (sof_impl g n bs hn hl hf (w.alloc (.cells #[.slice (some ⟨g, 0, none⟩) n n] 29)) (ha.below ((Below.refl _ _).alloc (Nat.le_refl _) _)))
  clear ha hf hl
  go_enter Try.func17, Try.ntmps17
  go_wp2_with fail
  refine HO.out.mono ?_
  rintro e w1 ⟨h, hb⟩
  have HB := Lib.hid (show Below w.heap.size w w1 from ((Below.refl _ _).alloc (Nat.le_refl _) _).trans (hb.mono (by simp)))
  clear hb
  rcases h with ⟨hP, m, rfl, -, -⟩ | ⟨hP, rfl⟩
  · have HS := Lib.hid (stV_yes hP)
    clear hP
    go_wp2_with fail
    go_ret
    exact ⟨by rw [HS.out]; rfl, HB.out⟩
  · have HS := Lib.hid (stV_no hP)
    clear hP
    go_wp2_with fail
    go_ret
    exact ⟨by rw [HS.out]; rfl, HB.out⟩
end Go.Proofs.Ytdoelmjaongjfaa
