/- The shelves of two stores, by the program. Written by hand. -/
import Derived.Test.YtdoelmjaongjfaaQaC
namespace Go.Proofs.Ytdoelmjaongjfaa
open Go.ChangeShapes Go.WideShapes Go.ChangeAt Go.RowKit
set_option linter.unusedVariables false
set_option linter.unusedSimpArgs false
def BothR (w : World) (bs cs : List BlV) (e : Ending) (w' : World) : Prop :=
  ((stP bs ∧ stP cs ∧ ∃ m o, e = .returned (.tuple #[.map (some m), .map (some o), .bool true]) ∧ w.heap.size ≤ m ∧ w.heap.size ≤ o ∧ o ≠ m ∧ ShelfAt w' m bs ∧ ShelfAt w' o cs) ∨ (¬ (stP bs ∧ stP cs) ∧ ∃ u v, e = .returned (.tuple #[.map u, .map v, .bool false]))) ∧ Below w.heap.size w w'
set_option maxRecDepth 100000 in
set_option maxHeartbeats 8000000 in
theorem both_impl (g g' n n' : Nat) (bs cs : List BlV) (hn : n ≤ 1048576) (hn' : n' ≤ 1048576) (hl : bs.length = n) (hl' : cs.length = n') (hf : ∀ (i : Nat) (x : BlV), bs[i]? = some x → BlG x) (hf' : ∀ (i : Nat) (x : BlV), cs[i]? = some x → BlG x) (w : World) (ha : OutB w g n n bs) (ha' : OutB w g' n' n' cs) :
    Calls Try.prog 82 #[.agg #[.slice (some ⟨g, 0, none⟩) n n], .agg #[.slice (some ⟨g', 0, none⟩) n' n']] w (BothR w bs cs) := by
  have BX : Below w.heap.size w ((w.alloc (.cells #[.slice (some ⟨g, 0, none⟩) n n] 29)).alloc (.cells #[.slice (some ⟨g', 0, none⟩) n' n'] 29)) := by go_grown
  have A0 := heap_alloc2_old w (.cells #[.slice (some ⟨g, 0, none⟩) n n] 29) (.cells #[.slice (some ⟨g', 0, none⟩) n' n'] 29)
  have A1 := heap_alloc2_new w (.cells #[.slice (some ⟨g, 0, none⟩) n n] 29) (.cells #[.slice (some ⟨g', 0, none⟩) n' n'] 29)
  obtain ⟨w0, hw0⟩ : ∃ w0, (w.alloc (.cells #[.slice (some ⟨g, 0, none⟩) n n] 29)).alloc (.cells #[.slice (some ⟨g', 0, none⟩) n' n'] 29) = w0 := ⟨_, rfl⟩
  rw [hw0] at BX A0 A1
  have HO := Lib.hid (sof_impl g n bs hn hl hf w0 (ha.below BX))
  have HO2 := Lib.hid (fun U (hU : Below w0.heap.size w0 U) => sof_impl g' n' cs hn' hl' hf' U ((ha'.below BX).below hU))
  have HB := Lib.hid BX
  have H0 := Lib.hid A0
  have H1 := Lib.hid A1
  have S0 := Lib.hid BX.size
  clear ha ha' hf hf' hl hl' A0 A1 BX
  go_enter Try.func82, Try.ntmps82
  have qs := cell_of_row _ w.heap.size 0 _ _ _ H0.out
  go_wp2_with fail
  clear qs
  refine HO.out.mono ?_
  rintro e w1 ⟨h, hb⟩
  have B1 := Lib.hid (HB.out.trans (hb.mono HB.out.size))
  have K1 := Lib.hid (keep_block H1.out hb)
  have HO3 := Lib.hid (HO2.out w1 hb)
  have S1 := Lib.hid hb.size
  clear hb HO HO2 HB H0 H1 hw0
  have qs := cell_of_row _ (w.heap.size + 1) 0 _ _ _ K1.out
  have hE : ∃ mb b, e = .returned (.tuple #[.map mb, .bool b]) ∧ ((stP bs ∧ b = true ∧ ∃ m, mb = some m ∧ w0.heap.size ≤ m ∧ ShelfAt w1 m bs) ∨ (¬ stP bs ∧ b = false)) := by
    rcases h with ⟨hP, m, rfl, hm0, hsh⟩ | ⟨hP, rfl⟩
    · exact ⟨_, _, rfl, .inl ⟨hP, rfl, m, rfl, hm0, hsh⟩⟩
    · exact ⟨_, _, rfl, .inr ⟨hP, rfl⟩⟩
  clear h
  obtain ⟨mb, b1, rfl, h1⟩ := hE
  have H1 := Lib.hid h1
  clear h1
  go_wp2_with fail
  clear qs
  refine HO3.out.mono ?_
  rintro e w2 ⟨h, hb⟩
  have B2 := Lib.hid (below_call B1.out B1.out.size hb)
  have hE : ∃ mb b, e = .returned (.tuple #[.map mb, .bool b]) ∧ ((stP cs ∧ b = true ∧ ∃ m, mb = some m ∧ w1.heap.size ≤ m ∧ ShelfAt w2 m cs) ∨ (¬ stP cs ∧ b = false)) := by
    rcases h with ⟨hP, m, rfl, hm0, hsh⟩ | ⟨hP, rfl⟩
    · exact ⟨_, _, rfl, .inl ⟨hP, rfl, m, rfl, hm0, hsh⟩⟩
    · exact ⟨_, _, rfl, .inr ⟨hP, rfl⟩⟩
  clear h
  obtain ⟨mb2, b2, rfl, h2⟩ := hE
  have HR : Hid (((stP bs ∧ stP cs ∧ ∃ m o, mb = some m ∧ mb2 = some o ∧ w.heap.size ≤ m ∧ w.heap.size ≤ o ∧ o ≠ m ∧ ShelfAt w2 m bs ∧ ShelfAt w2 o cs) ∧ (b1 && b2) = true) ∨ (¬ (stP bs ∧ stP cs) ∧ (b1 && b2) = false)) := Lib.hid (by
    have s0 := S0.out
    have s1 := S1.out
    rcases H1.out with ⟨hP, rfl, m, rfl, hm0, hsh⟩ | ⟨hP, rfl⟩
    · rcases h2 with ⟨hP2, rfl, o, rfl, ho0, hso⟩ | ⟨hP2, rfl⟩
      · exact .inl ⟨⟨hP, hP2, m, o, rfl, rfl, by omega, by omega, fun e => by have := hsh.lt; omega, hsh.below hb, hso⟩, rfl⟩
      · exact .inr ⟨fun h => hP2 h.2, rfl⟩
    · exact .inr ⟨fun h => hP h.1, rfl⟩)
  clear h2 H1 hb HO3 K1 B1 S0 S1
  have HE : BothR w bs cs (.returned (.tuple #[.map mb, .map mb2, .bool (b1 && b2)])) w2 := by
    refine ⟨?_, B2.out⟩
    rcases HR.out with ⟨⟨hP, hP2, m, o, rfl, rfl, r⟩, hb⟩ | ⟨hno, hb⟩
    · exact .inl ⟨hP, hP2, m, o, by rw [hb], r⟩
    · exact .inr ⟨hno, mb, mb2, by rw [hb]⟩
  have HEE := Lib.hid HE
  clear HE HR
  cases b1 <;> cases b2 <;> (go_wp2_with fail; go_returns; exact HEE.out)
end Go.Proofs.Ytdoelmjaongjfaa
