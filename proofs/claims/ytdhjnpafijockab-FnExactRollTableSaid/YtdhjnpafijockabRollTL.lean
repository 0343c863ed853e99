/- The statement on RollTable: its walk. -/
import Derived.Test.YtdhjnpafijockabRollT
namespace Go.Proofs.Ytdhjnpafijockab
open Go.ChangeShapes Go.WideShapes Go.ChangeAt Go.RowKit
set_option linter.unusedVariables false
set_option maxRecDepth 100000 in
set_option maxHeartbeats 1000000 in
theorem eqU256 (l : List Int) (hl : l.length = 256) (w : World) :
    Calls Try.prog 22 #[.agg (ints .u32 l), .agg (ints .u32 l)] w fun e w' => e = .returned (.bool true) ∧ Below w.heap.size w w' := by
  have Hl := Lib.hid hl
  clear hl
  go_enter Try.func22, Try.ntmps22
  go_wp2
  go_loopw [5] (fun i wr => ∃ k : Nat, k ≤ 256 ∧ i = .int .i64 k ∧ Below w.heap.size w wr ∧ wr.heap[w.heap.size]? = some (.cells (ints .u32 l) 30) ∧ wr.heap[w.heap.size + 1]? = some (.cells (ints .u32 l) 30)) (fun i _ => 256 - (intOf i).toNat)
  case atStart => exact ⟨0, by omega, rfl, ((Below.refl _ _).alloc (by simp) _).alloc (by simp) _, heap_alloc2_old _ _ _, heap_alloc2_new _ _ _⟩
  case round =>
    obtain ⟨k, hk, rfl, hb, h1, h2⟩ := hrel
    have H1 := Lib.hid h1
    have H2 := Lib.hid h2
    have Hb := Lib.hid hb
    clear hb
    by_cases hlt : k < 256
    · have hg := ints_get .u32 l k (by rw [Hl.out]; exact hlt)
      have c1 := cell_of_row wr w.heap.size k _ _ _ h1
      have c2 := cell_of_row wr (w.heap.size + 1) k _ _ _ h2
      rw [hg] at c1 c2
      clear h1 h2 hg
      go_wp2
      go_quiet (fail)
      go_wp2
      go_roundw
      case rel => exact ⟨k + 1, by omega, by go_num, below_drewN Hb.out _, H1.out, H2.out⟩
      case measure => simp [intOf]; omega
    · obtain rfl : k = 256 := by omega
      clear h1 h2
      go_wp2
      go_ret
      exact ⟨rfl, Hb.out⟩
set_option maxRecDepth 100000 in
set_option maxHeartbeats 1000000 in
theorem rollt_law (w : World) :
    Calls Try.prog 4 #[] w fun e w' => e = .returned (.bool true) ∧ Below w.heap.size w w' := by
  have Hs := Lib.hid (fun W => rollt_spec W)
  have Hi := Lib.hid (fun W => rollt_impl W)
  have Hl := Lib.hid rollT_len
  generalize rollT = X at Hs Hi Hl
  go_enter Try.func4, Try.ntmps4
  go_wp2_with fail
  refine (Hs.out _).mono ?_
  rintro e w1 ⟨rfl, hb⟩
  have L1 := Lib.hid (hb.alloc hb.size (.cells (ints .u32 X) 30))
  have S1 := Lib.hid (heap_alloc_last w1 (.cells (ints .u32 X) 30))
  clear hb
  go_wp2_with (refine wpList_store_row rfl 30 _ _ rfl w1.heap.size (ints .u32 X) rfl rfl 30 Try.zeroCells30 (heap_alloc_last _ _) (by rw [ints_size, Hl.out]; exact sizeA256) (by rw [zero256, ints_size, ints_size, z256_len, Hl.out]) (ints_one _ _) ?_; rw [World.setRow_alloc_new])
  refine (Hi.out _).mono ?_
  rintro e w2 ⟨rfl, hb⟩
  have L2 := Lib.hid ((below_call L1.out L1.out.size hb).alloc (Nat.le_trans L1.out.size hb.size) (.cells (ints .u32 X) 30))
  have s1 := keep_block S1.out hb
  have S2 := Lib.hid ((Below.heap_alloc w2 (.cells (ints .u32 X) 30) _ (Array.getElem?_eq_some_iff.1 s1).1).trans s1)
  have G2 := Lib.hid (heap_alloc_last w2 (.cells (ints .u32 X) 30))
  clear hb s1
  go_wp2_with (first | (refine wpList_store_row rfl 30 _ _ rfl w2.heap.size (ints .u32 X) rfl rfl 30 Try.zeroCells30 (heap_alloc_last _ _) (by rw [ints_size, Hl.out]; exact sizeA256) (by rw [zero256, ints_size, ints_size, z256_len, Hl.out]) (ints_one _ _) ?_; rw [World.setRow_alloc_new]) | (refine wpList_load_row rfl 30 (.tmp 2) rfl (w2.heap.size) rfl 30 (ints .u32 X) (0, 0) _ G2.out Try.underlying30 rfl (by rw [ints_size, Hl.out]; exact sizeA256) ?_) | (refine wpList_load_row rfl 30 (.tmp 1) rfl (w1.heap.size) rfl 30 (ints .u32 X) (0, 0) _ S2.out Try.underlying30 rfl (by rw [ints_size, Hl.out]; exact sizeA256) ?_))
  refine (eqU256 X Hl.out _).mono ?_
  rintro e w3 ⟨rfl, hb⟩
  have L3 := Lib.hid (below_call L2.out L2.out.size hb)
  clear hb
  go_wp2
  go_ret
  exact ⟨rfl, L3.out⟩
end Go.Proofs.Ytdhjnpafijockab
