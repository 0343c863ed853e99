/- The table of the rolling value: its numbers; both programs. -/
import Derived.Test.YtdamgodfgoackaaMixS
import Derived.Test.YtdamgodfgoackaaStart
namespace Go.Proofs.Ytdamgodfgoackaa
open Go.ChangeShapes Go.WideShapes Go.ChangeAt Go.RowKit
set_option linter.unusedVariables false
def z31 : List Int := List.replicate 31 0
def z256 : List Int := List.replicate 256 0
theorem z256_len : z256.length = 256 := List.length_replicate
theorem sizeA256 : (Try.prog.info? 142).map (·.size) = some 256 := by kernel_rfl
theorem sizeU : (Try.prog.info? 31).map (·.size) = some 1 := by kernel_rfl
theorem zero256 : Try.zeroCells142 = ints .u32 z256 := by kernel_rfl
def rollW (c : Int) : Int := (mixF (startW 7) (c :: z31))[0]?.getD 0
def rollT : List Int := (List.range 256).map fun (i : Nat) => rollW i
theorem rollT_len : rollT.length = 256 := by simp [rollT]
theorem rollT_at (k : Nat) (h : k < 256) : rollT[k]?.getD 0 = rollW k := by simp [rollT, h]
theorem startW_W32 : W32 (startW 7) := ⟨startW_len 7, by decide⟩
theorem mixF_W32 {st b : List Int} (sr : W32 st) : W32 (mixF st b) := by
  refine ⟨xor8_len (W32_R sr 12).1 sr.1, fun x hx => ?_⟩
  unfold mixF xor8 at hx
  obtain ⟨i, hi, rfl⟩ := List.mem_iff_getElem.1 hx
  rw [List.getElem_zipWith]
  exact xor_range _ _
theorem rollW_range (c : Int) : 0 ≤ rollW c ∧ rollW c ≤ 4294967295 := (mixF_W32 startW_W32).at 0
theorem c31_len (c : Int) : (c :: z31).length = 32 := by simp [z31]
theorem c31_range {c : Int} (h0 : 0 ≤ c) (h1 : c ≤ 255) : ∀ x ∈ c :: z31, 0 ≤ x ∧ x ≤ 255 := by
  intro x hx
  rcases List.mem_cons.1 hx with rfl | hx
  · exact ⟨h0, h1⟩
  · rw [(List.mem_replicate.1 hx).2]; omega
theorem c31_lit (c : Int) : ints .u8 (c :: z31) = #[.int .u8 c, .int .u8 0, .int .u8 0, .int .u8 0, .int .u8 0, .int .u8 0, .int .u8 0, .int .u8 0, .int .u8 0, .int .u8 0, .int .u8 0, .int .u8 0, .int .u8 0, .int .u8 0, .int .u8 0, .int .u8 0, .int .u8 0, .int .u8 0, .int .u8 0, .int .u8 0, .int .u8 0, .int .u8 0, .int .u8 0, .int .u8 0, .int .u8 0, .int .u8 0, .int .u8 0, .int .u8 0, .int .u8 0, .int .u8 0, .int .u8 0, .int .u8 0] := rfl
set_option maxRecDepth 100000 in
set_option maxHeartbeats 1000000 in
theorem word_spec (c : Int) (h0 : 0 ≤ c) (h1 : c ≤ 255) (w : World) :
    Calls Try.prog 152 #[.int .u8 c] w fun e w' => e = .returned (.int .u32 (rollW c)) ∧ Below w.heap.size w w' := by
  have Hc := Lib.hid (fun W => mix_spec (startW 7) (c :: z31) (c31_len c) startW_W32 (c31_range h0 h1) W)
  have Hr : Hid (rollW c = (mixF (startW 7) (c :: z31))[0]?.getD 0) := Lib.hid rfl
  have Hx := Lib.hid (mixF_W32 (b := c :: z31) startW_W32)
  have Hs := Lib.hid (fun W => start_spec0 7 (by omega) (by omega) W)
  generalize mixF (startW 7) (c :: z31) = X at Hc Hr Hx
  rw [c31_lit] at Hc
  generalize startW 7 = S at Hc Hs
  have hg : ∀ W, (Instr.index 32 (.agg (ints .u32 X)) (.int .i64 0)).run Try.prog W = .ok (.int .u32 (X[0]?.getD 0)) W := fun W => run_index_ints Try.underlying32 Try.underlying31 sizeU X Hx.out.1 0 (by omega) W
  rw [← Hr.out] at hg
  generalize rollW c = R at hg
  go_enter Try.func152, Try.ntmps152
  go_wp2_with fail
  refine (Hs.out _).mono ?_
  rintro e w1 ⟨rfl, hb1⟩
  go_wp2_with fail
  refine (Hc.out _).mono ?_
  rintro e w2 ⟨rfl, hb2⟩
  have L2 := Lib.hid (hb1.trans (hb2.mono hb1.size))
  clear hb1 hb2
  go_wp2_with fail
  go_ret
  exact ⟨rfl, L2.out⟩
theorem u8_num (k : Nat) (h : k < 256) : ((k : Int)) % 256 = (k : Int) := by omega
set_option maxRecDepth 100000 in
set_option maxHeartbeats 1000000 in
theorem rollt_impl (w : World) :
    Calls Try.prog 119 #[] w fun e w' => e = .returned (.agg (ints .u32 rollT)) ∧ Below w.heap.size w w' := by
  have Hc := Lib.hid (fun (c : Int) (h0 : 0 ≤ c) (h1 : c ≤ 255) W => mix_impl (startW 7) (c :: z31) (c31_len c) startW_W32 (c31_range h0 h1) W)
  have Hr : Hid (∀ c, rollW c = (mixF (startW 7) (c :: z31))[0]?.getD 0) := Lib.hid (fun c => rfl)
  have Hm := Lib.hid (fun c : Int => mixF_W32 (b := c :: z31) startW_W32)
  have Hs := Lib.hid (fun W => start_impl 7 (by omega) (by omega) W)
  have Hl := Lib.hid rollT_len
  have Ha := Lib.hid rollT_at
  have Hz := Lib.hid z8_ints
  generalize rollT = X at Hl Ha
  generalize hM : (fun c : Int => mixF (startW 7) (c :: z31)) = M
  have hM' : ∀ c, mixF (startW 7) (c :: z31) = M c := fun c => by rw [← hM]
  simp only [hM', c31_lit] at Hc Hr Hm
  clear hM hM'
  generalize startW 7 = S at Hc Hs
  generalize rollW = R at Hr Ha
  go_enter Try.func119, Try.ntmps119
  go_wp2_with fail
  go_loopw [4] (fun i wr => ∃ k : Nat, k ≤ 256 ∧ i = .int .i64 k ∧ Below w.heap.size w wr ∧ wr.heap[w.heap.size]? = some (.cells Try.zeroCells142 142) ∧ wr.heap[w.heap.size + 1]? = some (.cells (ints .u32 (upTo z256 X k)) 142)) (fun i _ => 256 - (intOf i).toNat)
  case atStart => exact ⟨0, by omega, rfl, by go_grown, heap_alloc2_old _ _ _, by rw [upTo_zero, ← zero256]; exact heap_alloc2_new _ _ _⟩
  case round =>
    obtain ⟨k, hk, rfl, hb, h0, h1⟩ := hrel
    have Hb := Lib.hid hb
    have H0 := Lib.hid h0
    have H1 := Lib.hid h1
    clear hb h0 h1
    by_cases hlt : k < 256
    · have Hu := Lib.hid (upTo_set .u32 (k := k) (old := z256) (new := X) (by rw [Hl.out, z256_len]) (by rw [Hl.out]; exact hlt) (Ha.out k hlt))
      have b0 : (0 : Int) ≤ (k : Int) := by omega
      have b1 : (k : Int) < 256 := by omega
      go_wp2_with fail
      refine (Hs.out _).mono ?_
      rintro e w1 ⟨rfl, hb1⟩
      go_wp2_with fail
      refine (Hc.out k b0 (by omega) _).mono ?_
      rintro e w2 ⟨rfl, hb2⟩
      have hb := hb1.trans (hb2.mono hb1.size)
      have Mk := Lib.hid (Hm.out k)
      have Rk := Lib.hid (Hr.out k)
      generalize M k = m at Mk Rk
      have L1 := Lib.hid ((below_call Hb.out Hb.out.size hb).alloc (Nat.le_trans Hb.out.size hb.size) (.cells (ints .u32 m) 32))
      have g0 := keep_block H0.out hb
      have g1 := keep_block H1.out hb
      have K0 := Lib.hid ((Below.heap_alloc w2 (.cells (ints .u32 m) 32) _ (Array.getElem?_eq_some_iff.1 g0).1).trans g0)
      have K1 := Lib.hid ((Below.heap_alloc w2 (.cells (ints .u32 m) 32) _ (Array.getElem?_eq_some_iff.1 g1).1).trans g1)
      have c0 := cell_of_row (w2.alloc (.cells (ints .u32 m) 32)) w2.heap.size 0 _ _ _ (heap_alloc_last _ _)
      rw [ints_get .u32 _ _ (by rw [Mk.out.1]; omega), ← Rk.out] at c0
      clear hb1 hb2 hb g0 g1
      have k1 := K1.out
      have c1 := cell_of_row (w2.alloc (.cells (ints .u32 m) 32)) (w.heap.size + 1) k _ _ _ k1
      have f1 := frozen_of_row (w2.alloc (.cells (ints .u32 m) 32)) (w.heap.size + 1) k _ _ k1
      rw [upTo_get .u32 (by rw [Hl.out, z256_len]) (by rw [Hl.out]; exact hlt)] at c1
      clear k1 Rk
      generalize z256[k]?.getD 0 = z at c1
      generalize R k = r at Hu c0
      go_wp2_with (refine wpList_store_row rfl 32 (.tmp 3) (.tmp 11) rfl w2.heap.size (ints .u32 m) rfl rfl 32 (ints .u32 z8) (by rw [Hz.out]; exact heap_alloc_last _ _) (by rw [ints_size, Mk.out.1]; exact sizeA8) (by rw [ints_size, ints_size, Mk.out.1]; rfl) (ints_one _ _) ?_; rw [World.setRow_alloc_new])
      go_roundw
      case rel =>
        refine ⟨k + 1, by omega, by go_num, L1.out.setCell (by simp) _, ?_, ?_⟩
        · rw [heap_setCell_other _ _ _ _ (by simp)]; exact K0.out
        · rw [heap_setCell_same _ _ _ _ _ _ K1.out, Hu.out]
      case measure => simp [intOf]; omega
    · obtain rfl : k = 256 := by omega
      rw [upTo_all z256_len Hl.out] at H1
      go_wp2_with (first | (refine wpList_load_row rfl 142 _ rfl (w.heap.size + 1) rfl 142 (ints .u32 X) (0, 0) _ H1.out Try.underlying142 rfl (by rw [ints_size, Hl.out]; exact sizeA256) ?_) | (refine wpList_store_row rfl 142 _ _ rfl (w.heap.size) (ints .u32 X) rfl rfl 142 Try.zeroCells142 H0.out (by rw [ints_size, Hl.out]; exact sizeA256) (by rw [zero256, ints_size, ints_size, z256_len, Hl.out]) (ints_one _ _) ?_))
      refine bodyPost_ret (results_cell_row rfl _ _ (w.heap.size) 142 (ints .u32 X) (0, 0) _ rfl (setRow_heap _ _ _ _ _ _ H0.out) Try.underlying142 rfl (by rw [ints_size, Hl.out]; exact sizeA256)) rfl ⟨rfl, ?_⟩
      exact Below.setRow Hb.out (by omega) _
end Go.Proofs.Ytdamgodfgoackaa
