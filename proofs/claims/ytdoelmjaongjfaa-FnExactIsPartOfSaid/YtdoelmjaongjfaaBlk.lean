/- The specification's blocks: cut out of bytes; the bytes behind data. -/
import Derived.Test.YtdoelmjaongjfaaMixS
import Derived.Test.YtdoelmjaongjfaaRd
namespace Go.Proofs.Ytdoelmjaongjfaa
open Go.ChangeShapes Go.WideShapes Go.ChangeAt Go.RowKit
set_option linter.unusedVariables false
/-- The 32 bytes from a place on. -/
def blk (l : List Int) (p : Nat) : List Int := (l.drop p).take 32
theorem blk_len {l : List Int} {p : Nat} (h : p + 32 ≤ l.length) : (blk l p).length = 32 := by simp [blk]; omega
theorem blk_at {l : List Int} {p j : Nat} (hj : j < 32) : (blk l p)[j]?.getD 0 = l[p + j]?.getD 0 := by simp [blk, hj]
theorem blk_range {l : List Int} (h : ∀ z ∈ l, 0 ≤ z ∧ z ≤ 255) (p : Nat) : ∀ z ∈ blk l p, 0 ≤ z ∧ z ≤ 255 := fun z hz => h z (List.mem_of_mem_drop (List.mem_of_mem_take hz))
set_option maxRecDepth 100000 in
set_option maxHeartbeats 1000000 in
theorem block_spec (a : Option Addr) (n cap p : Nat) (l : List Int) (hn : n ≤ 1048640) (hp : p + 32 ≤ n) (w : World) (hr : Rd .u8 w a n l) :
    Calls Try.prog 124 #[.slice a n cap, .int .i64 p] w fun e w' => e = .returned (.agg (ints .u8 (blk l p))) ∧ Below w.heap.size w w' := by
  obtain ⟨hl, hr⟩ := hr
  obtain ⟨b, off, rfl, hb, hc⟩ : ∃ b off, a = some ⟨b, off, none⟩ ∧ b < w.heap.size ∧ ∀ j, j < n → w.cell? ⟨b, off + j, none⟩ = some (.int .u8 (l[j]?.getD 0)) := by
    rcases hr with h | h
    · omega
    · exact h
  have Hz := Lib.hid z32_ints
  have HX := Lib.hid (blk_len (l := l) (p := p) (by omega))
  have Hat : Hid (∀ j, j < 32 → (blk l p)[j]?.getD 0 = l[p + j]?.getD 0) := Lib.hid (fun j hj => blk_at hj)
  have HC := Lib.hid hc
  have HL := Lib.hid hb
  clear hc hb hr hl
  generalize blk l p = X at HX Hat
  go_enter Try.func124, Try.ntmps124
  go_wp2_with (refine wpList_store_row rfl 40 _ _ rfl (w.heap.size + 1) (ints .u8 z32) rfl rfl 40 (ints .u8 z32) (by rw [Hz.out]; exact heap_alloc2_new _ _ _) (by rw [ints_size]; exact sizeA32) rfl (ints_one _ _) ?_; rw [setRow2_1])
  go_loopw [6] (fun i wr => ∃ k : Nat, k ≤ 32 ∧ i = .int .i64 k ∧ Below w.heap.size w wr ∧ wr.heap[w.heap.size]? = some (.cells (ints .u8 z32) 40) ∧ wr.heap[w.heap.size + 1]? = some (.cells (ints .u8 (upTo z32 X k)) 40)) (fun i _ => 32 - (intOf i).toNat)
  case atStart => exact ⟨0, by omega, rfl, by go_grown, by rw [Hz.out]; exact heap_alloc2_old _ _ _, by rw [upTo_zero]; exact heap_alloc2_new _ _ _⟩
  case round =>
    obtain ⟨k, hk, rfl, hb, h0, h1⟩ := hrel
    have HB := Lib.hid hb
    have H0 := Lib.hid h0
    have H1 := Lib.hid h1
    clear hb h0
    by_cases hlt : k < 32
    · have c1 := cell_of_row wr (w.heap.size + 1) k _ _ _ h1
      have f1 := frozen_of_row wr (w.heap.size + 1) k _ _ h1
      rw [upTo_get .u8 (by rw [HX.out]; rfl) (by rw [HX.out]; exact hlt)] at c1
      have c2 := HC.out (p + k) (by omega)
      rw [← HB.out.cell (p := ⟨b, off + (p + k), none⟩) HL.out] at c2
      have Hu := Lib.hid (upTo_set .u8 (k := k) (old := z32) (new := X) (by rw [HX.out]; rfl) (by rw [HX.out]; exact hlt) (Hat.out k hlt))
      clear h1
      generalize l[p + k]?.getD 0 = y at c2 Hu
      generalize z32[k]?.getD 0 = z at c1
      generalize hj : p + k = j at c2
      have Hj := Lib.hid hj
      have hw : IntKind.i64.wrap ((p : Int) + (k : Int)) = (j : Int) := by rw [IntKind.wrap_i64]; omega
      have b0 : (0 : Int) ≤ (k : Int) := by omega
      have b1 : (k : Int) < 32 := by omega
      have b2 : (j : Int) < (n : Int) := by omega
      have b3 : (p : Int) + (k : Int) = (j : Int) := by omega
      go_wp2_with fail
      refine ⟨⟨k + 1, by omega, by go_num, HB.out.setCell (by simp) _, ?_, ?_⟩, by simp [intOf]; omega⟩
      · rw [heap_setCell_other _ _ _ _ (by simp)]; exact H0.out
      · rw [heap_setCell_same _ _ _ _ _ _ H1.out, Hu.out]
    · obtain rfl : k = 32 := by omega
      have e : upTo z32 X 32 = X := upTo_all rfl HX.out
      rw [e] at H1
      clear h1 e
      go_wp2_with (first | (refine wpList_load_row rfl 40 _ rfl (w.heap.size + 1) rfl 40 (ints .u8 X) (0, 0) _ H1.out Try.underlying40 rfl (by rw [ints_size, HX.out]; exact sizeA32) ?_) | (refine wpList_store_row rfl 40 _ _ rfl w.heap.size (ints .u8 X) rfl rfl 40 (ints .u8 z32) H0.out (by rw [ints_size, HX.out]; exact sizeA32) (by rw [ints_size, ints_size, HX.out]; rfl) (ints_one _ _) ?_))
      refine bodyPost_ret (results_cell_row rfl _ _ w.heap.size 40 (ints .u8 X) (0, 0) _ rfl (setRow_heap _ _ _ _ _ _ H0.out) Try.underlying40 rfl (by rw [ints_size, HX.out]; exact sizeA32)) rfl ⟨rfl, ?_⟩
      exact Below.setRow HB.out (by omega) _
/-- What stands behind d bytes: 128, then zeros up to 24 behind a multiple of 32. -/
def padN (d : Nat) : Nat := (55 - d % 32) % 32
def quoK (c : Int) : Nat → Int
  | 0 => c
  | k + 1 => quoK c k / 256
theorem quoK_range {c : Int} (h : 0 ≤ c) : ∀ k, 0 ≤ quoK c k ∧ quoK c k ≤ c
  | 0 => ⟨h, Int.le_refl _⟩
  | k + 1 => by
    have := quoK_range h k
    show 0 ≤ quoK c k / 256 ∧ quoK c k / 256 ≤ c
    omega
def le8 (c : Int) (k : Nat) : List Int := (List.range k).map fun (i : Nat) => quoK c i % 256
def padL (l : List Int) (c : Int) : List Int := l ++ [128] ++ List.replicate (padN l.length) 0 ++ le8 c 8
theorem padN_mod (d : Nat) : (d + 1 + padN d) % 32 = 24 := by unfold padN; omega
theorem padN_less (d k : Nat) (h : k < padN d) : (d + 1 + k) % 32 ≠ 24 := by unfold padN at h; omega
theorem le8_succ (c : Int) (k : Nat) : le8 c (k + 1) = le8 c k ++ [quoK c k % 256] := by simp [le8, List.range_succ]
theorem padL_len (l : List Int) (c : Int) : (padL l c).length = l.length + 1 + padN l.length + 8 := by simp [padL, le8]; omega
end Go.Proofs.Ytdoelmjaongjfaa
