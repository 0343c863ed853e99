/- The mixing of a block into a state, as the program does it. -/
import Derived.Test.YtdoelmjaongjfaaMix
namespace Go.Proofs.Ytdoelmjaongjfaa
open Go.ChangeShapes Go.WideShapes Go.ChangeAt Go.RowKit
set_option linter.unusedVariables false
/-- A callee that leaves every world as it is, met behind draws. -/
theorem quiet_more {P : Program} {f : FuncId} {args : Array Value} {w : World} {a n : Nat} {v : Value} (h : ∀ W, Calls P f args W fun e w' => e = .returned v ∧ w' = W) :
    Calls P f args (w.drewN (a + n)) fun e w'' => e = .returned v ∧ ∃ m, w'' = w.drewN (a + m) :=
  (h _).mono fun _ _ q => ⟨q.1, n, q.2⟩
set_option maxRecDepth 100000 in
set_option maxHeartbeats 4000000 in
theorem mix_impl (st b : List Int) (hb : b.length = 32) (sr : W32 st) (br : ∀ x ∈ b, 0 ≤ x ∧ x ≤ 255) (w : World) :
    Calls Try.prog 126 #[.agg (ints .u32 st), .agg (ints .u8 b)] w fun e w' => e = .returned (.agg (ints .u32 (mixF st b))) ∧ Below w.heap.size w w' := by
  have Hz := Lib.hid z8_ints
  have Hs := Lib.hid sr.1
  have Hb := Lib.hid hb
  have Sr := Lib.hid sr
  have Br := Lib.hid br
  clear hb sr br
  go_enter Try.func126, Try.ntmps126
  go_wp2_with (refine wpList_load_row rfl 40 (.tmp 3) rfl (w.heap.size + 1) rfl 40 (ints .u8 b) (0, 0) _ (heap3_1 _ _ _ _) Try.underlying40 rfl (by rw [ints_size, Hb.out]; exact sizeA32) ?_)
  refine (words_impl b Hb.out Br.out _).mono ?_
  rintro e w1 ⟨rfl, hbl⟩
  have L1 := Lib.hid (((((Below.refl w.heap.size w).alloc (by simp) _).alloc (by simp) _).alloc (by simp; omega) _).trans (hbl.mono (by simp; omega)))
  have A1 := Lib.hid ((Below.heap_alloc w1 (.cells (ints .u32 (wT b 32)) 138) _ (Array.getElem?_eq_some_iff.1 (keep_block (heap3_0 w (.cells (ints .u32 st) 138) (.cells (ints .u8 b) 40) (.cells (ints .u32 z8) 138)) (by rw [Hz.out]; exact hbl))).1).trans (keep_block (heap3_0 w (.cells (ints .u32 st) 138) (.cells (ints .u8 b) 40) (.cells (ints .u32 z8) 138)) (by rw [Hz.out]; exact hbl)))
  have R1 := Lib.hid (keep_block (heap3_2 w (.cells (ints .u32 st) 138) (.cells (ints .u8 b) 40) (.cells (ints .u32 z8) 138)) (by rw [Hz.out]; exact hbl))
  clear hbl
  generalize hM : wT b 32 = M
  have HM := Lib.hid hM
  clear hM
  have Ml : M.length = 8 := by rw [← HM.out]; exact wT_len b 32
  have HMl := Lib.hid Ml
  clear Ml
  rw [HM.out] at A1
  go_wp2_with (first | (refine wpList_store_row rfl 138 (.tmp 5) (.tmp 13) rfl w1.heap.size (ints .u32 M) rfl rfl 138 (ints .u32 z8) (by rw [Hz.out]; exact heap_alloc_last _ _) (by rw [ints_size, HMl.out]; exact sizeA8) (by rw [ints_size, ints_size, HMl.out]; rfl) (ints_one _ _) ?_; rw [World.setRow_alloc_new]) | (refine wpList_load_row rfl 138 (.tmp 2) rfl w.heap.size rfl 138 (ints .u32 st) (0, 0) _ A1.out Try.underlying138 rfl (by rw [ints_size, Hs.out]; exact sizeA8) ?_) | (refine wpList_store_row rfl 138 (.tmp 6) (.tmp 14) rfl (w1.heap.size + 1) (ints .u32 st) rfl rfl 138 (ints .u32 z8) (by rw [Hz.out]; exact heap_alloc2_new _ _ _) (by rw [ints_size, Hs.out]; exact sizeA8) (by rw [ints_size, ints_size, Hs.out]; rfl) (ints_one _ _) ?_; rw [setRow2_1]))
  have L2 := Lib.hid ((L1.out.alloc L1.out.size (.cells (ints .u32 M) 138)).alloc (by have := L1.out.size; simp; omega) (.cells (ints .u32 st) 138))
  have hS2 := heap_alloc2_new w1 (.cells (ints .u32 M) 138) (.cells (ints .u32 st) 138)
  have hM2 := heap_alloc2_old w1 (.cells (ints .u32 M) 138) (.cells (ints .u32 st) 138)
  have S2 := Lib.hid hS2
  have M2 := Lib.hid hM2
  clear hS2 hM2
  have HW : Hid (W32 M) := Lib.hid (by rw [← HM.out]; exact wT_W32 Br.out)
  have Z2 := Lib.hid (((Below.heap_alloc (w1.alloc (.cells (ints .u32 M) 138)) (.cells (ints .u32 st) 138) _ (by have := (Array.getElem?_eq_some_iff.1 R1.out).1; simp; omega)).trans (Below.heap_alloc w1 (.cells (ints .u32 M) 138) _ (Array.getElem?_eq_some_iff.1 R1.out).1)).trans R1.out)
  have A2 := Lib.hid (((Below.heap_alloc (w1.alloc (.cells (ints .u32 M) 138)) (.cells (ints .u32 st) 138) w.heap.size (by have := (Array.getElem?_eq_some_iff.1 R1.out).1; simp; omega))).trans A1.out)
  have G1 := Lib.hid (show w.heap.size + 1 + 1 < w1.heap.size from (Array.getElem?_eq_some_iff.1 R1.out).1)
  go_loopw [15] (fun i wr => ∃ r : Nat, r ≤ 12 ∧ i = .int .u32 r ∧ Below w.heap.size w wr ∧ wr.heap[w.heap.size]? = some (.cells (ints .u32 st) 138) ∧ wr.heap[w.heap.size + 1 + 1]? = some (.cells (ints .u32 z8) 138) ∧ wr.heap[w1.heap.size]? = some (.cells (ints .u32 M) 138) ∧ wr.heap[w1.heap.size + 1]? = some (.cells (ints .u32 (mixR M st r)) 138)) (fun i _ => 12 - (intOf i).toNat)
  case atStart => exact ⟨0, by omega, rfl, L2.out, A2.out, Z2.out, M2.out, S2.out⟩
  case round =>
    obtain ⟨r, hr, rfl, hbo, ha, hz, h1, h2⟩ := hrel
    have Hbo := Lib.hid hbo
    have Hao := Lib.hid ha
    have Hzo := Lib.hid hz
    have H1o := Lib.hid h1
    have H2o := Lib.hid h2
    clear hbo ha hz h1 h2
    by_cases hlt : r < 12
    · obtain ⟨wo, rfl⟩ : ∃ wo : World, wo = wr := ⟨_, rfl⟩
      go_wp2
      have hd12 : decide ((r : Int) < 12) = true := by simp; omega
      rw [hd12]
      clear hd12
      go_loopw [18] (fun i wr => ∃ k : Nat, k ≤ 8 ∧ i = .int .u32 k ∧ Below w.heap.size w wr ∧ wr.heap[w.heap.size]? = some (.cells (ints .u32 st) 138) ∧ wr.heap[w.heap.size + 1 + 1]? = some (.cells (ints .u32 z8) 138) ∧ wr.heap[w1.heap.size]? = some (.cells (ints .u32 M) 138) ∧ wr.heap[w1.heap.size + 1]? = some (.cells (ints .u32 (mixK M (mixR M st r) r k)) 138)) (fun i _ => 8 - (intOf i).toNat)
      case atStart => exact ⟨0, by omega, rfl, Hbo.out, Hao.out, Hzo.out, H1o.out, H2o.out⟩
      case round =>
        obtain ⟨k, hk, rfl, hb', ha', hz', h1', h2'⟩ := hrel
        have Hb' := Lib.hid hb'
        have Ha' := Lib.hid ha'
        have Hz' := Lib.hid hz'
        have H1' := Lib.hid h1'
        have H2' := Lib.hid h2'
        clear hb' ha' hz'
        by_cases hlk : k < 8
        · have HS := W32_K (m := M) (W32_R (m := M) (s := st) Sr.out r) r k
          have hst : (mixK M (mixR M st r) r k).set k (mixV M (mixK M (mixR M st r) r k) r k) = mixK M (mixR M st r) r (k + 1) := rfl
          have Hst := Lib.hid hst
          clear hst
          generalize mixK M (mixR M st r) r k = s at h2' H2' HS Hst
          have c0 := cell_of_row wr (w1.heap.size + 1) k _ _ _ h2'
          have f0 := frozen_of_row wr (w1.heap.size + 1) k _ _ h2'
          have cm := cell_of_row wr w1.heap.size ((k + 3 * r) % 8) _ _ _ h1'
          have c1 := cell_of_row wr (w1.heap.size + 1) ((k + 1) % 8) _ _ _ h2'
          have c5 := cell_of_row wr (w1.heap.size + 1) ((k + 5) % 8) _ _ _ h2'
          rw [ints_get .u32 _ _ (by rw [HS.1]; omega)] at c0 c1 c5
          rw [ints_get .u32 _ _ (by rw [HMl.out]; omega)] at cm
          obtain ⟨x0l, x0h⟩ := HS.at k
          obtain ⟨x1l, x1h⟩ := HS.at ((k + 1) % 8)
          obtain ⟨x5l, x5h⟩ := HS.at ((k + 5) % 8)
          obtain ⟨xml, xmh⟩ := HW.out.at ((k + 3 * r) % 8)
          have Hv := Lib.hid (show mixV M s r k = (bits .xor .u32 (rot7 (((s[k]?.getD 0 + M[(k + 3 * r) % 8]?.getD 0) % 4294967296 + 2654435769 * (8 * (r : Int) + (k : Int) + 1) % 4294967296) % 4294967296)) (s[(k + 1) % 8]?.getD 0) + rot13 (s[(k + 5) % 8]?.getD 0)) % 4294967296 from rfl)
          clear h1' h2' HS
          generalize s[k]?.getD 0 = a0 at c0 x0l x0h Hv
          generalize s[(k + 1) % 8]?.getD 0 = a1 at c1 x1l x1h Hv
          generalize s[(k + 5) % 8]?.getD 0 = a5 at c5 x5l x5h Hv
          generalize M[(k + 3 * r) % 8]?.getD 0 = am at cm xml xmh Hv
          go_wp2
          go_quiet (fail)
          go_wp2_with fail
          have t0 : 0 ≤ ((a0 + am) % 4294967296 + 2654435769 * (8 * (r : Int) + (k : Int) + 1) % 4294967296) % 4294967296 := by omega
          have t1 : ((a0 + am) % 4294967296 + 2654435769 * (8 * (r : Int) + (k : Int) + 1) % 4294967296) % 4294967296 ≤ 4294967295 := by omega
          generalize ((a0 + am) % 4294967296 + 2654435769 * (8 * (r : Int) + (k : Int) + 1) % 4294967296) % 4294967296 = t at t0 t1 Hv ⊢
          go_quiet ((go_at_call 141; exact quiet_more (fun W => rot7_impl t t0 t1 W)))
          go_wp2_with fail
          obtain ⟨u0, u1⟩ := xor_range (rot7 t) a1
          generalize bits .xor .u32 (rot7 t) a1 = u at u0 u1 Hv ⊢
          refine (rot13_impl a5 x5l x5h _).mono ?_
          rintro e w' ⟨rfl, rfl⟩
          obtain ⟨v0, v1⟩ := rot13_range a5
          generalize rot13 a5 = v at v0 v1 Hv ⊢
          go_wp2
          go_roundw
          case rel =>
            have hd : ∀ n : Nat, Below w.heap.size w ((wr.drewN n).setCell ⟨w1.heap.size + 1, k, none⟩ (.int .u32 ((u + v) % 4294967296))) := fun n => (below_drewN Hb'.out n).setCell (by have := G1.out; simp; omega) _
            have ho : ∀ (n g : Nat), g ≠ w1.heap.size + 1 → ((wr.drewN n).setCell ⟨w1.heap.size + 1, k, none⟩ (.int .u32 ((u + v) % 4294967296))).heap[g]? = wr.heap[g]? := fun n g hg => heap_setCell_other (wr.drewN n) _ _ _ hg
            have hn : ∀ n : Nat, ((wr.drewN n).setCell ⟨w1.heap.size + 1, k, none⟩ (.int .u32 ((u + v) % 4294967296))).heap[w1.heap.size + 1]? = some (.cells (ints .u32 (mixK M (mixR M st r) r (k + 1))) 138) := fun n => by
              rw [heap_setCell_same (wr.drewN n) _ _ _ _ _ H2'.out, ints_set, ← Hv.out, Hst.out]
            have g := G1.out
            exact ⟨k + 1, by omega, by go_num, hd _, (ho _ _ (by omega)).trans Ha'.out, (ho _ _ (by omega)).trans Hz'.out, (ho _ _ (by omega)).trans H1'.out, hn _⟩
          case measure => simp [intOf]; omega
        · obtain rfl : k = 8 := by omega
          have H2n : Hid (wr.heap[w1.heap.size + 1]? = some (.cells (ints .u32 (mixR M st (r + 1))) 138)) := H2'
          clear h1' h2' H2'
          go_wp2
          go_roundw
          case rel => exact ⟨r + 1, by omega, by go_num, Hb'.out, Ha'.out, Hz'.out, H1'.out, H2n.out⟩
          case measure => simp [intOf]; omega
    · obtain rfl : r = 12 := by omega
      have HF := Lib.hid (W32_R (m := M) (s := st) Sr.out 12)
      have He : Hid (mixF st b = xor8 (mixR M st 12) st) := Lib.hid (by unfold mixF; rw [HM.out])
      generalize mixR M st 12 = F at H2o HF He
      have HX := Lib.hid (xor8_len HF.out.1 Hs.out)
      obtain ⟨wo, rfl⟩ : ∃ wo : World, wo = wr := ⟨_, rfl⟩
      go_wp2
      go_loopw [59] (fun i wr => ∃ k : Nat, k ≤ 8 ∧ i = .int .i64 k ∧ Below w.heap.size w wr ∧ wr.heap[w.heap.size]? = some (.cells (ints .u32 st) 138) ∧ wr.heap[w.heap.size + 1 + 1]? = some (.cells (ints .u32 z8) 138) ∧ wr.heap[w1.heap.size + 1]? = some (.cells (ints .u32 (upTo F (xor8 F st) k)) 138)) (fun i _ => 8 - (intOf i).toNat)
      case atStart => exact ⟨0, by omega, rfl, Hbo.out, Hao.out, Hzo.out, by rw [upTo_zero]; exact H2o.out⟩
      case round =>
        obtain ⟨k, hk, rfl, hb', ha', hz', h2'⟩ := hrel
        rename_i ka ha kb hb0
        clear ha
        have Hb' := Lib.hid hb'
        have Ha' := Lib.hid ha'
        have Hz' := Lib.hid hz'
        have H2' := Lib.hid h2'
        clear hb' hz'
        by_cases hlk : k < 8
        · have c0 := cell_of_row wr (w1.heap.size + 1) k _ _ _ h2'
          have f0 := frozen_of_row wr (w1.heap.size + 1) k _ _ h2'
          have c1 := cell_of_row wr w.heap.size k _ _ _ ha'
          rw [upTo_get .u32 (by rw [HX.out, HF.out.1]) (by rw [HX.out]; exact hlk)] at c0
          rw [ints_get .u32 _ _ (by rw [Hs.out]; exact hlk)] at c1
          have Hx := Lib.hid (xor8_at HF.out.1 Hs.out hlk)
          clear ha' h2'
          generalize F[k]?.getD 0 = x at c0 Hx
          generalize st[k]?.getD 0 = y at c1 Hx
          have b0 : (0 : Int) ≤ (k : Int) := by omega
          have b1 : (k : Int) < 8 := by omega
          go_wp2_with fail
          go_region
          go_wp2_with fail
          go_roundw
          case rel =>
            have g := G1.out
            refine ⟨k + 1, by omega, by go_num, (Hb'.out.setCell (by simp; omega) _).drew, ?_, ?_, ?_⟩
            · show (wr.setCell _ _).heap[_]? = _
              rw [heap_setCell_other _ _ _ _ (by simp; omega)]; exact Ha'.out
            · show (wr.setCell _ _).heap[_]? = _
              rw [heap_setCell_other _ _ _ _ (by simp; omega)]; exact Hz'.out
            · show (wr.setCell _ _).heap[_]? = _
              rw [heap_setCell_same _ _ _ _ _ _ H2'.out, upTo_set .u32 (by rw [HX.out, HF.out.1]) (by rw [HX.out]; exact hlk) Hx.out]
          case measure => simp [intOf]; omega
        · obtain rfl : k = 8 := by omega
          rw [upTo_all HF.out.1 HX.out] at H2'
          clear ha' h2'
          go_wp2_with (first | (refine wpList_load_row rfl 138 (.tmp 6) rfl (w1.heap.size + 1) rfl 138 (ints .u32 (xor8 F st)) (0, 0) _ H2'.out Try.underlying138 rfl (by rw [ints_size, HX.out]; exact sizeA8) ?_) | (refine wpList_store_row rfl 138 (.tmp 4) (.tmp 71) rfl (w.heap.size + 1 + 1) (ints .u32 (xor8 F st)) rfl rfl 138 (ints .u32 z8) Hz'.out (by rw [ints_size, HX.out]; exact sizeA8) (by rw [ints_size, ints_size, HX.out]; rfl) (ints_one _ _) ?_))
          refine bodyPost_ret (results_cell_row rfl _ _ (w.heap.size + 1 + 1) 138 (ints .u32 (xor8 F st)) (0, 0) _ rfl (setRow_heap _ _ _ _ _ _ Hz'.out) Try.underlying138 rfl (by rw [ints_size, HX.out]; exact sizeA8)) rfl ⟨by rw [He.out], ?_⟩
          exact Below.setRow Hb'.out (by omega) _
end Go.Proofs.Ytdoelmjaongjfaa
