/- FindKey: the specification, main case. Written by hand. -/
import Derived.Test.YtdoelmjaongjfabFkP
import Derived.Test.YtdoelmjaongjfabQt
namespace Go.Proofs.Ytdoelmjaongjfab
open Go.ChangeShapes Go.WideShapes Go.ChangeAt Go.RowKit
set_option linter.unusedVariables false
set_option linter.unusedSimpArgs false
open Go.Sort Go.Shelf
set_option maxRecDepth 100000 in
set_option maxHeartbeats 2000000 in
theorem find_spec_yes (b : Option Addr) (n cap : Nat) (fl : List Int) (s : ByteArray) (hn : n ≤ 256) (hf : ∀ y ∈ fl, 0 ≤ y ∧ y ≤ 255) (hs : s.size ≤ 64) (hd : ∀ j, j < s.size → isHx (charI s j) = true) (w : World) (hk : RdK w b n fl) :
    Calls Try.prog 20 #[.slice b n cap, .string s] w fun e w' => e = .returned (.tuple #[.agg (ints .u8 (fkV (fkL s (ksL fl n)))), .int .i64 (fkE (fkL s (ksL fl n)))]) ∧ Below w.heap.size w w' := by
  have Hz := Lib.hid z32_ints
  have KW := Lib.hid hk
  have HF := Lib.hid (fun i (hi : i < n) => (⟨keyAt_len hk.1 hi, keyAt_range hf i⟩ : IsK (keyAt fl i)))
  have XA := Lib.hid (heap_alloc_last w (.cells (ints .u8 z32) 32))
  have BA := Lib.hid (show Below w.heap.size w (w.alloc (.cells (ints .u8 z32) 32)) by go_grown)
  have SA := Lib.hid (show (w.alloc (.cells (ints .u8 z32) 32)).heap.size = w.heap.size + 1 by simp)
  have HD := Lib.hid hd
  clear hd hk hf
  have z1 : ¬ (256 : Int) < (n : Int) := by omega
  have z2 : ¬ (64 : Int) < (s.size : Int) := by omega
  have z3 : (0 : Int) ≤ (s.size : Int) := by omega
  have z4 : (s.size : Int) ≤ 64 := by omega
  have z5 : (0 : Int) ≤ (n : Int) := by omega
  have z6 : (n : Int) ≤ 256 := by omega
  rw [Hz.out] at XA BA SA
  go_enter Try.func20, Try.ntmps20
  go_wp2_with fail
  rw [← Hz.out] at XA BA SA ⊢
  generalize w.alloc (.cells (ints .u8 z32) 32) = w1 at XA BA SA ⊢
  go_loopw [6] (fun i wr => ∃ k : Nat, k ≤ s.size ∧ i = .int .i64 (k : Int) ∧ wr = w1) (fun i _ => s.size - (intOf i).toNat)
  case atStart => exact ⟨0, by omega, rfl, rfl⟩
  case round =>
    obtain ⟨k, hk, rfl, rfl⟩ := hrel
    by_cases hlt : k < s.size
    · have b0 : (0 : Int) ≤ (k : Int) := by omega
      have b1 : (k : Int) < (s.size : Int) := by omega
      have hch := fun W => run_char Try.prog 9 Try.underlying9 s k hlt W
      have hrg := charI_range s k
      have HX := Lib.hid (fun W => hex_yes (charI s k) (HD.out k hlt) W)
      go_wp2_with (go_at_call 62; refine (HX.out _).mono ?_; rintro e w3 ⟨rfl, rfl⟩)
      go_roundw
      case rel => exact ⟨k + 1, by omega, by go_num, by first | rfl | trivial⟩
      case measure => simp [intOf]; omega
    · obtain rfl : k = s.size := by omega
      clear hlt hk HD
      have LB := layBO wr (ints .u8 z32) (ints .u8 z32) 32
      have B2 := Lib.hid (below_call BA.out BA.out.size LB)
      have X2 := Lib.hid (keep_block XA.out LB)
      have N2 := Lib.hid (layNO wr (ints .u8 z32) (ints .u8 z32) 32)
      clear LB
      go_upto_region 12 with (refine wpList_store_row rfl 32 _ _ rfl wr.heap.size (ints .u8 z32) rfl rfl 32 (ints .u8 z32) (by rw [Hz.out]; exact heap_alloc_last _ _) (by rw [ints_size]; exact sizeKey) rfl (ints_one _ _) ?_)
      rw [← Hz.out]
      generalize (wr.alloc (.cells (ints .u8 z32) 32)).setRow wr.heap.size (ints .u8 z32) = w2 at B2 X2 N2 ⊢
      have FN := Lib.hid (show w.heap.size < wr.heap.size from by rw [SA.out]; omega)
      generalize wr.heap.size = F at N2 FN ⊢
      clear XA BA SA
      go_wp2_with fail
      go_loopw [10, 11] (fun c i W => ∃ (k : Nat) (found : List Int) (code : Int), k ≤ n ∧ i = .int .i64 (k : Int) ∧ c = .int .i64 code ∧ FkSt s (ksL fl n) k found code ∧ W.heap[F]? = some (.cells (ints .u8 found) 32) ∧ W.heap[w.heap.size]? = some (.cells (ints .u8 z32) 32) ∧ Below w.heap.size w W ∧ F < W.heap.size ∧ RdK W b n fl) (fun _ i _ => n - (intOf i).toNat)
      case atStart => exact ⟨0, z32, 6, by omega, rfl, rfl, FkSt.start _ _, N2.out, X2.out, B2.out, (Array.getElem?_eq_some_iff.1 N2.out).1, KW.out.below B2.out⟩
      case round =>
        obtain ⟨k, found, code, hk, rfl, rfl, hst, hF, hX, hb, hFl, hK⟩ := hrel
        have ST := Lib.hid hst
        have NF := Lib.hid hF
        have NX := Lib.hid hX
        have NB := Lib.hid hb
        have NL := Lib.hid hFl
        have NK := Lib.hid hK
        clear hst hF hX hb hFl hK N2 X2 B2
        by_cases hlt : k < n
        · have b0 : (0 : Int) ≤ (k : Int) := by omega
          have b1 : (k : Int) < (n : Int) := by omega
          obtain ⟨bb, off, rfl⟩ : ∃ bb off, b = some ⟨bb, off, none⟩ := by
            rcases KW.out.2 with h0 | ⟨bb, off, e, _⟩
            · omega
            · exact ⟨bb, off, e⟩
          have KR := Lib.hid (show wr.rangeAt bb (off + k * 32) ((keyAt fl k).map (Value.int .u8)) from by
            obtain ⟨h1, h2⟩ := NK.out
            rcases h2 with h2 | ⟨b', off', e, hlt2, hc⟩
            · omega
            · cases e
              exact keyAt_rangeAt h1 hc k hlt)
          have HV := Lib.hid (HF.out k hlt)
          have HXV := Lib.hid (mkK_val (HF.out k hlt))
          have HX := Lib.hid (ksL_at fl hlt)
          obtain ⟨V, hV⟩ : ∃ V, keyAt fl k = V := ⟨_, rfl⟩
          rw [hV] at KR HV HXV HX
          clear hV
          have HT := Lib.hid (fun U => text_spec V HV.out.1 HV.out.2 U)
          have HBE := Lib.hid (beg_eq s V)
          have hsz : s.size ≤ (strOfNums (hexL V 64)).size := by rw [txt_size]; omega
          have hsz2 : (s.size : Int) ≤ ((strOfNums (hexL V 64)).size : Int) := by omega
          go_upto_region 16 with fail
          cases hbg : begB s V with
          | false =>
            have heq := HBE.out.trans hbg
            have SK := Lib.hid (ST.out.skip HX.out (by rw [HXV.out]; exact hbg))
            clear hbg
            go_wp2_with (first
              | (refine wpList_load_ints rfl 32 _ rfl bb (off + k * 32) rfl .u8 V _ KR.out Try.underlying32 rfl (by rw [HV.out.1]; exact sizeKey) ?_)
              | (go_at_call 63; refine (HT.out _).mono ?_; rintro e w4 ⟨rfl, hb4⟩))
            go_roundw
            case rel => exact ⟨k + 1, found, code, by omega, by go_num, rfl, SK.out, keep_block NF.out hb4, keep_block NX.out hb4, below_call NB.out NB.out.size hb4, Nat.lt_of_lt_of_le NL.out hb4.size, NK.out.below hb4⟩
            case measure => simp [intOf]; omega
          | true =>
            have heq := HBE.out.trans hbg
            have SH := Lib.hid (ST.out.hit HX.out (by rw [HXV.out]; exact hbg))
            rw [HXV.out] at SH
            clear hbg
            go_wp2_with (first
              | (refine wpList_load_ints rfl 32 _ rfl bb (off + k * 32) rfl .u8 V _ KR.out Try.underlying32 rfl (by rw [HV.out.1]; exact sizeKey) ?_)
              | (go_at_call 63; refine (HT.out _).mono ?_; rintro e w4 ⟨rfl, hb4⟩))
            have B4 := Lib.hid (below_call NB.out NB.out.size hb4)
            have F4 := Lib.hid (keep_block NF.out hb4)
            have X4 := Lib.hid (keep_block NX.out hb4)
            have L4 := Lib.hid (Nat.lt_of_lt_of_le NL.out hb4.size)
            have K4 := Lib.hid (rangeAt_below KR.out hb4)
            have FK := Lib.hid ST.out.isK
            have HC6 := Lib.hid (show code = 0 ∨ code = 6 from by rcases ST.out with ⟨_, _, h⟩ | ⟨_, _, _, h⟩ <;> omega)
            clear hb4 KR NF NX NL NB heq hsz hsz2
            rcases SH.out with ⟨rfl, hne, h4, hz⟩ | ⟨hno, hsk⟩
            · have HNE := Lib.hid (show ¬ V = found from hne)
              have HE4 := Lib.hid (And.intro hz h4)
              clear hne h4 hz SH
              refine rq_class (C := Below w4.heap.size w4) (by kernel_rfl) (by kernel_rfl) ((Below.refl _ _).drew) ?_
              refine rq_take (v := .int .i64 0) (by kernel_rfl) (fun W hW => by go_simp <;> omega) ?_
              simp only [Act.put, List.setIfInBounds_toArray, List.set_cons_succ, List.set_cons_zero]
              refine rq_take (v := .bool true) (by kernel_rfl) (fun W hW => by go_simp <;> omega) ?_
              simp only [Act.put, List.setIfInBounds_toArray, List.set_cons_succ, List.set_cons_zero]
              refine rq_take (v := .bool true) (by kernel_rfl) (fun W hW => by go_simp <;> omega) ?_
              simp only [Act.put, List.setIfInBounds_toArray, List.set_cons_succ, List.set_cons_zero]
              refine rq_take (v := .slice (some ⟨bb, off, none⟩) n cap) (by kernel_rfl) (fun W hW => by go_simp <;> omega) ?_
              simp only [Act.put, List.setIfInBounds_toArray, List.set_cons_succ, List.set_cons_zero]
              refine rq_take (v := .int .i64 (k : Int)) (by kernel_rfl) (fun W hW => by go_simp <;> omega) ?_
              simp only [Act.put, List.setIfInBounds_toArray, List.set_cons_succ, List.set_cons_zero]
              refine rq_take (v := .pointer (some ⟨bb, off + k * 32, none⟩)) (by kernel_rfl) (fun W hW => by go_simp <;> omega) ?_
              simp only [Act.put, List.setIfInBounds_toArray, List.set_cons_succ, List.set_cons_zero]
              refine rq_any (v := .agg (ints .u8 V)) (yieldsIf_load_mid (by kernel_rfl) 32 _ rfl bb (off + k * 32) rfl (V.map (Value.int .u8)) _ (fun W hW => rangeAt_below K4.out hW) Try.underlying32 rfl (by rw [List.length_map, HV.out.1]; exact sizeKey)) ?_
              simp only [Act.put, List.setIfInBounds_toArray, List.set_cons_succ, List.set_cons_zero]
              refine rq_any (v := .agg (ints .u8 found)) (yields_box (by kernel_rfl) 32 _ rfl F rfl _ 32 _ F4.out Try.underlying32 rfl (by rw [ints_size, FK.out.1]; exact sizeKey)) ?_
              simp only [Act.put, List.setIfInBounds_toArray, List.set_cons_succ, List.set_cons_zero]
              have hq := fun U => eqlKy V found HV.out.1 FK.out.1 U
              rw [decide_eq_false HNE.out] at hq
              refine rq_take (v := .bool true) (by kernel_rfl) (fun W hW => by go_simp) ?_
              simp only [Act.put, List.setIfInBounds_toArray, List.set_cons_succ, List.set_cons_zero]
              clear hq
              refine rq_take (v := .bool true) (by kernel_rfl) (fun W hW => by go_simp) ?_
              simp only [Act.put, List.setIfInBounds_toArray, List.set_cons_succ, List.set_cons_zero]
              refine wpQuiet_nil ?_
              intro W hW
              have B5 := Lib.hid (below_call B4.out B4.out.size hW)
              have F5 := Lib.hid (keep_block F4.out hW)
              have X5 := Lib.hid (keep_block X4.out hW)
              have K5 := Lib.hid (rangeAt_below K4.out hW)
              have L5 := Lib.hid (Nat.lt_of_lt_of_le L4.out hW.size)
              clear hW
              go_wp2_with (refine wpList_store_row rfl 32 _ _ rfl w.heap.size (ints .u8 z32) rfl rfl 32 (ints .u8 z32) X5.out (by rw [ints_size]; exact sizeKey) rfl (ints_one _ _) ?_)
              refine bodyPost_ret (results_cell2_row rfl _ _ w.heap.size 32 (ints .u8 z32) (0, 0) _ rfl (setRow_heap _ _ (ints .u8 z32) _ _ _ X5.out) Try.underlying32 rfl (by rw [ints_size]; exact sizeKey)) rfl ⟨by rw [HE4.out.1, HE4.out.2]; rfl, ?_⟩
              exact Below.setRow B5.out (Nat.le_refl _) _
            · have SK := Lib.hid hsk
              clear hsk SH
              by_cases hc : code = 0
              · subst hc
                have HNE := Lib.hid (show V = found from Classical.byContradiction (fun h => hno ⟨rfl, h⟩))
                clear hno
                refine rq_class (C := Below w4.heap.size w4) (by kernel_rfl) (by kernel_rfl) ((Below.refl _ _).drew) ?_
                refine rq_take (v := .int .i64 0) (by kernel_rfl) (fun W hW => by go_simp <;> omega) ?_
                simp only [Act.put, List.setIfInBounds_toArray, List.set_cons_succ, List.set_cons_zero]
                refine rq_take (v := .bool true) (by kernel_rfl) (fun W hW => by go_simp <;> omega) ?_
                simp only [Act.put, List.setIfInBounds_toArray, List.set_cons_succ, List.set_cons_zero]
                refine rq_take (v := .bool true) (by kernel_rfl) (fun W hW => by go_simp <;> omega) ?_
                simp only [Act.put, List.setIfInBounds_toArray, List.set_cons_succ, List.set_cons_zero]
                refine rq_take (v := .slice (some ⟨bb, off, none⟩) n cap) (by kernel_rfl) (fun W hW => by go_simp <;> omega) ?_
                simp only [Act.put, List.setIfInBounds_toArray, List.set_cons_succ, List.set_cons_zero]
                refine rq_take (v := .int .i64 (k : Int)) (by kernel_rfl) (fun W hW => by go_simp <;> omega) ?_
                simp only [Act.put, List.setIfInBounds_toArray, List.set_cons_succ, List.set_cons_zero]
                refine rq_take (v := .pointer (some ⟨bb, off + k * 32, none⟩)) (by kernel_rfl) (fun W hW => by go_simp <;> omega) ?_
                simp only [Act.put, List.setIfInBounds_toArray, List.set_cons_succ, List.set_cons_zero]
                refine rq_any (v := .agg (ints .u8 V)) (yieldsIf_load_mid (by kernel_rfl) 32 _ rfl bb (off + k * 32) rfl (V.map (Value.int .u8)) _ (fun W hW => rangeAt_below K4.out hW) Try.underlying32 rfl (by rw [List.length_map, HV.out.1]; exact sizeKey)) ?_
                simp only [Act.put, List.setIfInBounds_toArray, List.set_cons_succ, List.set_cons_zero]
                refine rq_any (v := .agg (ints .u8 found)) (yields_box (by kernel_rfl) 32 _ rfl F rfl _ 32 _ F4.out Try.underlying32 rfl (by rw [ints_size, FK.out.1]; exact sizeKey)) ?_
                simp only [Act.put, List.setIfInBounds_toArray, List.set_cons_succ, List.set_cons_zero]
                have hq := fun U => eqlKy V found HV.out.1 FK.out.1 U
                rw [decide_eq_true HNE.out] at hq
                refine rq_take (v := .bool false) (by kernel_rfl) (fun W hW => by go_simp) ?_
                simp only [Act.put, List.setIfInBounds_toArray, List.set_cons_succ, List.set_cons_zero]
                clear hq
                refine rq_take (v := .bool false) (by kernel_rfl) (fun W hW => by go_simp) ?_
                simp only [Act.put, List.setIfInBounds_toArray, List.set_cons_succ, List.set_cons_zero]
                refine wpQuiet_nil ?_
                intro W hW
                have B5 := Lib.hid (below_call B4.out B4.out.size hW)
                have F5 := Lib.hid (keep_block F4.out hW)
                have X5 := Lib.hid (keep_block X4.out hW)
                have K5 := Lib.hid (rangeAt_below K4.out hW)
                have L5 := Lib.hid (Nat.lt_of_lt_of_le L4.out hW.size)
                clear hW
                have R6 := Lib.hid (show (W.setRow F (ints .u8 V)).heap[F]? = some (.cells (ints .u8 V) 32) from setRow_heap _ _ _ _ _ _ F5.out)
                have X6 := Lib.hid (show (W.setRow F (ints .u8 V)).heap[w.heap.size]? = some (.cells (ints .u8 z32) 32) from (setRow_other _ _ _ _ (by have := FN.out; omega)).trans X5.out)
                have B6 := Lib.hid (show Below w.heap.size w (W.setRow F (ints .u8 V)) from Below.setRow B5.out (Nat.le_of_lt FN.out) _)
                have L6 := Lib.hid (show F < (W.setRow F (ints .u8 V)).heap.size by simpa using L5.out)
                go_wp2_with (first
                  | (refine wpList_load_ints rfl 32 _ rfl bb (off + k * 32) rfl .u8 V _ K5.out Try.underlying32 rfl (by rw [HV.out.1]; exact sizeKey) ?_)
                  | (refine wpList_store_row rfl 32 _ _ rfl F (ints .u8 V) rfl rfl 32 (ints .u8 found) F5.out (by rw [ints_size, HV.out.1]; exact sizeKey) (by rw [ints_size, ints_size, HV.out.1, FK.out.1]) (ints_one _ _) ?_))
                go_roundw
                case rel => exact ⟨k + 1, V, 0, by omega, by go_num, rfl, SK.out, R6.out, X6.out, B6.out, L6.out, KW.out.below B6.out⟩
                case measure => simp [intOf]; omega
              · obtain rfl : code = 6 := by have := HC6.out; omega
                clear hno hc
                refine rq_class (C := Below w4.heap.size w4) (by kernel_rfl) (by kernel_rfl) ((Below.refl _ _).drew) ?_
                refine rq_take (v := .int .i64 6) (by kernel_rfl) (fun W hW => by go_simp <;> omega) ?_
                simp only [Act.put, List.setIfInBounds_toArray, List.set_cons_succ, List.set_cons_zero]
                refine rq_take (v := .bool false) (by kernel_rfl) (fun W hW => by go_simp <;> omega) ?_
                simp only [Act.put, List.setIfInBounds_toArray, List.set_cons_succ, List.set_cons_zero]
                refine rq_take (v := .bool false) (by kernel_rfl) (fun W hW => by go_simp <;> omega) ?_
                simp only [Act.put, List.setIfInBounds_toArray, List.set_cons_succ, List.set_cons_zero]
                refine rq_skip (by kernel_rfl) ?_
                simp only [Act.put, List.setIfInBounds_toArray, List.set_cons_succ, List.set_cons_zero]
                refine rq_skip (by kernel_rfl) ?_
                simp only [Act.put, List.setIfInBounds_toArray, List.set_cons_succ, List.set_cons_zero]
                refine rq_skip (by kernel_rfl) ?_
                simp only [Act.put, List.setIfInBounds_toArray, List.set_cons_succ, List.set_cons_zero]
                refine rq_skip (by kernel_rfl) ?_
                simp only [Act.put, List.setIfInBounds_toArray, List.set_cons_succ, List.set_cons_zero]
                refine rq_skip (by kernel_rfl) ?_
                simp only [Act.put, List.setIfInBounds_toArray, List.set_cons_succ, List.set_cons_zero]
                refine rq_skip (by kernel_rfl) ?_
                simp only [Act.put, List.setIfInBounds_toArray, List.set_cons_succ, List.set_cons_zero]
                refine rq_take (v := .bool false) (by kernel_rfl) (fun W hW => by go_simp <;> omega) ?_
                simp only [Act.put, List.setIfInBounds_toArray, List.set_cons_succ, List.set_cons_zero]
                refine wpQuiet_nil ?_
                intro W hW
                have B5 := Lib.hid (below_call B4.out B4.out.size hW)
                have F5 := Lib.hid (keep_block F4.out hW)
                have X5 := Lib.hid (keep_block X4.out hW)
                have K5 := Lib.hid (rangeAt_below K4.out hW)
                have L5 := Lib.hid (Nat.lt_of_lt_of_le L4.out hW.size)
                clear hW
                have R6 := Lib.hid (show (W.setRow F (ints .u8 V)).heap[F]? = some (.cells (ints .u8 V) 32) from setRow_heap _ _ _ _ _ _ F5.out)
                have X6 := Lib.hid (show (W.setRow F (ints .u8 V)).heap[w.heap.size]? = some (.cells (ints .u8 z32) 32) from (setRow_other _ _ _ _ (by have := FN.out; omega)).trans X5.out)
                have B6 := Lib.hid (show Below w.heap.size w (W.setRow F (ints .u8 V)) from Below.setRow B5.out (Nat.le_of_lt FN.out) _)
                have L6 := Lib.hid (show F < (W.setRow F (ints .u8 V)).heap.size by simpa using L5.out)
                go_wp2_with (first
                  | (refine wpList_load_ints rfl 32 _ rfl bb (off + k * 32) rfl .u8 V _ K5.out Try.underlying32 rfl (by rw [HV.out.1]; exact sizeKey) ?_)
                  | (refine wpList_store_row rfl 32 _ _ rfl F (ints .u8 V) rfl rfl 32 (ints .u8 found) F5.out (by rw [ints_size, HV.out.1]; exact sizeKey) (by rw [ints_size, ints_size, HV.out.1, FK.out.1]) (ints_one _ _) ?_))
                go_roundw
                case rel => exact ⟨k + 1, V, 0, by omega, by go_num, rfl, SK.out, R6.out, X6.out, B6.out, L6.out, KW.out.below B6.out⟩
                case measure => simp [intOf]; omega
        · obtain rfl : k = n := by omega
          have FK := Lib.hid ST.out.isK
          have HE := Lib.hid (FkSt.whole (s := s) (ks := ksL fl k) (found := found) (code := code) (by rw [ksL_len]; exact ST.out))
          go_wp2_with (first
            | (refine wpList_load_row rfl 32 _ rfl F rfl 32 (ints .u8 found) (0, 0) _ NF.out Try.underlying32 rfl (by rw [ints_size, FK.out.1]; exact sizeKey) ?_)
            | (refine wpList_store_row rfl 32 _ _ rfl w.heap.size (ints .u8 found) rfl rfl 32 (ints .u8 z32) NX.out (by rw [ints_size, FK.out.1]; exact sizeKey) (by rw [ints_size, ints_size, FK.out.1]; rfl) (ints_one _ _) ?_))
          refine bodyPost_ret (results_cell2_row rfl _ _ w.heap.size 32 (ints .u8 found) (0, 0) _ rfl (setRow_heap _ _ (ints .u8 z32) _ _ _ NX.out) Try.underlying32 rfl (by rw [ints_size, FK.out.1]; exact sizeKey)) rfl ⟨?_, ?_⟩
          · rw [HE.out.1, HE.out.2]; rfl
          · exact Below.setRow NB.out (Nat.le_refl _) _
end Go.Proofs.Ytdoelmjaongjfab
