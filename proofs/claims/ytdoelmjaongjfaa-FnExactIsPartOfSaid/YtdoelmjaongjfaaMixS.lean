/- The mixing of a block into a state, as the specification does it. -/
import Derived.Test.YtdoelmjaongjfaaMixI
namespace Go.Proofs.Ytdoelmjaongjfaa
open Go.ChangeShapes Go.WideShapes Go.ChangeAt Go.RowKit
set_option linter.unusedVariables false
/-- The sum of the highest j of four bytes from a place on, the highest first. -/
def horn (b : List Int) (p : Nat) : Nat → Int
  | 0 => 0
  | j + 1 => horn b p j * 256 + b[p + (3 - j)]?.getD 0
theorem horn_four (b : List Int) (p : Nat) : horn b p 4 = leN b p 4 := by
  simp only [horn, leN, Nat.reduceSub, Nat.reduceMul, Int.reducePow, Nat.add_zero]
  omega
theorem horn_range {b : List Int} (hr : ∀ x ∈ b, 0 ≤ x ∧ x ≤ 255) (p j : Nat) (hj : j ≤ 4) : 0 ≤ horn b p j ∧ horn b p j < 2 ^ (8 * j) := by
  have h0 := byte_range hr (p + 0)
  have h1 := byte_range hr (p + 1)
  have h2 := byte_range hr (p + 2)
  have h3 := byte_range hr (p + 3)
  rcases (show j = 0 ∨ j = 1 ∨ j = 2 ∨ j = 3 ∨ j = 4 by omega) with rfl | rfl | rfl | rfl | rfl <;> simp only [horn, Nat.reduceSub] <;> omega
theorem or_low (x y : Int) (x0 : 0 ≤ x) (x1 : x < 16777216) (y0 : 0 ≤ y) (y1 : y ≤ 255) : bits .or .u32 (x * 256 % 4294967296) y = x * 256 + y := by
  obtain ⟨a, rfl⟩ := Int.eq_ofNat_of_zero_le x0
  obtain ⟨c, rfl⟩ := Int.eq_ofNat_of_zero_le y0
  have hm : (a : Int) * 256 % 4294967296 = ((a * 256 : Nat) : Int) := by omega
  rw [hm, u32_or_nat _ _ (by omega) (by omega), Nat.or_comm]
  have := or_add c a 8 (by omega)
  rw [show (2 : Nat) ^ 8 = 256 from rfl] at this
  rw [this]
  omega
/-- The words behind i words and j bytes of the next one. -/
def wS (b : List Int) (i j : Nat) : List Int := (List.range 8).map fun (t : Nat) => if t < i then leN b (4 * t) 4 else if t = i then horn b (4 * i) j else 0
theorem heap_at {w : World} {g : Nat} (h : g = w.heap.size) (o : Obj) : (w.alloc o).heap[g]? = some o := by
  subst h
  exact heap_alloc_last _ _
theorem wS_len (b : List Int) (i j : Nat) : (wS b i j).length = 8 := by simp [wS]
theorem wS_at (b : List Int) (i j t : Nat) (h : t < 8) : (wS b i j)[t]?.getD 0 = if t < i then leN b (4 * t) 4 else if t = i then horn b (4 * i) j else 0 := by simp [wS, h]
theorem wS_zero (b : List Int) : wS b 0 0 = z8 := by
  have : (fun t : Nat => if t < 0 then leN b (4 * t) 4 else if t = 0 then horn b (4 * 0) 0 else 0) = fun _ => (0 : Int) := by funext t; simp [horn]
  unfold wS
  rw [this]
  rfl
theorem ext8 {l m : List Int} (hl : l.length = 8) (hm : m.length = 8) (h : ∀ t, t < 8 → l[t]?.getD 0 = m[t]?.getD 0) : l = m := by
  apply List.ext_getElem (by omega)
  intro i h1 h2
  have := h i (by omega)
  rw [List.getElem?_eq_getElem h1, List.getElem?_eq_getElem h2] at this
  exact this
theorem wS_next (b : List Int) (i : Nat) (hi : i < 8) : wS b i 4 = wS b (i + 1) 0 := ext8 (wS_len _ _ _) (wS_len _ _ _) (fun t ht => by
  rw [wS_at _ _ _ _ ht, wS_at _ _ _ _ ht]
  by_cases h : t < i
  · rw [if_pos h, if_pos (by omega)]
  · by_cases h2 : t = i
    · subst h2
      rw [if_neg h, if_pos rfl, if_pos (by omega), horn_four]
    · rw [if_neg h, if_neg h2, if_neg (by omega)]
      split <;> rfl)
theorem wS_all (b : List Int) : wS b 8 0 = wT b 32 := ext8 (wS_len _ _ _) (wT_len _ _) (fun t ht => by
  rw [wS_at _ _ _ _ ht, wT_at _ _ _ ht, if_pos ht, show min 4 (32 - 4 * t) = 4 by omega])
theorem wS_step (b : List Int) (i j : Nat) (hi : i < 8) (hj : j < 4) : (wS b i j).set i (horn b (4 * i) j * 256 + b[4 * i + (3 - j)]?.getD 0) = wS b i (j + 1) := ext8 (by rw [List.length_set, wS_len]) (wS_len _ _ _) (fun t ht => by
  rw [List.getElem?_set, wS_at _ _ _ _ ht]
  by_cases h : i = t
  · subst h
    rw [if_pos rfl, if_pos (by rw [wS_len]; exact hi), if_neg (by omega), if_pos rfl]
    rfl
  · rw [if_neg h, wS_at _ _ _ _ ht]
    by_cases h1 : t < i
    · rw [if_pos h1, if_pos h1]
    · rw [if_neg h1, if_neg h1, if_neg (by omega), if_neg (by omega)])
set_option maxRecDepth 100000 in
set_option maxHeartbeats 2000000 in
theorem mix_spec (st b : List Int) (hb : b.length = 32) (sr : W32 st) (br : ∀ x ∈ b, 0 ≤ x ∧ x ≤ 255) (w : World) :
    Calls Try.prog 123 #[.agg (ints .u32 st), .agg (ints .u8 b)] w fun e w' => e = .returned (.agg (ints .u32 (mixF st b))) ∧ Below w.heap.size w w' := by
  have Hz := Lib.hid z8_ints
  have Hs := Lib.hid sr.1
  have Hb := Lib.hid hb
  have Sr := Lib.hid sr
  have Br := Lib.hid br
  clear hb sr br
  go_enter Try.func123, Try.ntmps123
  go_wp2_with fail
  go_loopw [6] (fun i wr => ∃ n : Nat, n ≤ 8 ∧ i = .int .i64 n ∧ Below w.heap.size w wr ∧ wr.heap[w.heap.size]? = some (.cells (ints .u32 st) 138) ∧ wr.heap[w.heap.size + 1]? = some (.cells (ints .u8 b) 40) ∧ wr.heap[w.heap.size + 1 + 1]? = some (.cells (ints .u32 z8) 138) ∧ wr.heap[w.heap.size + 1 + 1 + 1]? = some (.cells (ints .u32 (wS b n 0)) 138)) (fun i _ => 8 - (intOf i).toNat)
  case atStart => exact ⟨0, by omega, rfl, by go_grown, by rw [Below.heap_alloc _ _ _ (by simp; omega)]; exact heap3_0 _ _ _ _, by rw [Below.heap_alloc _ _ _ (by simp)]; exact heap3_1 _ _ _ _, by rw [Below.heap_alloc _ _ _ (by simp), Hz.out]; exact heap3_2 _ _ _ _, by rw [wS_zero, Hz.out]; exact heap_at (by simp) _⟩
  case round =>
    obtain ⟨n, hn, rfl, hbo, ha, hb, hz, hm⟩ := hrel
    have Hbo := Lib.hid hbo
    have Hao := Lib.hid ha
    have Hbb := Lib.hid hb
    have Hzo := Lib.hid hz
    have Hmo := Lib.hid hm
    clear hbo ha hb hz hm
    by_cases hlt : n < 8
    · obtain ⟨wo, rfl⟩ : ∃ wo : World, wo = wr := ⟨_, rfl⟩
      go_wp2_with fail
      have hd8 : decide ((n : Int) < 8) = true := by simp; omega
      try rw [hd8]
      clear hd8
      go_loopw [7] (fun i wr => (∃ s : Nat, s ≤ 3 ∧ i = .int .i64 s ∧ Below w.heap.size w wr ∧ wr.heap[w.heap.size]? = some (.cells (ints .u32 st) 138) ∧ wr.heap[w.heap.size + 1]? = some (.cells (ints .u8 b) 40) ∧ wr.heap[w.heap.size + 1 + 1]? = some (.cells (ints .u32 z8) 138) ∧ wr.heap[w.heap.size + 1 + 1 + 1]? = some (.cells (ints .u32 (wS b n (3 - s))) 138)) ∨ (i = .int .i64 (-1) ∧ Below w.heap.size w wr ∧ wr.heap[w.heap.size]? = some (.cells (ints .u32 st) 138) ∧ wr.heap[w.heap.size + 1]? = some (.cells (ints .u8 b) 40) ∧ wr.heap[w.heap.size + 1 + 1]? = some (.cells (ints .u32 z8) 138) ∧ wr.heap[w.heap.size + 1 + 1 + 1]? = some (.cells (ints .u32 (wS b n 4)) 138))) (fun i _ => (intOf i + 1).toNat)
      case atStart => exact .inl ⟨3, by omega, rfl, Hbo.out, Hao.out, Hbb.out, Hzo.out, Hmo.out⟩
      case round =>
        rename_i ka ha0 kb hb0
        clear ha0
        rcases hrel with ⟨s, hs, rfl, hbo, ha, hb, hz, hm⟩ | ⟨rfl, hbo, ha, hb, hz, hm⟩
        · have Hb' := Lib.hid hbo
          have Ha' := Lib.hid ha
          have Hc' := Lib.hid hb
          have Hz' := Lib.hid hz
          have H2' := Lib.hid hm
          have cm := cell_of_row wr (w.heap.size + 1 + 1 + 1) n _ _ _ hm
          have fm := frozen_of_row wr (w.heap.size + 1 + 1 + 1) n _ _ hm
          rw [ints_get .u32 _ _ (by rw [wS_len]; omega), wS_at _ _ _ _ hlt, if_neg (by omega), if_pos rfl] at cm
          have cb := cell_of_row wr (w.heap.size + 1) (4 * n + s) _ _ _ hb
          rw [ints_get .u8 _ _ (by rw [Hb.out]; omega)] at cb
          clear hbo ha hb hz hm
          have xr := horn_range Br.out (4 * n) (3 - s) (by omega)
          obtain ⟨y0, y1⟩ := byte_range Br.out (4 * n + s)
          have hst := wS_step b n (3 - s) hlt (by omega)
          rw [show 3 - (3 - s) = s by omega, show 3 - s + 1 = 4 - s by omega] at hst
          have x24 : horn b (4 * n) (3 - s) < 16777216 := by
            have h4 : (2 : Int) ^ (8 * (3 - s)) ≤ 16777216 := by
              rcases (show s = 0 ∨ s = 1 ∨ s = 2 ∨ s = 3 by omega) with rfl | rfl | rfl | rfl <;> decide
            have := xr.2
            omega
          rw [← or_low _ _ xr.1 x24 y0 y1] at hst
          have Hst := Lib.hid hst
          have x0 := xr.1
          have x1 : horn b (4 * n) (3 - s) ≤ 4294967295 := by omega
          clear xr x24 hst
          generalize hX : horn b (4 * n) (3 - s) = x at cm x0 x1 Hst
          generalize hY : b[4 * n + s]?.getD 0 = y at cb y0 y1 Hst
          clear hX hY
          have b0 : (0 : Int) ≤ (n : Int) := by omega
          have b1 : (n : Int) < 8 := by omega
          have b2 : (0 : Int) ≤ 4 * (n : Int) + (s : Int) := by omega
          have b3 : 4 * (n : Int) + (s : Int) < 32 := by omega
          have b4 : (4 * (n : Int) + (s : Int)).toNat = 4 * n + s := by omega
          have b5 : (s : Int) ≥ 0 := by omega
          go_wp2_with fail
          go_region
          go_wp2_with fail
          go_roundw
          case rel =>
            have hq : ∀ g, g ≠ w.heap.size + 1 + 1 + 1 → (wr.setCell ⟨w.heap.size + 1 + 1 + 1, n, none⟩ (.int .u32 (bits .or .u32 (x * 256 % 4294967296) y))).heap[g]? = wr.heap[g]? := fun g hg => heap_setCell_other wr _ _ _ hg
            have hw : (wr.setCell ⟨w.heap.size + 1 + 1 + 1, n, none⟩ (.int .u32 (bits .or .u32 (x * 256 % 4294967296) y))).heap[w.heap.size + 1 + 1 + 1]? = some (.cells (ints .u32 (wS b n (4 - s))) 138) := by
              rw [heap_setCell_same _ _ _ _ _ _ H2'.out, ints_set, Hst.out]
            have hbel := (Hb'.out.setCell (p := ⟨w.heap.size + 1 + 1 + 1, n, none⟩) (by simp; omega) (.int .u32 (bits .or .u32 (x * 256 % 4294967296) y))).drew
            by_cases h0 : s = 0
            · subst h0
              exact .inr ⟨by go_num, hbel, (hq _ (by omega)).trans Ha'.out, (hq _ (by omega)).trans Hc'.out, (hq _ (by omega)).trans Hz'.out, hw⟩
            · exact .inl ⟨s - 1, by omega, by go_num, hbel, (hq _ (by omega)).trans Ha'.out, (hq _ (by omega)).trans Hc'.out, (hq _ (by omega)).trans Hz'.out, by rw [show 3 - (s - 1) = 4 - s by omega]; exact hw⟩
          case measure => simp [intOf]
        · have H2n : Hid (wr.heap[w.heap.size + 1 + 1 + 1]? = some (.cells (ints .u32 (wS b (n + 1) 0)) 138)) := Lib.hid (by rw [← wS_next b n hlt]; exact hm)
          have Hb' := Lib.hid hbo
          have Ha' := Lib.hid ha
          have Hc' := Lib.hid hb
          have Hz' := Lib.hid hz
          clear hbo ha hb hz hm
          go_wp2_with fail
          go_roundw
          case rel => exact ⟨n + 1, by omega, by go_num, Hb'.out, Ha'.out, Hc'.out, Hz'.out, H2n.out⟩
          case measure => simp [intOf]; omega
    · obtain rfl : n = 8 := by omega
      rw [wS_all] at Hmo
      generalize hM : wT b 32 = M at Hmo
      have HM := Lib.hid hM
      clear hM
      obtain ⟨w1, rfl⟩ : ∃ w1 : World, w1 = wr := ⟨_, rfl⟩
      go_wp2_with (first | (refine wpList_load_row rfl 138 (.tmp 2) rfl w.heap.size rfl 138 (ints .u32 st) (0, 0) _ Hao.out Try.underlying138 rfl (by rw [ints_size, Hs.out]; exact sizeA8) ?_) | (refine wpList_store_row rfl 138 (.tmp 8) (.tmp 37) rfl w1.heap.size (ints .u32 st) rfl rfl 138 (ints .u32 z8) (by rw [Hz.out]; exact heap_alloc_last _ _) (by rw [ints_size, Hs.out]; exact sizeA8) (by rw [ints_size, ints_size, Hs.out]; rfl) (ints_one _ _) ?_; rw [World.setRow_alloc_new]))
      have L2 := Lib.hid (Hbo.out.alloc Hbo.out.size (.cells (ints .u32 st) 138))
      have S2 := Lib.hid (heap_alloc_last w1 (.cells (ints .u32 st) 138))
      have M2 := Lib.hid ((Below.heap_alloc w1 (.cells (ints .u32 st) 138) _ (Array.getElem?_eq_some_iff.1 Hmo.out).1).trans Hmo.out)
      have A2 := Lib.hid ((Below.heap_alloc w1 (.cells (ints .u32 st) 138) _ (Array.getElem?_eq_some_iff.1 Hao.out).1).trans Hao.out)
      have Z2 := Lib.hid ((Below.heap_alloc w1 (.cells (ints .u32 st) 138) _ (Array.getElem?_eq_some_iff.1 Hzo.out).1).trans Hzo.out)
      have G1 := Lib.hid (show w.heap.size + 1 + 1 + 1 < w1.heap.size from (Array.getElem?_eq_some_iff.1 Hmo.out).1)
      have HMl : Hid (M.length = 8) := Lib.hid (by rw [← HM.out]; exact wT_len b 32)
      have HW : Hid (W32 M) := Lib.hid (by rw [← HM.out]; exact wT_W32 Br.out)
      clear Hbo Hao Hbb Hzo Hmo
      go_loopw [9] (fun i wr => ∃ r : Nat, r ≤ 12 ∧ i = .int .i64 r ∧ Below w.heap.size w wr ∧ wr.heap[w.heap.size]? = some (.cells (ints .u32 st) 138) ∧ wr.heap[w.heap.size + 1 + 1]? = some (.cells (ints .u32 z8) 138) ∧ wr.heap[w.heap.size + 1 + 1 + 1]? = some (.cells (ints .u32 M) 138) ∧ wr.heap[w1.heap.size]? = some (.cells (ints .u32 (mixR M st r)) 138)) (fun i _ => 12 - (intOf i).toNat)
      case atStart => exact ⟨0, by omega, rfl, L2.out, A2.out, Z2.out, M2.out, S2.out⟩
      case round =>
        obtain ⟨r, hr, rfl, hbo, ha, hz, h1, h2⟩ := hrel
        have Hbo := Lib.hid hbo
        have Hao := Lib.hid ha
        have Hzo := Lib.hid hz
        have H1o := Lib.hid h1
        have H2o := Lib.hid h2
        clear hbo ha hz h1 h2
        by_cases hlt : r < 12
        · obtain ⟨wo, rfl⟩ : ∃ wo : World, wo = wr := ⟨_, rfl⟩
          have c0r : (0 : Int) ≤ (r : Int) := by omega
          have c1r : (r : Int) < 12 := by omega
          go_wp2
          have hd12 : decide ((r : Int) < 12) = true := by simp; omega
          try rw [hd12]
          clear hd12
          go_loopw [10] (fun i wr => ∃ k : Nat, k ≤ 8 ∧ i = .int .i64 k ∧ Below w.heap.size w wr ∧ wr.heap[w.heap.size]? = some (.cells (ints .u32 st) 138) ∧ wr.heap[w.heap.size + 1 + 1]? = some (.cells (ints .u32 z8) 138) ∧ wr.heap[w.heap.size + 1 + 1 + 1]? = some (.cells (ints .u32 M) 138) ∧ wr.heap[w1.heap.size]? = some (.cells (ints .u32 (mixK M (mixR M st r) r k)) 138)) (fun i _ => 8 - (intOf i).toNat)
          case atStart => exact ⟨0, by omega, rfl, Hbo.out, Hao.out, Hzo.out, H1o.out, H2o.out⟩
          case round =>
            obtain ⟨k, hk, rfl, hb', ha', hz', h1', h2'⟩ := hrel
            have Hb' := Lib.hid hb'
            have Ha' := Lib.hid ha'
            have Hz' := Lib.hid hz'
            have H1' := Lib.hid h1'
            have H2' := Lib.hid h2'
            clear hb' ha' hz'
            by_cases hlk : k < 8
            · have HS := W32_K (m := M) (W32_R (m := M) (s := st) Sr.out r) r k
              have hst : (mixK M (mixR M st r) r k).set k (mixV M (mixK M (mixR M st r) r k) r k) = mixK M (mixR M st r) r (k + 1) := rfl
              have Hst := Lib.hid hst
              clear hst
              generalize mixK M (mixR M st r) r k = s at h2' H2' HS Hst
              have c0 := cell_of_row wr w1.heap.size k _ _ _ h2'
              have f0 := frozen_of_row wr w1.heap.size k _ _ h2'
              have cm := cell_of_row wr (w.heap.size + 1 + 1 + 1) ((k + 3 * r) % 8) _ _ _ h1'
              have c1 := cell_of_row wr w1.heap.size ((k + 1) % 8) _ _ _ h2'
              have c5 := cell_of_row wr w1.heap.size ((k + 5) % 8) _ _ _ h2'
              rw [ints_get .u32 _ _ (by rw [HS.1]; omega)] at c0 c1 c5
              rw [ints_get .u32 _ _ (by rw [HMl.out]; omega)] at cm
              obtain ⟨x0l, x0h⟩ := HS.at k
              obtain ⟨x1l, x1h⟩ := HS.at ((k + 1) % 8)
              obtain ⟨x5l, x5h⟩ := HS.at ((k + 5) % 8)
              obtain ⟨xml, xmh⟩ := HW.out.at ((k + 3 * r) % 8)
              have Hv := Lib.hid (show mixV M s r k = (bits .xor .u32 (rot7 (((s[k]?.getD 0 + M[(k + 3 * r) % 8]?.getD 0) % 4294967296 + 2654435769 * (8 * (r : Int) + (k : Int) + 1) % 4294967296) % 4294967296)) (s[(k + 1) % 8]?.getD 0) + rot13 (s[(k + 5) % 8]?.getD 0)) % 4294967296 from rfl)
              clear h1' h2' HS
              generalize s[k]?.getD 0 = a0 at c0 x0l x0h Hv
              generalize s[(k + 1) % 8]?.getD 0 = a1 at c1 x1l x1h Hv
              generalize s[(k + 5) % 8]?.getD 0 = a5 at c5 x5l x5h Hv
              generalize M[(k + 3 * r) % 8]?.getD 0 = am at cm xml xmh Hv
              go_wp2_with fail
              go_quiet (fail)
              go_wp2_with fail
              have t0 : 0 ≤ ((a0 + am) % 4294967296 + 2654435769 * (8 * (r : Int) + (k : Int) + 1) % 4294967296) % 4294967296 := by omega
              have t1 : ((a0 + am) % 4294967296 + 2654435769 * (8 * (r : Int) + (k : Int) + 1) % 4294967296) % 4294967296 ≤ 4294967295 := by omega
              generalize ((a0 + am) % 4294967296 + 2654435769 * (8 * (r : Int) + (k : Int) + 1) % 4294967296) % 4294967296 = t at t0 t1 Hv ⊢
              go_quiet ((go_at_call 137; exact quiet_more (fun W => rot7_spec t t0 t1 W)))
              go_wp2_with fail
              obtain ⟨u0, u1⟩ := xor_range (rot7 t) a1
              generalize bits .xor .u32 (rot7 t) a1 = u at u0 u1 Hv ⊢
              refine (rot13_spec a5 x5l x5h _).mono ?_
              rintro e w' ⟨rfl, rfl⟩
              obtain ⟨v0, v1⟩ := rot13_range a5
              generalize rot13 a5 = v at v0 v1 Hv ⊢
              go_wp2
              go_roundw
              case rel =>
                have hd : ∀ n : Nat, Below w.heap.size w ((wr.drewN n).setCell ⟨w1.heap.size, k, none⟩ (.int .u32 ((u + v) % 4294967296))) := fun n => (below_drewN Hb'.out n).setCell (by have := G1.out; simp; omega) _
                have ho : ∀ (n g : Nat), g ≠ w1.heap.size → ((wr.drewN n).setCell ⟨w1.heap.size, k, none⟩ (.int .u32 ((u + v) % 4294967296))).heap[g]? = wr.heap[g]? := fun n g hg => heap_setCell_other (wr.drewN n) _ _ _ hg
                have hn : ∀ n : Nat, ((wr.drewN n).setCell ⟨w1.heap.size, k, none⟩ (.int .u32 ((u + v) % 4294967296))).heap[w1.heap.size]? = some (.cells (ints .u32 (mixK M (mixR M st r) r (k + 1))) 138) := fun n => by
                  rw [heap_setCell_same (wr.drewN n) _ _ _ _ _ H2'.out, ints_set, ← Hv.out, Hst.out]
                have g := G1.out
                exact ⟨k + 1, by omega, by go_num, hd _, (ho _ _ (by omega)).trans Ha'.out, (ho _ _ (by omega)).trans Hz'.out, (ho _ _ (by omega)).trans H1'.out, hn _⟩
              case measure => simp [intOf]; omega
            · obtain rfl : k = 8 := by omega
              have H2n : Hid (wr.heap[w1.heap.size]? = some (.cells (ints .u32 (mixR M st (r + 1))) 138)) := H2'
              clear h1' h2' H2'
              go_wp2
              go_roundw
              case rel => exact ⟨r + 1, by omega, by go_num, Hb'.out, Ha'.out, Hz'.out, H1'.out, H2n.out⟩
              case measure => simp [intOf]; omega
        · obtain rfl : r = 12 := by omega
          have HF := Lib.hid (W32_R (m := M) (s := st) Sr.out 12)
          have He : Hid (mixF st b = xor8 (mixR M st 12) st) := Lib.hid (by unfold mixF; rw [HM.out])
          generalize mixR M st 12 = F at H2o HF He
          have HX := Lib.hid (xor8_len HF.out.1 Hs.out)
          obtain ⟨wo, rfl⟩ : ∃ wo : World, wo = wr := ⟨_, rfl⟩
          go_wp2
          go_loopw [13] (fun i wr => ∃ k : Nat, k ≤ 8 ∧ i = .int .i64 k ∧ Below w.heap.size w wr ∧ wr.heap[w.heap.size]? = some (.cells (ints .u32 st) 138) ∧ wr.heap[w.heap.size + 1 + 1]? = some (.cells (ints .u32 z8) 138) ∧ wr.heap[w1.heap.size]? = some (.cells (ints .u32 (upTo F (xor8 F st) k)) 138)) (fun i _ => 8 - (intOf i).toNat)
          case atStart => exact ⟨0, by omega, rfl, Hbo.out, Hao.out, Hzo.out, by rw [upTo_zero]; exact H2o.out⟩
          case round =>
            obtain ⟨k, hk, rfl, hb', ha', hz', h2'⟩ := hrel
            rename_i ka ha kb hb0
            clear ha
            have Hb' := Lib.hid hb'
            have Ha' := Lib.hid ha'
            have Hz' := Lib.hid hz'
            have H2' := Lib.hid h2'
            clear hb' hz'
            by_cases hlk : k < 8
            · have c0 := cell_of_row wr w1.heap.size k _ _ _ h2'
              have f0 := frozen_of_row wr w1.heap.size k _ _ h2'
              have c1 := cell_of_row wr w.heap.size k _ _ _ ha'
              rw [upTo_get .u32 (by rw [HX.out, HF.out.1]) (by rw [HX.out]; exact hlk)] at c0
              rw [ints_get .u32 _ _ (by rw [Hs.out]; exact hlk)] at c1
              have Hx := Lib.hid (xor8_at HF.out.1 Hs.out hlk)
              clear ha' h2'
              generalize F[k]?.getD 0 = x at c0 Hx
              generalize st[k]?.getD 0 = y at c1 Hx
              have b0 : (0 : Int) ≤ (k : Int) := by omega
              have b1 : (k : Int) < 8 := by omega
              go_wp2_with fail
              go_region
              go_wp2_with fail
              go_roundw
              case rel =>
                have g := G1.out
                refine ⟨k + 1, by omega, by go_num, (Hb'.out.setCell (by simp; omega) _).drew, ?_, ?_, ?_⟩
                · show (wr.setCell _ _).heap[_]? = _
                  rw [heap_setCell_other _ _ _ _ (by simp; omega)]; exact Ha'.out
                · show (wr.setCell _ _).heap[_]? = _
                  rw [heap_setCell_other _ _ _ _ (by simp; omega)]; exact Hz'.out
                · show (wr.setCell _ _).heap[_]? = _
                  rw [heap_setCell_same _ _ _ _ _ _ H2'.out, upTo_set .u32 (by rw [HX.out, HF.out.1]) (by rw [HX.out]; exact hlk) Hx.out]
              case measure => simp [intOf]; omega
            · obtain rfl : k = 8 := by omega
              rw [upTo_all HF.out.1 HX.out] at H2'
              clear ha' h2'
              go_wp2_with (first | (refine wpList_load_row rfl 138 (.tmp 8) rfl (w1.heap.size) rfl 138 (ints .u32 (xor8 F st)) (0, 0) _ H2'.out Try.underlying138 rfl (by rw [ints_size, HX.out]; exact sizeA8) ?_) | (refine wpList_store_row rfl 138 _ _ rfl (w.heap.size + 1 + 1) (ints .u32 (xor8 F st)) rfl rfl 138 (ints .u32 z8) Hz'.out (by rw [ints_size, HX.out]; exact sizeA8) (by rw [ints_size, ints_size, HX.out]; rfl) (ints_one _ _) ?_))
              refine bodyPost_ret (results_cell_row rfl _ _ (w.heap.size + 1 + 1) 138 (ints .u32 (xor8 F st)) (0, 0) _ rfl (setRow_heap _ _ _ _ _ _ Hz'.out) Try.underlying138 rfl (by rw [ints_size, HX.out]; exact sizeA8)) rfl ⟨by rw [He.out], ?_⟩
              exact Below.setRow Hb'.out (by omega) _
end Go.Proofs.Ytdoelmjaongjfaa
