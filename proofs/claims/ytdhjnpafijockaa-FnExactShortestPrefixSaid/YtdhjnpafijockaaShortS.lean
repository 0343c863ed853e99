/- The shortest prefix of a key, as the specification has it. -/
import Derived.Test.YtdhjnpafijockaaShort
namespace Go.Proofs.Ytdhjnpafijockaa
open Go.ChangeShapes Go.WideShapes Go.ChangeAt Go.RowKit
set_option linter.unusedVariables false
theorem cbI_range : ∀ l : List Int, (∀ x ∈ l, 0 ≤ x ∧ x ≤ 255) → 0 ≤ cbI l ∧ cbI l ≤ 8 * (l.length : Int)
  | [], _ => by simp [cbI]
  | x :: xs, h => by
    have ih := cbI_range xs (fun y hy => h y (by simp [hy]))
    have hx := h x (by simp)
    unfold cbI
    simp only [List.length_cons]
    split
    · omega
    · have := len_le x.toNat (by omega)
      omega
/-- How many digits tell a key behind i keys. -/
def digN (a b : List Int) : Int := cbI (xorL a b) / 4 + 1
def mostK (fl key : List Int) : Nat → Int
  | 0 => 1
  | i + 1 => if keyAt fl i = key then mostK fl key i else max (mostK fl key i) (digN (keyAt fl i) key)
theorem digN_range {a b : List Int} (ha : a.length = 32) (hb : b.length = 32) : 1 ≤ digN a b ∧ digN a b ≤ 65 := by
  have := cbI_range (xorL a b) (xorL_range a b)
  rw [xorL_len ha hb] at this
  unfold digN
  omega
theorem mostK_range {fl key : List Int} {n : Nat} (hl : fl.length = 32 * n) (hk : key.length = 32) : ∀ i, i ≤ n → 1 ≤ mostK fl key i ∧ mostK fl key i ≤ 65
  | 0, _ => by simp [mostK]
  | i + 1, h => by
    have ih := mostK_range hl hk i (by omega)
    have hd := digN_range (keyAt_len hl (show i < n by omega)) hk
    unfold mostK
    split <;> omega
def shortV (fl key : List Int) (n : Nat) : Int := if 256 < n then 0 else if hasB fl n key then mostK fl key n else 0
def shortE (fl key : List Int) (n : Nat) : Int := if 256 < n then 3 else if hasB fl n key then 0 else 6
theorem take_at {P : Program} {ops : Array Oper} {Q : Exit → Act → World → Prop} {md : Region.Mode} {S : World → Prop} {i : Nat} {d : Tmp} {oi : Oper} {v : Value} {fuel : Nat} {listed : Array Bool} {ts : Array Value} {ds : List Deferred} {w : World}
    (hi : ops[i]? = some oi) (hd : oi.dst = some d) (hs : Region.noSelect ops = true) (hf : Region.free md ops listed i = true) (hr : (Region.ready md ops listed).contains i = true)
    (hQ : ∀ c a w, Q (.panic c) (a.put oi.dst v) w → Q (.panic c) a w) (hy : YieldsIf P ops S oi v ⟨ts, ds⟩) (hS : S w)
    (h : wpAnyH P md ops Q S fuel (listed.setIfInBounds i true) ⟨ts.setIfInBounds d v, ds⟩ w) : wpAnyH P md ops Q S (fuel + 1) listed ⟨ts, ds⟩ w :=
  wpAnyH_take hi hs hf hr hQ hy hS (by rw [hd]; exact h)
theorem neq_keys (a b : List Int) (ha : a.length = 32) (hb : b.length = 32) (W : World) : (binOp .neq 60 (.agg (ints .u8 a)) (.agg (ints .u8 b))).run Try.prog W = .ok (.bool (!decide (a = b))) W := by
  rw [run_neq_struct, run_equalIn_ints Try.underlying60 Try.underlying5 sizeU8 a b ha hb 9998 W]
  rfl
theorem maxS (x y : Int) (w : World) : Calls Try.prog 80 #[.int .i64 x, .int .i64 y] w fun e w' => e = .returned (.int .i64 (max x y)) ∧ w' = w := by
  by_cases h : y < x
  · have d1 : decide (x > y) = true := by simpa using h
    have e : max x y = x := by omega
    rw [e]
    go_enter Try.func80, Try.ntmps80
    go_wp2
    go_ret
    exact ⟨rfl, rfl⟩
  · have d1 : decide (x > y) = false := by simp; omega
    have e : max x y = y := by omega
    rw [e]
    go_enter Try.func80, Try.ntmps80
    go_wp2
    go_ret
    exact ⟨rfl, rfl⟩
set_option maxRecDepth 100000 in
set_option maxHeartbeats 1000000 in
theorem short_spec (a : Option Addr) (n cap : Nat) (fl key : List Int) (hn : n ≤ 1048576) (hk : key.length = 32) (w : World) (hr : RdK w a n fl) :
    Calls Try.prog 44 #[.slice a n cap, .agg (ints .u8 key)] w fun e w' => e = .returned (.tuple #[.int .i64 (shortV fl key n), .int .i64 (shortE fl key n)]) ∧ Below w.heap.size w w' := by
  have Hk := Lib.hid hk
  have Hr := Lib.hid hr
  have Hh := Lib.hid (fun (W : World) h => has_spec a n cap fl key hn hk W h)
  have ldk := 0
  clear hk hr ldk
  by_cases hlim : n ≤ 256
  · cases hh : hasB fl n key
    · have Hv := Lib.hid (show shortV fl key n = 0 by simp [shortV, hh])
      have He := Lib.hid (show shortE fl key n = 6 by rw [shortE, if_neg (by omega), hh]; rfl)
      rw [hh] at Hh
      clear hh
      generalize shortV fl key n = V at Hv
      generalize shortE fl key n = E at He
      go_enter Try.func44, Try.ntmps44
      go_wp2_with (refine wpList_load_row rfl 60 (.tmp 3) rfl w.heap.size rfl 60 (ints .u8 key) (0, 0) _ (heap_alloc_last _ _) Try.underlying60 rfl (by rw [ints_size, Hk.out]; exact sizeKey) ?_)
      refine (Hh.out _ (Hr.out.below ((Below.refl _ _).alloc (by simp) _))).mono ?_
      rintro e w1 ⟨rfl, hb⟩
      have HS := Lib.hid (((Below.refl w.heap.size w).alloc (by simp) (.cells (ints .u8 key) 60)).trans (hb.mono (by simp)))
      clear hb
      go_wp2_with fail
      go_ret2
      exact ⟨by rw [Hv.out, He.out]; rfl, HS.out⟩
    · have Hv := Lib.hid (show shortV fl key n = mostK fl key n by rw [shortV, if_neg (by omega), hh]; rfl)
      have He := Lib.hid (show shortE fl key n = 0 by rw [shortE, if_neg (by omega), hh]; rfl)
      rw [hh] at Hh
      clear hh
      generalize shortV fl key n = V at Hv
      generalize shortE fl key n = E at He
      go_enter Try.func44, Try.ntmps44
      go_wp2_with (refine wpList_load_row rfl 60 (.tmp 3) rfl w.heap.size rfl 60 (ints .u8 key) (0, 0) _ (heap_alloc_last _ _) Try.underlying60 rfl (by rw [ints_size, Hk.out]; exact sizeKey) ?_)
      refine (Hh.out _ (Hr.out.below ((Below.refl _ _).alloc (by simp) _))).mono ?_
      rintro e w1 ⟨rfl, hb⟩
      have HS := Lib.hid (((Below.refl w.heap.size w).alloc (by simp) (.cells (ints .u8 key) 60)).trans (hb.mono (by simp)))
      have HG := Lib.hid (keep_block (heap_alloc_last w (.cells (ints .u8 key) 60)) hb)
      clear hb
      go_wp2_with fail
      go_loopw [6, 7] (fun m i wr => ∃ k : Nat, k ≤ n ∧ i = .int .i64 k ∧ m = .int .i64 (mostK fl key k) ∧ Below w.heap.size w wr ∧ wr.heap[w.heap.size]? = some (.cells (ints .u8 key) 60)) (fun _ i _ => n - (intOf i).toNat)
      case atStart => exact ⟨0, by omega, rfl, rfl, HS.out, HG.out⟩
      case round =>
        obtain ⟨k, hk, rfl, rfl, hb, hg⟩ := hrel
        have HB := Lib.hid hb
        have HG' := Lib.hid hg
        clear hb hg
        by_cases hlt : k < n
        · obtain ⟨hl, hr⟩ := Hr.out
          have Hl := Lib.hid hl
          have Hmr := Lib.hid (mostK_range hl Hk.out k hk)
          clear hl
          obtain ⟨b, off, rfl, hb, hc⟩ : ∃ b off, a = some ⟨b, off, none⟩ ∧ b < w.heap.size ∧ ∀ j, j < 32 * n → w.cell? ⟨b, off + j, none⟩ = some (.int .u8 (fl[j]?.getD 0)) := by
            rcases hr with h0 | h
            · omega
            · exact h
          have HC := Lib.hid hc
          have HL := Lib.hid hb
          clear hc hb
          have b0 : (0 : Int) ≤ (k : Int) := by omega
          have b1 : (k : Int) < (n : Int) := by omega
          have Hms : Hid (mostK fl key (k + 1) = if keyAt fl k = key then mostK fl key k else max (mostK fl key k) (digN (keyAt fl k) key)) := Lib.hid rfl
          generalize mostK fl key k = M0 at Hms Hmr
          go_wp2_with fail
          have Hrg := Lib.hid (keyAt_rangeAt (w := wr) (b := b) (off := off) Hl.out (fun j hj => by rw [HB.out.cell (p := ⟨b, off + j, none⟩) HL.out]; exact HC.out j hj) k hlt)
          have Hkl := Lib.hid (keyAt_len Hl.out hlt)
          generalize keyAt fl k = kk at Hrg Hkl Hms
          have heq := fun W => neq_keys kk key Hkl.out Hk.out W
          refine wp_region_held_drew (S := Below (wr).heap.size (wr)) (by kernel_rfl) ((Below.refl _ _).drew) (fun hS => ?_)
          refine take_at (i := 0) (v := .slice (some ⟨b, off, none⟩) n cap) rfl rfl (by kernel_rfl) (by kernel_rfl) (by kernel_rfl) (fun _ _ _ h => h) (Or.inl ⟨by rfl, fun W hW => by go_simp⟩) hS ?_
          refine take_at (i := 1) (v := .int .i64 (k : Int)) rfl rfl (by kernel_rfl) (by kernel_rfl) (by kernel_rfl) (fun _ _ _ h => h) (Or.inl ⟨by rfl, fun W hW => by go_simp⟩) hS ?_
          refine take_at (i := 2) (v := .pointer (some ⟨b, off + k * 32, none⟩)) rfl rfl (by kernel_rfl) (by kernel_rfl) (by kernel_rfl) (fun _ _ _ h => h) (Or.inl ⟨by rfl, fun W hW => by go_simp⟩) hS ?_
          refine take_at (i := 3) (v := .agg (ints .u8 kk)) rfl rfl (by kernel_rfl) (by kernel_rfl) (by kernel_rfl) (fun _ _ _ h => h) (yieldsIf_load_mid (by rfl) 60 _ rfl b (off + k * 32) rfl (kk.map (Value.int .u8)) _ (fun W hW => rangeAt_below Hrg.out hW) Try.underlying60 rfl (by rw [List.length_map, Hkl.out]; exact sizeKey)) hS ?_
          refine take_at (i := 4) (v := .agg (ints .u8 key)) rfl rfl (by kernel_rfl) (by kernel_rfl) (by kernel_rfl) (fun _ _ _ h => h) (yields_box (by rfl) 60 _ rfl w.heap.size rfl _ 60 _ HG'.out Try.underlying60 rfl (by rw [ints_size, Hk.out]; exact sizeKey)) hS ?_
          refine take_at (i := 5) (v := .bool (!decide (kk = key))) rfl rfl (by kernel_rfl) (by kernel_rfl) (by kernel_rfl) (fun _ _ _ h => h) (Or.inl ⟨by rfl, fun W hW => by go_simp⟩) hS ?_
          refine wpAnyH_done (by kernel_rfl) ?_ _
          simp only [List.setIfInBounds_toArray, List.set_cons_zero, List.set_cons_succ]
          have HS2 := Lib.hid (HB.out.trans (hS.mono HB.out.size))
          have HG2 := Lib.hid (keep_block HG'.out hS)
          have HR2 := Lib.hid (rangeAt_below Hrg.out hS)
          clear hS heq
          by_cases hkk : kk = key
          · have He1 := Lib.hid (Hms.out.trans (if_pos hkk))
            rw [decide_eq_true hkk]
            clear hkk
            go_wp2_with fail
            go_roundw
            case rel => exact ⟨k + 1, by omega, by go_num, by rw [He1.out], HS2.out, HG2.out⟩
            case measure => simp [intOf]; omega
          · have He1 := Lib.hid (Hms.out.trans (if_neg hkk))
            rw [decide_eq_false hkk]
            clear hkk
            go_wp2_with fail
            refine wp_region_held_drew (S := Below (wr.drew).heap.size (wr.drew)) (by kernel_rfl) ((Below.refl _ _).drew) (fun hS => ?_)
            refine take_at (i := 0) (v := .int .i64 M0) rfl rfl (by kernel_rfl) (by kernel_rfl) (by kernel_rfl) (fun _ _ _ h => h) (Or.inl ⟨by rfl, fun W hW => by go_simp⟩) hS ?_
            refine take_at (i := 1) (v := .slice (some ⟨b, off, none⟩) n cap) rfl rfl (by kernel_rfl) (by kernel_rfl) (by kernel_rfl) (fun _ _ _ h => h) (Or.inl ⟨by rfl, fun W hW => by go_simp⟩) hS ?_
            refine take_at (i := 2) (v := .int .i64 (k : Int)) rfl rfl (by kernel_rfl) (by kernel_rfl) (by kernel_rfl) (fun _ _ _ h => h) (Or.inl ⟨by rfl, fun W hW => by go_simp⟩) hS ?_
            refine take_at (i := 3) (v := .pointer (some ⟨b, off + k * 32, none⟩)) rfl rfl (by kernel_rfl) (by kernel_rfl) (by kernel_rfl) (fun _ _ _ h => h) (Or.inl ⟨by rfl, fun W hW => by go_simp⟩) hS ?_
            refine take_at (i := 4) (v := .agg (ints .u8 kk)) rfl rfl (by kernel_rfl) (by kernel_rfl) (by kernel_rfl) (fun _ _ _ h => h) (yieldsIf_load_mid (by rfl) 60 _ rfl b (off + k * 32) rfl (kk.map (Value.int .u8)) _ (fun W hW => rangeAt_below HR2.out hW) Try.underlying60 rfl (by rw [List.length_map, Hkl.out]; exact sizeKey)) hS ?_
            refine take_at (i := 5) (v := .agg (ints .u8 key)) rfl rfl (by kernel_rfl) (by kernel_rfl) (by kernel_rfl) (fun _ _ _ h => h) (yields_box (by rfl) 60 _ rfl w.heap.size rfl _ 60 _ HG2.out Try.underlying60 rfl (by rw [ints_size, Hk.out]; exact sizeKey)) hS ?_
            simp only [List.setIfInBounds_toArray, List.set_cons_zero, List.set_cons_succ]
            refine wpAnyH_ready (rs := [6]) (by kernel_rfl) (by simp) ?_
            refine AllReadyH.cons rfl (fun K hK => ?_) AllReadyH.nil
            rw [if_pos (by rfl)]
            go_simp
            refine (common_spec kk key Hkl.out Hk.out _).mono ?_
            rintro e w2 ⟨rfl, hb⟩
            refine hK.out _ _ (below_call hS hS.size hb) (fun hS => ?_)
            clear hb hK
            have hd : digN kk key = cbI (xorL kk key) / 4 + 1 := rfl
            rw [hd] at He1
            obtain ⟨c0, c1⟩ := cbI_range (xorL kk key) (xorL_range kk key)
            rw [xorL_len Hkl.out Hk.out] at c1
            clear hd
            generalize cbI (xorL kk key) = c at He1 c0 c1 ⊢
            have e4 : IntKind.i64.wrap (c.tdiv 4) = c / 4 := by rw [Int.tdiv_eq_ediv_of_nonneg c0, IntKind.wrap_i64]; omega
            have e5 : IntKind.i64.wrap (c / 4 + 1) = c / 4 + 1 := by rw [IntKind.wrap_i64]; omega
            refine wpAnyH_ready (rs := [7]) (by kernel_rfl) (by simp) ?_
            refine AllReadyH.cons rfl (fun K hK => ?_) AllReadyH.nil
            rw [if_pos (by rfl)]
            go_simp
            refine hK.out _ _ hS (fun hS => ?_)
            clear hK
            refine wpAnyH_ready (rs := [8]) (by kernel_rfl) (by simp) ?_
            refine AllReadyH.cons rfl (fun K hK => ?_) AllReadyH.nil
            rw [if_pos (by rfl)]
            go_simp
            refine hK.out _ _ hS (fun hS => ?_)
            clear hK
            refine wpAnyH_ready (rs := [9]) (by kernel_rfl) (by simp) ?_
            refine AllReadyH.cons rfl (fun K hK => ?_) AllReadyH.nil
            rw [if_pos (by rfl)]
            go_simp
            refine (maxS M0 (c / 4 + 1) _).mono ?_
            rintro e w3 ⟨rfl, rfl⟩
            refine hK.out _ _ hS (fun hS => ?_)
            clear hK
            refine wpAnyH_ready (rs := [10]) (by kernel_rfl) (by simp) ?_
            refine AllReadyH.cons rfl (fun K hK => ?_) AllReadyH.nil
            rw [if_pos (by rfl)]
            go_simp
            refine hK.out _ _ hS (fun hS => ?_)
            refine wpAnyH_done (by kernel_rfl) ?_ _
            have HS3 := Lib.hid (HS2.out.trans (hS.mono HS2.out.size))
            have HG3 := Lib.hid (keep_block HG2.out hS)
            clear hS hK e4 e5
            go_wp2_with fail
            go_roundw
            case rel => exact ⟨k + 1, by omega, by go_num, by rw [He1.out], HS3.out, HG3.out⟩
            case measure => simp [intOf]; omega
        · obtain rfl : k = n := by omega
          go_wp2_with fail
          go_ret2
          exact ⟨by rw [Hv.out, He.out]; rfl, HB.out⟩
  · have Hv := Lib.hid (show shortV fl key n = 0 by simp [shortV]; omega)
    have He := Lib.hid (show shortE fl key n = 3 by rw [shortE, if_pos (by omega)])
    generalize shortV fl key n = V at Hv
    generalize shortE fl key n = E at He
    go_enter Try.func44, Try.ntmps44
    go_wp2_with fail
    go_ret2
    exact ⟨by rw [Hv.out, He.out]; rfl, (Below.refl _ _).alloc (by simp) _⟩
end Go.Proofs.Ytdhjnpafijockaa
