/- AddLeaf: what it answers, and the specification. Written by wip/gen/add.py. -/
import Derived.Test.YtfnmmpnmbommeaaConcK
import Derived.Test.YtfnmmpnmbommeaaPeakS
import Derived.Test.YtfnmmpnmbommeaaKeysM
namespace Go.Proofs.Ytfnmmpnmbommeaa
open Go.ChangeShapes Go.WideShapes Go.ChangeAt Go.RowKit
set_option linter.unusedVariables false
set_option linter.unusedSimpArgs false
/-- How many of the lowest bits are 1. -/
def tz : Nat → Nat → Nat
  | 0, _ => 0
  | f + 1, n => if n % 2 = 1 then tz f (n / 2) + 1 else 0
theorem tz_bit : ∀ n, n < 256 → ∀ d, d < 9 → d < tz 10 n → n / 2 ^ d % 2 = 1 := by decide +kernel
theorem tz_end : ∀ n, n < 256 → n / 2 ^ (tz 10 n) % 2 = 0 := by decide +kernel
theorem tz_eight : ∀ n, n < 256 → tz 10 n ≤ 8 := by decide +kernel
theorem tz_ones : ∀ n, n < 256 → tz 10 n ≤ onesF 10 n := by decide +kernel
/-- The leaf, joined with the last d peaks. -/
def addK (fl leaf : List Int) (l : Nat) : Nat → List Int
  | 0 => leaf
  | d + 1 => nodeK (keyAt fl (l - 1 - d)) (addK fl leaf l d)
def adN (l : Nat) (n : Int) : Nat := if gcode l n 255 = 0 then l - tz 10 n.toNat + 1 else 0
def adV (fl : List Int) (l : Nat) (n : Int) (leaf : List Int) : List Int := if gcode l n 255 = 0 then fl.take (32 * (l - tz 10 n.toNat)) ++ addK fl leaf l (tz 10 n.toNat) else []
theorem addK_good {fl leaf : List Int} {l : Nat} (h : L32 leaf) : ∀ d, L32 (addK fl leaf l d)
  | 0 => h
  | d + 1 => ⟨nodeK_len _ _, nodeK_range _ _⟩
theorem adN_le (l : Nat) (n : Int) : adN l n ≤ 257 := by
  unfold adN
  split
  · rename_i h
    have := (gcode_zero h (by omega)).1
    omega
  · omega
theorem adV_len {fl leaf : List Int} {l : Nat} {n : Int} (h : fl.length = 32 * l) (hL : L32 leaf) : (adV fl l n leaf).length = 32 * adN l n := by
  unfold adV adN
  split
  · rw [List.length_append, List.length_take, (addK_good hL _).1]
    omega
  · rfl
theorem owns_short {w : World} {base e size k c : Nat} {a : Option Addr} {xs ys : List Value} (hx : xs.length = k * size) (h : w.ownsRow base e size (.slice a (k + 1) c) (k + 1) (xs ++ ys)) : w.ownsRow base e size (.slice a k c) k xs := by
  refine ⟨hx, ?_⟩
  rcases h.2 with ⟨_, h0⟩ | ⟨b, cap, cur, hv, hb, hh, h1, h2, h3, h4⟩
  · omega
  · cases hv
    refine Or.inr ⟨b, c, cur, rfl, hb, hh, by omega, h2, h3, ?_⟩
    have h := congrArg (List.take (k * size)) h4
    rw [List.take_take, Nat.min_eq_left (Nat.mul_le_mul_right _ (by omega))] at h
    rw [h, List.take_append_of_le_length (by omega), List.take_of_length_le (by omega)]
theorem keys_last {fl : List Int} {l k : Nat} (h : fl.length = 32 * l) (hk : k < l) : (fl.take (32 * (k + 1))).map (Value.int .u8) = (fl.take (32 * k)).map (Value.int .u8) ++ (ints .u8 (keyAt fl k)).toList := by
  have e : fl.take (32 * (k + 1)) = fl.take (32 * k) ++ keyAt fl k := by
    unfold keyAt
    rw [← List.take_add]
    congr 1
  rw [e, List.map_append]
  simp [ints]
theorem ownsPtr {w : World} {base e size k c : Nat} {a : Option Addr} {xs : List Value} (h : w.ownsRow base e size (.slice a k c) k xs) (h0 : 0 < k) : ∃ b, a = some ⟨b, 0, none⟩ ∧ base ≤ b ∧ b < w.heap.size ∧ k ≤ c ∧ c ≤ maxLen := by
  rcases h.2 with ⟨_, h1⟩ | ⟨b, cap, cur, hv, hb, hh, h1, h2, h3, h4⟩
  · omega
  · cases hv
    exact ⟨b, rfl, hb, (Array.getElem?_eq_some_iff.1 hh).1, h1, h2⟩
theorem range_setRow {w : World} {b o g : Nat} {xs : List Value} {cs : Array Value} (hne : b ≠ g) (h : w.rangeAt b o xs) : (w.setRow g cs).rangeAt b o xs := fun j u hu => by
  rw [World.cell?_of_block (w := w) (a := ⟨b, o + j, none⟩) (setRow_other w g b cs hne)]
  exact h j u hu
theorem owns_setRow_ne' {g base e n c size b : Nat} {w : World} {xs : List Value} {cs : Array Value} (hb : g + 1 ≤ b) (o : w.ownsRow base e size (.slice (some ⟨b, 0, none⟩) n c) n xs) : (w.setRow g cs).ownsRow base e size (.slice (some ⟨b, 0, none⟩) n c) n xs := by
  refine ⟨o.1, ?_⟩
  rcases o.2 with h0 | ⟨b', cap, cur, hv, hc, hh, r⟩
  · exact Or.inl h0
  · cases hv
    exact Or.inr ⟨b, c, cur, rfl, hc, (setRow_other _ _ _ _ (by omega)).trans hh, r⟩
set_option maxRecDepth 100000 in
set_option maxHeartbeats 8000000 in
theorem ad_spec (a : Option Addr) (l cap : Nat) (n : Int) (fl leaf : List Int) (hl : l ≤ 1048576) (fb : ∀ z ∈ fl, 0 ≤ z ∧ z ≤ 255) (hL : leaf.length = 32) (fL : ∀ z ∈ leaf, 0 ≤ z ∧ z ≤ 255) (w : World) (hr : RdK w a l fl) :
    Calls Try.prog 43 #[.slice a l cap, .int .i64 n, .agg (ints .u8 leaf)] w fun e w' => ∃ v, e = .returned (.tuple #[v, .int .i64 (gcode l n 255)]) ∧ w'.ownsRow w.heap.size 29 32 v (adN l n) ((adV fl l n leaf).map (Value.int .u8)) ∧ Below w.heap.size w w' := by
  have LL : L32 leaf := ⟨hL, fL⟩
  have A0 := Lib.hid (heap_alloc_last w (.cells (ints .u8 leaf) 29))
  have B0 := Lib.hid ((Below.refl w.heap.size w).alloc (Nat.le_refl _) (.cells (ints .u8 leaf) 29))
  obtain ⟨W1, hW1⟩ : ∃ W1, w.alloc (.cells (ints .u8 leaf) 29) = W1 := ⟨_, rfl⟩
  have HSZ : Hid (W1.heap.size = w.heap.size + 1) := Lib.hid (by rw [← hW1]; simp)
  rw [hW1] at A0 B0
  have Hg := Lib.hid (fun U => given_spec a l cap n 255 hl (by omega) (by omega) U)
  by_cases h0 : gcode l n 255 = 0
  · have e1 : adN l n = l - tz 10 n.toNat + 1 := by unfold adN; rw [if_pos h0]
    have e2 : adV fl l n leaf = fl.take (32 * (l - tz 10 n.toNat)) ++ addK fl leaf l (tz 10 n.toNat) := by unfold adV; rw [if_pos h0]
    rw [e1, e2, h0]
    obtain ⟨hl2, hn0, hn1, hlo⟩ := gcode_zero h0 (by omega)
    rw [h0] at Hg
    clear e1 e2 h0
    obtain ⟨m, rfl⟩ := Int.eq_ofNat_of_zero_le hn0
    rw [Int.toNat_natCast] at hlo ⊢
    have hm : m < 256 := by omega
    have HT : Hid (tz 10 m ≤ l ∧ tz 10 m ≤ 8) := Lib.hid ⟨by rw [hlo]; exact tz_ones m hm, tz_eight m hm⟩
    have HBIT := Lib.hid (fun d hd => tz_bit m hm d hd)
    have HEND := Lib.hid (tz_end m hm)
    generalize tz 10 m = t at HT HBIT HEND ⊢
    obtain ⟨i0, z0, hi0, hz0, hz1, hz2, hzs, hzc⟩ := keyParts
    have Hi := Lib.hid hi0
    have HR := Lib.hid hr
    have HL := Lib.hid hr.1
    have HFB := Lib.hid fb
    have LLH := Lib.hid LL
    clear hr fb hi0 hzc LL hL fL hlo
    have O1 := Lib.hid (owns_empty W1 29 32)
    have B1 := Lib.hid ((Below.refl W1.heap.size W1).alloc (Nat.le_refl _) (.cells #[] 29))
    go_enter Try.func43, Try.ntmps43
    go_wp2_with fail
    refine (Hg.out _).mono ?_
    rintro e w1 ⟨rfl, rfl⟩
    go_wp2_with (at_builtin; refine wpList_append_rdk rfl _ _ rfl W1.heap.size _ 0 _ rfl O1.out a l cap fl rfl (HR.out.below (B0.out.trans (B1.out.mono B0.out.size))) (by omega) B1.out.size ?_; intro v1 w2 hown2 hb2)
    have O2 := Lib.hid (show w2.ownsRow (w.heap.size + 1) 29 32 v1 (l - 0) ((fl.take (32 * (l - 0))).map (Value.int .u8)) by
      rw [List.take_of_length_le (by rw [HL.out]; omega)]
      have := hown2
      rw [List.nil_append, Nat.zero_add, HSZ.out] at this
      exact this)
    have A2 := Lib.hid ((hb2.block w.heap.size (by have := HSZ.out; omega)).trans (keep_block A0.out B1.out))
    have B2 := Lib.hid (B0.out.trans ((B1.out.trans hb2).mono B0.out.size))
    clear hown2 hb2
    try clear hW1
    go_loopw [1, 9] (fun nv ov wr => ∃ d c a, d ≤ t ∧ nv = .int .i64 ((m / 2 ^ d : Nat) : Int) ∧ ov = .slice a (l - d) c ∧ wr.ownsRow (w.heap.size + 1) 29 32 (.slice a (l - d) c) (l - d) ((fl.take (32 * (l - d))).map (Value.int .u8)) ∧ wr.heap[w.heap.size]? = some (.cells (ints .u8 (addK fl leaf l d)) 29) ∧ Below w.heap.size w wr) (fun nv _ _ => (intOf nv).toNat)
    case atStart =>
      obtain ⟨a1, c1, hv1⟩ := owns_slc O2.out
      subst hv1
      exact ⟨0, c1, a1, by omega, by simp, rfl, O2.out, A2.out, B2.out⟩
    case round =>
      clear O2 A2 B2
      obtain ⟨d, c, a1, hd, rfl, rfl, hown, hA, hB⟩ := hrel
      have AD := Lib.hid (addK_good (fl := fl) (l := l) LLH.out d)
      have HA := Lib.hid hA
      have HB := Lib.hid hB
      have HO := Lib.hid hown
      clear hA hB hown
      by_cases hdt : d < t
      · have hbit := HBIT.out d (by have := HT.out; omega) hdt
        have hlt := HT.out.1
        obtain ⟨blk, rfl, hb1, hb2, hc1, hc2⟩ := ownsPtr HO.out (by omega)
        have HBK := Lib.hid hb1
        clear hb1 hb2
        have HLT : Hid ((fl.take (32 * (l - d))).length = 32 * (l - d)) := Lib.hid (by rw [List.length_take, HL.out]; omega)
        have Hkey := Lib.hid ((rdk_of_owned HLT.out HO.out).key (l - d - 1) (by omega))
        rw [keyAt_take (fl := fl) (show l - d - 1 < l - d by omega), Nat.zero_add] at Hkey
        have HKL := Lib.hid (keyAt_len HL.out (show l - d - 1 < l by omega))
        have HKR := Lib.hid (keyAt_range HFB.out (l - d - 1))
        have HNX : Hid (addK fl leaf l (d + 1) = nodeK (keyAt fl (l - d - 1)) (addK fl leaf l d)) := Lib.hid (by rw [addK, show l - 1 - d = l - d - 1 by omega])
        have HSP : Hid ((fl.take (32 * (l - d))).map (Value.int .u8) = (fl.take (32 * (l - (d + 1)))).map (Value.int .u8) ++ (ints .u8 (keyAt fl (l - d - 1))).toList) := Lib.hid (by
          have := keys_last (fl := fl) (l := l) (k := l - d - 1) HL.out (by omega)
          rw [show l - d - 1 + 1 = l - d by omega] at this
          rw [this, show l - (d + 1) = l - d - 1 by omega])
        generalize keyAt fl (l - d - 1) = key at Hkey HKL HKR HNX HSP
        have Hnode := Lib.hid (fun U => l03node_spec key (addK fl leaf l d) HKL.out HKR.out AD.out.1 AD.out.2 U)
        have Hvl := Lib.hid (nodeK_len key (addK fl leaf l d))
        generalize addK fl leaf l d = K0 at AD HA Hnode Hvl HNX
        generalize nodeK key K0 = K1 at Hnode Hvl HNX
        generalize hq : m / 2 ^ d = q at hbit
        have HQ : Hid (m / 2 ^ (d + 1) = q / 2) := Lib.hid (by rw [← hq, Nat.pow_succ, Nat.div_div_eq_div_mul])
        have hq1 : q ≤ 255 := by rw [← hq]; exact Nat.le_trans (Nat.div_le_self _ _) (by omega)
        clear hq
        have q0 : (0 : Int) ≤ (q : Int) := by omega
        have q1 : (q : Int) ≤ 255 := by omega
        have q2 : (((q : Int) % 2) == 1) = true := by rw [beq_iff_eq]; omega
        have j2 : (0 : Int) < ((l - d : Nat) : Int) := by omega
        have j3 : ((l - d : Nat) : Int) ≤ 256 := by omega
        have j4 : ((l - d : Nat) : Int) ≤ (c : Int) := by omega
        have j5 : l - d - 1 ≤ c := by omega
        have HJ : Hid (l - d - 1 = l - (d + 1)) := Lib.hid (by omega)
        generalize hk : l - d = k at *
        have k0 : (0 : Int) ≤ (k : Int) - 1 := by omega
        have k1 : (k : Int) - 1 < (k : Int) := by omega
        have k2 : ((k : Int) - 1).toNat = k - 1 := by omega
        have k3 : ¬ c < k - 1 := by omega
        have k4 : 0 < k := by omega
        have k5 : ¬ (k : Int) < 1 := by omega
        go_wp2_with fail
        refine wp_region_held_drew (S := fun U => U.rangeAt blk ((k - 1) * 32) (key.map (Value.int .u8))) (by kernel_rfl) (rangeAt_below Hkey.out (Below.refl _ _).drew) (fun hS => ?_)
        have HAD := Lib.hid (keep_block (w := wr) HA.out (Below.refl wr.heap.size wr).drew)
        have HOD := Lib.hid (owns_below HO.out (Below.refl wr.heap.size wr).drew)
        have HBD := Lib.hid (HB.out.trans ((Below.refl wr.heap.size wr).drew.mono HB.out.size))
        generalize wr.drew = WD at *
        refine take_at (i := 0) (v := .slice (some ⟨blk, 0, none⟩) k c) rfl rfl (by kernel_rfl) (by kernel_rfl) (by kernel_rfl) (fun _ _ _ h => h) (Or.inl ⟨by rfl, fun U hU => by go_simp⟩) hS ?_
        try simp only [List.setIfInBounds_toArray, List.set_cons_zero, List.set_cons_succ]
        refine take_at (i := 1) (v := .slice (some ⟨blk, 0, none⟩) k c) rfl rfl (by kernel_rfl) (by kernel_rfl) (by kernel_rfl) (fun _ _ _ h => h) (Or.inl ⟨by rfl, fun U hU => by go_simp⟩) hS ?_
        try simp only [List.setIfInBounds_toArray, List.set_cons_zero, List.set_cons_succ]
        refine take_at (i := 2) (v := .int .i64 (k : Int)) rfl rfl (by kernel_rfl) (by kernel_rfl) (by kernel_rfl) (fun _ _ _ h => h) (Or.inl ⟨by rfl, fun U hU => by go_simp⟩) hS ?_
        try simp only [List.setIfInBounds_toArray, List.set_cons_zero, List.set_cons_succ]
        refine take_at (i := 3) (v := .int .i64 ((k : Int) - 1)) rfl rfl (by kernel_rfl) (by kernel_rfl) (by kernel_rfl) (fun _ _ _ h => h) (Or.inl ⟨by rfl, fun U hU => by go_simp; rw [IntKind.wrap_i64]; omega⟩) hS ?_
        try simp only [List.setIfInBounds_toArray, List.set_cons_zero, List.set_cons_succ]
        refine take_at (i := 4) (v := .pointer (some ⟨blk, (k - 1) * 32, none⟩)) rfl rfl (by kernel_rfl) (by kernel_rfl) (by kernel_rfl) (fun _ _ _ h => h) (Or.inl ⟨by rfl, fun U hU => by go_simp⟩) hS ?_
        try simp only [List.setIfInBounds_toArray, List.set_cons_zero, List.set_cons_succ]
        refine take_at (i := 5) (v := .agg (ints .u8 key)) rfl rfl (by kernel_rfl) (by kernel_rfl) (by kernel_rfl) (fun _ _ _ h => h) (yieldsIf_load_mid (by rfl) 29 _ rfl blk ((k - 1) * 32) rfl (key.map (Value.int .u8)) _ (fun U hU => hU) Try.underlying29 rfl (by rw [List.length_map, HKL.out]; exact sizeKey)) hS ?_
        try simp only [List.setIfInBounds_toArray, List.set_cons_zero, List.set_cons_succ]
        refine wpAnyH_ready (rs := [6]) (by kernel_rfl) (by simp) ?_
        refine AllReadyH.cons rfl (fun K hK => ?_) AllReadyH.nil
        rw [if_pos (by rfl)]
        refine wp_load_row (o := ⟨some 31, _, _, _, _, _⟩) 29 _ rfl w.heap.size rfl 29 (ints .u8 K0) (0, 0) _ HAD.out Try.underlying29 rfl (by rw [ints_size, AD.out.1]; exact sizeKey) ?_
        simp only [Act.put]
        refine hK.out _ _ hS (fun hS => ?_)
        clear hK
        refine wpAnyH_ready (rs := [7]) (by kernel_rfl) (by simp) ?_
        refine AllReadyH.cons rfl (fun K hK => ?_) AllReadyH.nil
        rw [if_pos (by rfl)]
        go_simp
        refine (Hnode.out _).mono ?_
        rintro e u1 ⟨rfl, hb3⟩
        have A3 := Lib.hid (keep_block HAD.out hb3)
        have O3 := Lib.hid (owns_below HOD.out hb3)
        have B3 := Lib.hid (below_call HBD.out HBD.out.size hb3)
        refine hK.out _ _ (rangeAt_below hS hb3) (fun hS => ?_)
        clear hK hb3
        refine wpAnyH_ready (rs := [8]) (by kernel_rfl) (by simp) ?_
        refine AllReadyH.cons rfl (fun K hK => ?_) AllReadyH.nil
        rw [if_pos (by rfl)]
        refine wp_store_row (o := ⟨none, _, _, _, _, _⟩) 29 _ _ rfl w.heap.size (ints .u8 K1) rfl rfl 29 (ints .u8 K0) A3.out (by rw [ints_size, Hvl.out]; exact sizeKey) (by rw [ints_size, ints_size, Hvl.out, AD.out.1]) (ints_one _ _) ?_
        simp only [Act.put]
        have A4 := Lib.hid (setRow_heap _ _ (ints .u8 K0) (ints .u8 K1) _ _ A3.out)
        have O4 := Lib.hid (owns_setRow_ne' (cs := ints .u8 K1) (g := w.heap.size) HBK.out O3.out)
        have B4 := Lib.hid (Below.setRow B3.out (Nat.le_refl _) (ints .u8 K1))
        refine hK.out _ _ (range_setRow (by have := HBK.out; omega) hS) (fun hS => ?_)
        clear hK hS
        refine wpAnyH_done (by kernel_rfl) ?_ _
        generalize u1.setRow w.heap.size (ints .u8 K1) = W5 at A4 O4 B4 ⊢
        go_wp2_with fail
        refine ⟨⟨d + 1, c, some ⟨blk, 0, none⟩, by omega, by rw [HQ.out]; go_num, by rw [← HJ.out], ?_, by rw [HNX.out]; exact A4.out, B4.out⟩, by simp [intOf]; omega⟩
        have o4 := O4.out
        rw [HSP.out] at o4
        have hk2 : k = l - (d + 1) + 1 := by have := HJ.out; omega
        rw [hk2] at o4
        exact owns_short (by rw [List.length_map, List.length_take, HL.out]; omega) o4
      · obtain rfl : d = t := by omega
        have hqm := Nat.div_le_self m (2 ^ d)
        have hqe := HEND.out
        generalize m / 2 ^ d = q at hqm hqe
        have q0 : (0 : Int) ≤ (q : Int) := by omega
        have q1 : (q : Int) ≤ 255 := by omega
        have q2 : (((q : Int) % 2) == 1) = false := by rw [beq_eq_false_iff_ne]; omega
        clear hqm hqe
        have j3 : l - d ≤ 256 := by omega
        generalize hK0 : addK fl leaf l d = K0 at AD HA
        generalize hk : l - d = k at HO j3
        have HK0 := Lib.hid hK0
        have HKK := Lib.hid hk
        clear hK0 hk
        have LI := (Below.refl wr.heap.size wr).alloc (Nat.le_refl _) (.cells (ints .u8 K0) 29)
        have O3 := Lib.hid (owns_below HO.out LI)
        have B3 := Lib.hid (below_call HB.out HB.out.size LI)
        clear LI
        go_wp2_with (first | (refine wpList_load_row rfl 29 (.tmp 5) rfl w.heap.size rfl 29 (ints .u8 K0) (0, 0) _ HA.out Try.underlying29 rfl (by rw [ints_size, AD.out.1]; exact sizeKey) ?_) | (refine wpList_buildSlice_one rfl 24 29 _ rfl Try.underlying24 Hi.out hz0 (ints .u8 K0) rfl (by rw [ints_size, AD.out.1, hz1]) (by rw [hz1]; decide) (by rw [hz1]; decide) ?_) | (at_builtin; refine wpList_append_own _ rfl _ _ 24 rfl (w.heap.size + 1) 29 i0 z0 32 32 Try.underlying24 Hi.out hz0 hz1 hz2 hzs (by decide) _ k _ rfl O3.out ⟨wr.heap.size, 0, none⟩ 1 1 (K0.map (Value.int .u8)) rfl (by rw [List.length_map, AD.out.1]) ?c1 ?c2 ?c3 ?c4 ?c5 ?_))
        case c1 =>
          intro p u hu
          rw [addr_add, Nat.zero_add, cell_of_row _ wr.heap.size p _ _ _ (heap_alloc_last wr (.cells (ints .u8 K0) 29)), ← hu]
          simp [ints]
        case c2 =>
          intro u hu
          obtain ⟨z, _, rfl⟩ := List.mem_map.1 hu
          rfl
        case c3 => unfold maxLen; omega
        case c4 => omega
        case c5 => have := (Array.getElem?_eq_some_iff.1 HA.out).1; simp; omega
        intro v4 w4 hown4 hgrow4 hnil4
        have O4 := Lib.hid (owns_base (base := w.heap.size) (by omega) hown4)
        have B4 := Lib.hid (B3.out.grown hgrow4 (by have := HB.out.size; simp; omega) (fun g e => by have := (O3.out.lt g e).1; omega))
        clear hown4 hgrow4 hnil4
        go_wp2_with fail
        go_ret2
        exact ⟨_, rfl, by rw [HK0.out, HKK.out, List.map_append]; first | exact O4.out | (rw [List.map_take]; exact O4.out), B4.out⟩
  · have e1 : adN l n = 0 := by unfold adN; rw [if_neg h0]
    have e2 : adV fl l n leaf = [] := by unfold adV; rw [if_neg h0]
    rw [e1, e2]
    have hg : (gcode l n 255 == 0) = false := by rw [beq_eq_false_iff_ne]; exact h0
    have hg2 : ¬ gcode l n 255 = 0 := h0
    generalize gcode l n 255 = E at Hg hg hg2 ⊢
    have O1 := Lib.hid (owns_empty W1 29 32)
    have B1 := Lib.hid (B0.out.alloc B0.out.size (.cells #[] 29))
    clear h0 e1 e2
    go_enter Try.func43, Try.ntmps43
    go_wp2_with fail
    refine (Hg.out _).mono ?_
    rintro e w1 ⟨rfl, rfl⟩
    go_wp2_with fail
    go_ret2
    exact ⟨_, rfl, owns_base B0.out.size O1.out, B1.out⟩
end Go.Proofs.Ytfnmmpnmbommeaa
