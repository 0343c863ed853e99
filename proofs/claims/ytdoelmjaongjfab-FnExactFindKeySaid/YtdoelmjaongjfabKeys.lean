/- Lists of keys: opened, brought over, compared. -/
import Derived.Test.YtdoelmjaongjfabRow
import Derived.Test.YtdoelmjaongjfabRdK
namespace Go.Proofs.Ytdoelmjaongjfab
open Go.ChangeShapes Go.WideShapes Go.ChangeAt Go.RowKit
set_option linter.unusedVariables false
/-- WHAT THE WALK IS TOLD OF A LIST OF KEYS THAT CAME IN. -/
def IsKeys (w : World) (a : Option Addr) (n : Nat) (fl : List Int) : Prop := n ≤ maxLen ∧ RdK w a n fl ∧ ∀ z ∈ fl, 0 ≤ z ∧ z ≤ 255
set_option maxRecDepth 100000 in
theorem open_keys {H : Type} {enc : TypeId × Value → H} {w : World} {t e e1 : TypeId} {a : Option Addr} {len cap : Nat} {d : DataW H} {p : List MemPlace}
    (ht : Try.prog.underlying t = some (.slice e)) (he : Try.prog.underlying e = some (.array 32 e1)) (he1 : Try.prog.underlying e1 = some (.int .u8)) (hc : Try.prog.cellsOf e = 32) (hc1 : Try.prog.cellsOf e1 = 1)
    (h : DataW.Trod enc Try.prog w 0 (fun _ => true) true t (.slice a len cap) d p) : ∃ fl, IsKeys w a len fl := by
  obtain ⟨fuel, hf⟩ := h
  rcases DataW.trod_slice ht hf with ⟨h0, _⟩ | ⟨x, ln, cp, elems, rest, n, _, hcs, _, hb, hl, hm, hlen, hel, _, _⟩
  · simp [Value.cells] at h0
    obtain ⟨rfl, rfl, rfl⟩ := h0
    exact ⟨[], by unfold maxLen; omega, ⟨rfl, .inl rfl⟩, by simp⟩
  · simp [Value.cells] at hcs
    obtain ⟨rfl, rfl, rfl⟩ := hcs
    have each : ∀ i, i < len → ∃ l : List Int, l.length = 32 ∧ (∀ r, r < 32 → w.cell? (x.add (i * 32 + r)) = some (.int .u8 (l[r]?.getD 0))) ∧ ∀ z ∈ l, 0 ≤ z ∧ z ≤ 255 := by
      intro i hi
      have h1 := hel i hi
      rw [hc, List.getElem?_eq_getElem (by omega), Option.bind_eq_some_iff] at h1
      obtain ⟨cs, hcs, hy⟩ := h1
      obtain ⟨l, hl32, rfl, hw⟩ := trod_ints he he1 hc1 hc hy
      refine ⟨l, hl32, fun r hr => ?_, fun z hz => bounds_u8 (hw z hz)⟩
      have := (World.cells?_some hcs).2.2 r hr
      rw [← Addr.add_add, this, List.getElem?_map, List.getElem?_eq_getElem (by omega)]
      rfl
    let fl : List Int := (List.range (32 * len)).map fun j => intOf ((w.cell? (x.add j)).getD undef)
    have hfl : fl.length = 32 * len := by simp [fl]
    have hget : ∀ j, j < 32 * len → w.cell? (x.add j) = some (.int .u8 (fl[j]?.getD 0)) ∧ 0 ≤ fl[j]?.getD 0 ∧ fl[j]?.getD 0 ≤ 255 := by
      intro j hj
      obtain ⟨l, hl32, hcell, hrange⟩ := each (j / 32) (by omega)
      have hj2 := hcell (j % 32) (by omega)
      rw [show j / 32 * 32 + j % 32 = j by omega] at hj2
      have e : fl[j]?.getD 0 = l[j % 32]?.getD 0 := by
        simp [fl, hj, hj2, intOf]
      rw [e, hj2]
      refine ⟨rfl, ?_⟩
      have hlt : j % 32 < l.length := by omega
      rw [List.getElem?_eq_getElem hlt]
      exact hrange _ (List.getElem_mem _)
    refine ⟨fl, by omega, ⟨hfl, ?_⟩, fun z hz => ?_⟩
    · by_cases h0 : len = 0
      · exact .inl h0
      · obtain ⟨b, off, rfl, hcell⟩ := ints_at (k := .u8) (zs := fl) (a := x) (fun i hi => by
          have := (hget i (by omega)).1
          rw [this, List.getD_eq_getElem?_getD]) (by omega)
        refine .inr ⟨b, off, rfl, World.block_lt_of_cell? w _ (hcell 0 (by omega)), fun j hj => ?_⟩
        rw [hcell j (by omega), List.getD_eq_getElem?_getD]
    · obtain ⟨j, hj, rfl⟩ := List.mem_iff_getElem.1 hz
      have := (hget j (by omega)).2
      rw [List.getElem?_eq_getElem hj] at this
      exact this
theorem keyInfo : (Try.prog.info? 32).map (fun i => (i.zero.map (·.cells), i.size, i.bytes)) = some (some (ints .u8 z32), 32, 32) := by kernel_rfl
theorem made_keys (n : Nat) : madeCells (ints .u8 z32) (n * 32) = ints .u8 (List.replicate (32 * n) 0) := by
  apply Array.ext
  · simp [size_madeCells, ints_size]; omega
  · intro i h1 h2
    have hs : (ints .u8 z32).size = 32 := by rw [ints_size]; rfl
    have hm : i % 32 < 32 := Nat.mod_lt _ (by omega)
    simp only [madeCells, Array.getElem_map, Array.getElem_range, hs]
    rw [getElem!_pos _ _ (by rw [hs]; exact hm)]
    simp only [ints, List.getElem_toArray, List.getElem_map, z32, List.getElem_replicate]
theorem run_make_keys (n : Nat) (hn : n ≤ 1048576) (w : World) :
    (Instr.makeSlice 24 (.int .i64 (n : Int)) (.int .i64 (n : Int))).run Try.prog w = .ok (.slice (some ⟨w.heap.size, 0, none⟩) n n) (w.alloc (.cells (ints .u8 (List.replicate (32 * n) 0)) 32)) := by
  obtain ⟨i, hi, hzz⟩ := Option.map_eq_some_iff.1 keyInfo
  simp only [Prod.mk.injEq] at hzz
  obtain ⟨hz, hs, hb⟩ := hzz
  obtain ⟨z, hz0, hzc⟩ := Option.map_eq_some_iff.1 hz
  have := run_make w 24 32 i z Try.underlying24 hi hz0 .i64 .i64 (n : Int) (n : Int) (by omega) (by omega) (by rw [hb]; omega) (by omega)
  rw [this, hzc, hs]
  simp only [Int.toNat_natCast]
  rw [made_keys]
set_option maxRecDepth 100000 in
set_option maxHeartbeats 1000000 in
theorem toKS (a : Option Addr) (n cap : Nat) (fl : List Int) (hn : n ≤ 1048576) (w : World) (hr : RdK w a n fl) :
    Calls Try.prog 15 #[.slice a n cap] w fun e w' => e = .returned (.slice (some ⟨w.heap.size, 0, none⟩) n n) ∧ w'.heap[w.heap.size]? = some (.cells (ints .u8 fl) 32) ∧ Below w.heap.size w w' := by
  obtain ⟨hl, hr⟩ := hr
  have hmk := fun W => run_make_keys n hn W
  have Hl := Lib.hid hl
  have Ho := Lib.hid (show (List.replicate (32 * n) (0 : Int)).length = fl.length by rw [hl]; simp)
  clear hl
  generalize List.replicate (32 * n) (0 : Int) = old at hmk Ho
  rcases hr with h0 | ⟨b, off, rfl, hb, hc⟩
  · have H0 := Lib.hid h0
    clear h0
    go_enter Try.func15, Try.ntmps15
    go_wp2_with fail
    go_loopw [4] (fun i wr => ∃ k : Nat, k ≤ n ∧ i = .int .i64 k ∧ Below w.heap.size w wr ∧ wr.heap[w.heap.size]? = some (.cells (ints .u8 (upTo old fl (32 * k))) 32)) (fun i _ => n - (intOf i).toNat)
    case atStart => exact ⟨0, by omega, rfl, (Below.refl _ _).alloc (by simp) _, by rw [Nat.mul_zero, upTo_zero]; exact heap_alloc_last _ _⟩
    case round =>
      obtain ⟨k, hk, rfl, hb, hg⟩ := hrel
      have HB := Lib.hid hb
      have HG := Lib.hid hg
      clear hb hg
      by_cases hlt : k < n
      · have := H0.out; omega
      · obtain rfl : k = n := by omega
        have e : upTo old fl (32 * k) = fl := upTo_all (by rw [Ho.out, Hl.out]) Hl.out
        rw [e] at HG
        go_wp2_with fail
        go_ret
        exact ⟨rfl, HG.out, HB.out⟩
  · have HC := Lib.hid hc
    have HL := Lib.hid hb
    clear hc hb
    go_enter Try.func15, Try.ntmps15
    go_wp2_with fail
    go_loopw [4] (fun i wr => ∃ k : Nat, k ≤ n ∧ i = .int .i64 k ∧ Below w.heap.size w wr ∧ wr.heap[w.heap.size]? = some (.cells (ints .u8 (upTo old fl (32 * k))) 32)) (fun i _ => n - (intOf i).toNat)
    case atStart => exact ⟨0, by omega, rfl, (Below.refl _ _).alloc (by simp) _, by rw [Nat.mul_zero, upTo_zero]; exact heap_alloc_last _ _⟩
    case round =>
      obtain ⟨k, hk, rfl, hb, hg⟩ := hrel
      have HB := Lib.hid hb
      have HG := Lib.hid hg
      clear hb hg
      by_cases hlt : k < n
      · have b0 : (0 : Int) ≤ (k : Int) := by omega
        have b1 : (k : Int) < (n : Int) := by omega
        have Hrg := Lib.hid (keyAt_rangeAt (w := wr) (b := b) (off := off) Hl.out (fun j hj => by rw [HB.out.cell (p := ⟨b, off + j, none⟩) HL.out]; exact HC.out j hj) k hlt)
        have Hkl := Lib.hid (keyAt_len Hl.out hlt)
        have Hst := Lib.hid (sets_key Ho.out Hl.out hlt)
        generalize keyAt fl k = key at Hrg Hkl Hst
        go_wp2_with (refine wpList_load_ints rfl 31 _ rfl b (off + k * 32) rfl .u8 key _ Hrg.out Try.underlying31 rfl (by rw [Hkl.out]; exact sizeA32) ?_)
        refine (toKey_ key Hkl.out _).mono ?_
        rintro e w1 ⟨rfl, hb⟩
        have HB1 := Lib.hid (below_call HB.out HB.out.size hb)
        have HG1 := Lib.hid (keep_block HG.out hb)
        clear hb
        go_wp2_with (refine wpList_store_ints rfl 32 _ _ rfl w.heap.size (k * 32) .u8 key rfl rfl (there_row HG1.out (by rw [upTo_len Ho.out, Hl.out, Hkl.out]; omega)) (by rw [Hkl.out]; exact sizeKey) ?_)
        go_roundw
        case rel =>
          refine ⟨k + 1, by omega, by go_num, below_setCells_k (Nat.le_refl _) _ _ _ HB1.out, ?_⟩
          rw [heap_setCells_ints key (k * 32) w1 _ HG1.out, Nat.mul_comm k 32, Hst.out]
        case measure => simp [intOf]; omega
      · obtain rfl : k = n := by omega
        have e : upTo old fl (32 * k) = fl := upTo_all (by rw [Ho.out, Hl.out]) Hl.out
        rw [e] at HG
        go_wp2_with fail
        go_ret
        exact ⟨rfl, HG.out, HB.out⟩
set_option maxRecDepth 100000 in
set_option maxHeartbeats 1000000 in
theorem eqKS (a b : Option Addr) (n ca cb : Nat) (fl : List Int) (hn : n ≤ 1048576) (w : World) (hr : RdK w a n fl) (hs : RdK w b n fl) :
    Calls Try.prog 17 #[.slice a n ca, .slice b n cb] w fun e w' => e = .returned (.bool true) ∧ Below w.heap.size w w' := by
  obtain ⟨hl, hr⟩ := hr
  obtain ⟨_, hs⟩ := hs
  have Hl := Lib.hid hl
  clear hl
  rcases hr with h0 | ⟨b1', off1, rfl, hb1, hc1⟩
  · have H0 := Lib.hid h0
    clear h0 hs
    go_enter Try.func17, Try.ntmps17
    go_wp2_with fail
    go_loopw [5] (fun i wr => ∃ k : Nat, k ≤ n ∧ i = .int .i64 k ∧ Below w.heap.size w wr) (fun i _ => n - (intOf i).toNat)
    case atStart => exact ⟨0, by omega, rfl, Below.refl _ _⟩
    case round =>
      obtain ⟨k, hk, rfl, hb⟩ := hrel
      have HB := Lib.hid hb
      clear hb
      by_cases hlt : k < n
      · have := H0.out; omega
      · obtain rfl : k = n := by omega
        go_wp2_with fail
        go_ret
        exact ⟨rfl, HB.out⟩
  · rcases hs with h0 | ⟨b2', off2, rfl, hb2, hc2⟩
    · have H0 := Lib.hid h0
      clear h0 hc1 hb1
      go_enter Try.func17, Try.ntmps17
      go_wp2_with fail
      go_loopw [5] (fun i wr => ∃ k : Nat, k ≤ n ∧ i = .int .i64 k ∧ Below w.heap.size w wr) (fun i _ => n - (intOf i).toNat)
      case atStart => exact ⟨0, by omega, rfl, Below.refl _ _⟩
      case round =>
        obtain ⟨k, hk, rfl, hb⟩ := hrel
        have HB := Lib.hid hb
        clear hb
        by_cases hlt : k < n
        · have := H0.out; omega
        · obtain rfl : k = n := by omega
          go_wp2_with fail
          go_ret
          exact ⟨rfl, HB.out⟩
    · have HC1 := Lib.hid hc1
      have HC2 := Lib.hid hc2
      have HL1 := Lib.hid hb1
      have HL2 := Lib.hid hb2
      clear hc1 hc2 hb1 hb2
      go_enter Try.func17, Try.ntmps17
      go_wp2_with fail
      go_loopw [5] (fun i wr => ∃ k : Nat, k ≤ n ∧ i = .int .i64 k ∧ Below w.heap.size w wr) (fun i _ => n - (intOf i).toNat)
      case atStart => exact ⟨0, by omega, rfl, Below.refl _ _⟩
      case round =>
        obtain ⟨k, hk, rfl, hb⟩ := hrel
        have HB := Lib.hid hb
        clear hb
        by_cases hlt : k < n
        · have b0 : (0 : Int) ≤ (k : Int) := by omega
          have b1 : (k : Int) < (n : Int) := by omega
          have Hr1 := Lib.hid (keyAt_rangeAt (w := wr) (b := b1') (off := off1) Hl.out (fun j hj => by rw [HB.out.cell (p := ⟨b1', off1 + j, none⟩) HL1.out]; exact HC1.out j hj) k hlt)
          have Hr2 := Lib.hid (keyAt_rangeAt (w := wr) (b := b2') (off := off2) Hl.out (fun j hj => by rw [HB.out.cell (p := ⟨b2', off2 + j, none⟩) HL2.out]; exact HC2.out j hj) k hlt)
          have Hkl := Lib.hid (keyAt_len Hl.out hlt)
          generalize keyAt fl k = key at Hr1 Hr2 Hkl
          go_wp2_with fail
          refine wp_region_held_drew (S := Below wr.heap.size wr) (by kernel_rfl) ((Below.refl _ _).drew) (fun hS => ?_)
          refine wpAnyH_take (i := 0) (v := .slice (some ⟨b1', off1, none⟩) n ca) rfl (by kernel_rfl) (by kernel_rfl) (by kernel_rfl) (fun _ _ _ h => h) (Or.inl ⟨by rfl, fun W hW => by go_simp⟩) hS ?_
          simp only [Act.put]
          refine wpAnyH_take (i := 1) (v := .int .i64 (k : Int)) rfl (by kernel_rfl) (by kernel_rfl) (by kernel_rfl) (fun _ _ _ h => h) (Or.inl ⟨by rfl, fun W hW => by go_simp⟩) hS ?_
          simp only [Act.put]
          refine wpAnyH_take (i := 2) (v := .pointer (some ⟨b1', off1 + k * 32, none⟩)) rfl (by kernel_rfl) (by kernel_rfl) (by kernel_rfl) (fun _ _ _ h => h) (Or.inl ⟨by rfl, fun W hW => by go_simp⟩) hS ?_
          simp only [Act.put]
          refine wpAnyH_take (i := 3) (v := _) rfl (by kernel_rfl) (by kernel_rfl) (by kernel_rfl) (fun _ _ _ h => h) (yieldsIf_load_mid (by rfl) 32 _ rfl b1' (off1 + k * 32) rfl (key.map (Value.int .u8)) _ (fun W hW => rangeAt_below Hr1.out hW) Try.underlying32 rfl (by rw [List.length_map, Hkl.out]; exact sizeKey)) hS ?_
          simp only [Act.put]
          refine wpAnyH_take (i := 4) (v := .slice (some ⟨b2', off2, none⟩) n cb) rfl (by kernel_rfl) (by kernel_rfl) (by kernel_rfl) (fun _ _ _ h => h) (Or.inl ⟨by rfl, fun W hW => by go_simp⟩) hS ?_
          simp only [Act.put]
          refine wpAnyH_take (i := 5) (v := .int .i64 (k : Int)) rfl (by kernel_rfl) (by kernel_rfl) (by kernel_rfl) (fun _ _ _ h => h) (Or.inl ⟨by rfl, fun W hW => by go_simp⟩) hS ?_
          simp only [Act.put]
          refine wpAnyH_take (i := 6) (v := .pointer (some ⟨b2', off2 + k * 32, none⟩)) rfl (by kernel_rfl) (by kernel_rfl) (by kernel_rfl) (fun _ _ _ h => h) (Or.inl ⟨by rfl, fun W hW => by go_simp⟩) hS ?_
          simp only [Act.put]
          refine wpAnyH_take (i := 7) (v := _) rfl (by kernel_rfl) (by kernel_rfl) (by kernel_rfl) (fun _ _ _ h => h) (yieldsIf_load_mid (by rfl) 32 _ rfl b2' (off2 + k * 32) rfl (key.map (Value.int .u8)) _ (fun W hW => rangeAt_below Hr2.out hW) Try.underlying32 rfl (by rw [List.length_map, Hkl.out]; exact sizeKey)) hS ?_
          simp only [Act.put]
          refine wpAnyH_ready (rs := [8]) (by kernel_rfl) (by simp) ?_
          refine AllReadyH.cons rfl (fun K hK => ?_) AllReadyH.nil
          rw [if_pos (by rfl)]
          go_simp
          refine (eqKey_ key Hkl.out _).mono ?_
          rintro e w1 ⟨rfl, hb⟩
          refine hK.out _ _ (below_call hS hS.size hb) (fun hS => ?_)
          clear hb hK
          refine wpAnyH_ready (rs := [9]) (by kernel_rfl) (by simp) ?_
          refine AllReadyH.cons rfl (fun K hK => ?_) AllReadyH.nil
          rw [if_pos (by rfl)]
          go_simp
          refine hK.out _ _ hS (fun hS => ?_)
          refine wpAnyH_done (by kernel_rfl) ?_ _
          have HS := Lib.hid (HB.out.trans (hS.mono HB.out.size))
          clear hS hK
          go_wp2_with fail
          go_roundw
          case rel => exact ⟨k + 1, by omega, by go_num, HS.out⟩
          case measure => simp [intOf]; omega
        · obtain rfl : k = n := by omega
          go_wp2_with fail
          go_ret
          exact ⟨rfl, HB.out⟩
set_option maxHeartbeats 1000000 in
theorem szKS_in (a : Option Addr) (n cap : Nat) (left : Int) (h0 : 0 ≤ left) (h1 : left ≤ 1099511627776) (hn : (n : Int) ≤ left) (w : World) :
    Calls Try.prog 13 #[.slice a n cap, .int .i64 left] w fun e w' => e = .returned (.int .i64 (left - n)) ∧ w = w' := by
  go_enter Try.func13, Try.ntmps13
  go_wp2
  go_ret
  exact ⟨rfl, rfl⟩
set_option maxHeartbeats 1000000 in
theorem szKS_out (a : Option Addr) (n cap : Nat) (left : Int) (h0 : 0 ≤ left) (h1 : left ≤ 1099511627776) (hm : n ≤ 9223372036854775807) (hn : left < (n : Int)) (w : World) :
    Calls Try.prog 13 #[.slice a n cap, .int .i64 left] w fun e w' => e = .returned (.int .i64 (-1)) ∧ w = w' := by
  go_enter Try.func13, Try.ntmps13
  go_wp2
  go_ret
  exact ⟨rfl, rfl⟩
end Go.Proofs.Ytdoelmjaongjfab
