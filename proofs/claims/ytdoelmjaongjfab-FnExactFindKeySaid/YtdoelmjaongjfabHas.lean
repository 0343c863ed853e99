/- Is a key in a list: the specification. Cut out of XShort. -/
import Derived.Test.YtdoelmjaongjfabKeys
import Derived.Test.YtdoelmjaongjfabEq
namespace Go.Proofs.Ytdoelmjaongjfab
open Go.ChangeShapes Go.WideShapes Go.ChangeAt Go.RowKit
set_option linter.unusedVariables false
theorem sizeU8H : (Try.prog.info? 5).map (·.size) = some 1 := by kernel_rfl
theorem ret_bl {a b : Bool} (h : b = a) : Ending.returned (.bool a) = .returned (.bool b) := by rw [h]
def hasB (fl : List Int) (n : Nat) (key : List Int) : Bool := decide (∃ j, j < n ∧ keyAt fl j = key)
theorem hasB_yes {fl : List Int} {n j : Nat} {key : List Int} (h : j < n) (e : keyAt fl j = key) : hasB fl n key = true := decide_eq_true ⟨j, h, e⟩
theorem hasB_no {fl : List Int} {n : Nat} {key : List Int} (h : ∀ j, j < n → keyAt fl j ≠ key) : hasB fl n key = false := decide_eq_false (fun ⟨j, hj, e⟩ => h j hj e)
theorem eql_keys (a b : List Int) (ha : a.length = 32) (hb : b.length = 32) (W : World) : (binOp .eql 32 (.agg (ints .u8 a)) (.agg (ints .u8 b))).run Try.prog W = .ok (.bool (decide (a = b))) W :=
  run_eql_ints Try.underlying32 Try.underlying5 sizeU8H a b ha hb W
set_option maxRecDepth 100000 in
set_option maxHeartbeats 1000000 in
theorem has_spec (a : Option Addr) (n cap : Nat) (fl key : List Int) (hn : n ≤ 1048576) (hk : key.length = 32) (w : World) (hr : RdK w a n fl) :
    Calls Try.prog 95 #[.slice a n cap, .agg (ints .u8 key)] w fun e w' => e = .returned (.bool (hasB fl n key)) ∧ Below w.heap.size w w' := by
  obtain ⟨hl, hr⟩ := hr
  have Hl := Lib.hid hl
  have Hk := Lib.hid hk
  clear hl hk
  rcases hr with h0 | ⟨b, off, rfl, hb, hc⟩
  · have H0 := Lib.hid h0
    have Hv := Lib.hid (show hasB fl n key = false from hasB_no (fun j hj => by omega))
    clear h0
    go_enter Try.func95, Try.ntmps95
    go_wp2_with fail
    go_loopw [5] (fun i wr => ∃ k : Nat, k ≤ n ∧ i = .int .i64 k ∧ Below w.heap.size w wr) (fun i _ => n - (intOf i).toNat)
    case atStart => exact ⟨0, by omega, rfl, by go_grown⟩
    case round =>
      obtain ⟨k, hk, rfl, hb⟩ := hrel
      have HB := Lib.hid hb
      clear hb
      obtain rfl : k = n := by have := H0.out; omega
      go_wp2_with fail
      go_ret
      exact ⟨ret_bl Hv.out, HB.out⟩
  · have HC := Lib.hid hc
    have HL := Lib.hid hb
    clear hc hb
    go_enter Try.func95, Try.ntmps95
    go_wp2_with fail
    go_loopw [5] (fun i wr => ∃ k : Nat, k ≤ n ∧ i = .int .i64 k ∧ Hid (∀ j, j < k → keyAt fl j ≠ key) ∧ Below w.heap.size w wr ∧ wr.heap[w.heap.size]? = some (.cells (ints .u8 key) 32)) (fun i _ => n - (intOf i).toNat)
    case atStart => exact ⟨0, by omega, rfl, Lib.hid (fun j hj => by omega), by go_grown, heap_alloc_last _ _⟩
    case round =>
      obtain ⟨k, hk, rfl, hp, hb, hg⟩ := hrel
      have HB := Lib.hid hb
      have HG := Lib.hid hg
      clear hb hg
      by_cases hlt : k < n
      · have b0 : (0 : Int) ≤ (k : Int) := by omega
        have b1 : (k : Int) < (n : Int) := by omega
        go_wp2_with fail
        have Hrg := Lib.hid (keyAt_rangeAt (w := wr) (b := b) (off := off) Hl.out (fun j hj => by rw [HB.out.cell (p := ⟨b, off + j, none⟩) HL.out]; exact HC.out j hj) k hlt)
        have Hkl := Lib.hid (keyAt_len Hl.out hlt)
        generalize hkey : keyAt fl k = kk at Hrg Hkl
        have HK := Lib.hid hkey
        clear hkey
        have heq := fun W => eql_keys kk key Hkl.out Hk.out W
        refine wp_region_held_drew (S := Below (wr).heap.size (wr)) (by kernel_rfl) ((Below.refl _ _).drew) (fun hS => ?_)
        refine wpAnyH_take (i := 0) (v := .slice (some ⟨b, off, none⟩) n cap) rfl (by kernel_rfl) (by kernel_rfl) (by kernel_rfl) (fun _ _ _ h => h) (Or.inl ⟨by rfl, fun W hW => by go_simp⟩) hS ?_
        simp only [Act.put]
        refine wpAnyH_take (i := 1) (v := .int .i64 (k : Int)) rfl (by kernel_rfl) (by kernel_rfl) (by kernel_rfl) (fun _ _ _ h => h) (Or.inl ⟨by rfl, fun W hW => by go_simp⟩) hS ?_
        simp only [Act.put]
        refine wpAnyH_take (i := 2) (v := .pointer (some ⟨b, off + k * 32, none⟩)) rfl (by kernel_rfl) (by kernel_rfl) (by kernel_rfl) (fun _ _ _ h => h) (Or.inl ⟨by rfl, fun W hW => by go_simp⟩) hS ?_
        simp only [Act.put]
        refine wpAnyH_take (i := 3) (v := .agg (ints .u8 kk)) rfl (by kernel_rfl) (by kernel_rfl) (by kernel_rfl) (fun _ _ _ h => h) (yieldsIf_load_mid (by rfl) 32 _ rfl b (off + k * 32) rfl (kk.map (Value.int .u8)) _ (fun W hW => rangeAt_below Hrg.out hW) Try.underlying32 rfl (by rw [List.length_map, Hkl.out]; exact sizeKey)) hS ?_
        simp only [Act.put]
        refine wpAnyH_take (i := 4) (v := .agg (ints .u8 key)) rfl (by kernel_rfl) (by kernel_rfl) (by kernel_rfl) (fun _ _ _ h => h) (yields_box (by rfl) 32 _ rfl w.heap.size rfl _ 32 _ HG.out Try.underlying32 rfl (by rw [ints_size, Hk.out]; exact sizeKey)) hS ?_
        simp only [Act.put]
        refine wpAnyH_take (i := 5) (v := .bool (decide (kk = key))) rfl (by kernel_rfl) (by kernel_rfl) (by kernel_rfl) (fun _ _ _ h => h) (Or.inl ⟨by rfl, fun W hW => by go_simp⟩) hS ?_
        simp only [Act.put]
        refine wpAnyH_done (by kernel_rfl) ?_ _
        have HS := Lib.hid (HB.out.trans (hS.mono HB.out.size))
        have HX := Lib.hid hS
        clear hS heq
        by_cases hkk : kk = key
        · have Hv := Lib.hid (hasB_yes hlt (HK.out.trans hkk))
          rw [decide_eq_true hkk]
          clear hkk
          go_wp2_with fail
          go_ret
          exact ⟨ret_bl Hv.out, HS.out⟩
        · rw [decide_eq_false hkk]
          have Hp := Lib.hid (show ∀ j, j < k + 1 → keyAt fl j ≠ key from fun j hj => by
            by_cases h : j = k
            · subst h; rw [HK.out]; exact hkk
            · exact hp.out j (by omega))
          clear hkk
          have HG' := Lib.hid (keep_block HG.out HX.out)
          go_wp2_with fail
          go_roundw
          case rel => exact ⟨k + 1, by omega, by go_num, Hp, HS.out, HG'.out⟩
          case measure => simp [intOf]; omega
      · obtain rfl : k = n := by omega
        have Hv := Lib.hid (hasB_no hp.out)
        go_wp2_with fail
        go_ret
        exact ⟨ret_bl Hv.out, HB.out⟩
end Go.Proofs.Ytdoelmjaongjfab
