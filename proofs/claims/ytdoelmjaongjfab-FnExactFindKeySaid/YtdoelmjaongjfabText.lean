/- The text of a key. -/
import Derived.Test.YtdoelmjaongjfabRow
import Derived.Laws.BytesString
import Derived.Laws.BytesArg
import Derived.Laws.BitsAllLaws
namespace Go.Proofs.Ytdoelmjaongjfab
open Go.ChangeShapes Go.WideShapes Go.ChangeAt Go.RowKit
set_option linter.unusedVariables false
/-- The digit of a key with a number, and its letter. -/
def digI (a : List Int) (i : Nat) : Int := if i % 2 = 0 then a[i / 2]?.getD 0 / 16 else a[i / 2]?.getD 0 % 16
def hexD (d : Int) : Int := if d < 10 then 48 + d else 87 + d
theorem digI_range (a : List Int) (hr : ∀ x ∈ a, 0 ≤ x ∧ x ≤ 255) (i : Nat) : 0 ≤ digI a i ∧ digI a i ≤ 15 := by
  have rng : 0 ≤ a[i / 2]?.getD 0 ∧ a[i / 2]?.getD 0 ≤ 255 := by
    by_cases h : i / 2 < a.length
    · rw [List.getElem?_eq_getElem h]; exact hr _ (List.getElem_mem _)
    · rw [List.getElem?_eq_none (by omega)]; simp
  unfold digI
  split <;> omega
theorem sizeU8 : (Try.prog.info? 5).map (·.size) = some 1 := by kernel_rfl
theorem ret_u8 {k : IntKind} {a b : Int} (h : b = a) : Ending.returned (.int k a) = .returned (.int k b) := by rw [h]
theorem run_hex (P : Program) (t : TypeId) (ht : P.underlying t = some .string) (d : Int) (h0 : 0 ≤ d) (h1 : d ≤ 15) (w : World) :
    (Instr.index t (.string { data := #[48, 49, 50, 51, 52, 53, 54, 55, 56, 57, 97, 98, 99, 100, 101, 102] }) (.int .u8 d)).run P w = .ok (.int .u8 (hexD d)) w := by
  obtain ⟨n, rfl⟩ := Int.eq_ofNat_of_zero_le h0
  rw [run_index_string (h := ht)]
  have hn : n = 0 ∨ n = 1 ∨ n = 2 ∨ n = 3 ∨ n = 4 ∨ n = 5 ∨ n = 6 ∨ n = 7 ∨ n = 8 ∨ n = 9 ∨ n = 10 ∨ n = 11 ∨ n = 12 ∨ n = 13 ∨ n = 14 ∨ n = 15 := by omega
  rcases hn with rfl | rfl | rfl | rfl | rfl | rfl | rfl | rfl | rfl | rfl | rfl | rfl | rfl | rfl | rfl | rfl
  all_goals rfl
set_option maxRecDepth 100000 in
set_option maxHeartbeats 1000000 in
theorem digit_spec (a : List Int) (ha : a.length = 32) (hr : ∀ x ∈ a, 0 ≤ x ∧ x ≤ 255) (i : Nat) (hi : i < 64) (w : World) :
    Calls Try.prog 99 #[.agg (ints .u8 a), .int .i64 i] w fun e w' => e = .returned (.int .u8 (digI a i)) ∧ Below w.heap.size w w' := by
  have hg := ints_get .u8 a (i / 2) (by omega)
  have rng : 0 ≤ a[i / 2]?.getD 0 ∧ a[i / 2]?.getD 0 ≤ 255 := by
    rw [List.getElem?_eq_getElem (by omega)]; exact hr _ (List.getElem_mem _)
  obtain ⟨r0, r1⟩ := rng
  have Hd := Lib.hid (show digI a i = if i % 2 = 0 then a[i / 2]?.getD 0 / 16 else a[i / 2]?.getD 0 % 16 from rfl)
  generalize a[i / 2]?.getD 0 = x at *
  clear ha hr
  by_cases h : i % 2 = 0
  · have fin := Lib.hid (Hd.out.trans (if_pos h))
    have ht : ((i : Int) % 2 == 0) = true := by simp; omega
    go_enter Try.func99, Try.ntmps99
    go_wp2
    go_ret
    exact ⟨ret_u8 fin.out, (Below.refl _ _).alloc (by simp) _⟩
  · have fin := Lib.hid (Hd.out.trans (if_neg h))
    have ht : ((i : Int) % 2 == 0) = false := by simp; omega
    go_enter Try.func99, Try.ntmps99
    go_wp2
    go_ret
    exact ⟨ret_u8 fin.out, (Below.refl _ _).alloc (by simp) _⟩
/-- The first k letters of the text of a key. -/
def hexL (a : List Int) (k : Nat) : List Int := (List.range k).map fun i => hexD (digI a i)
theorem hexL_len (a : List Int) (k : Nat) : (hexL a k).length = k := by simp [hexL]
theorem hexL_succ (a : List Int) (k : Nat) : hexL a (k + 1) = hexL a k ++ [hexD (digI a k)] := by simp [hexL, List.range_succ]
theorem new_one (w : World) (x : Value) (t : TypeId) : ∀ j u, [x][j]? = some u → (w.alloc (.cells #[x] t)).cell? ((⟨w.heap.size, 0, none⟩ : Addr).add j) = some u := by
  intro j u h
  have hj : j = 0 := by
    have := (List.getElem?_eq_some_iff.1 h).1
    simp at this
    exact this
  subst hj
  rw [Addr.add_mid, cell_of_row _ _ _ _ _ _ (heap_alloc_last w _)]
  simpa using h
theorem infoU8 : (Try.prog.info? 5).map (fun i => (i.zero, i.size, i.bytes)) = some (some (.int .u8 0), 1, 1) := by kernel_rfl
set_option maxRecDepth 100000 in
set_option maxHeartbeats 1000000 in
theorem text_spec (a : List Int) (ha : a.length = 32) (hr : ∀ x ∈ a, 0 ≤ x ∧ x ≤ 255) (w : World) :
    Calls Try.prog 63 #[.agg (ints .u8 a)] w fun e w' => e = .returned (.string (strOfNums (hexL a 64))) ∧ Below w.heap.size w w' := by
  have Ha := Lib.hid ha
  have Hr := Lib.hid hr
  clear ha hr
  obtain ⟨i0, hi, hz0, hz1, hz2⟩ := info_parts infoU8
  have Hi := Lib.hid hi
  clear hi
  go_enter Try.func63, Try.ntmps63
  go_wp2
  have hrun := fun i W => run_hex Try.prog 9 Try.underlying9 (digI a i) (digI_range a Hr.out i).1 (digI_range a Hr.out i).2 W
  go_loopw [3, 4] (fun v i wr => ∃ k : Nat, k ≤ 64 ∧ i = .int .i64 k ∧ wr.ownsRow (w.heap.size + 1) 5 1 v k ((hexL a k).map (Value.int .u8)) ∧ v ≠ .slice none 0 0 ∧ wr.heap[w.heap.size]? = some (.cells (ints .u8 a) 32) ∧ Below w.heap.size w wr) (fun _ i _ => 64 - (intOf i).toNat)
  case atStart => exact ⟨0, by omega, rfl, ⟨rfl, Or.inr ⟨w.heap.size + 1, 0, #[], rfl, by omega, heap_alloc2_new _ _ _, by omega, by unfold maxLen; omega, rfl, rfl⟩⟩, by simp, heap_alloc2_old _ _ _, ((Below.refl _ _).alloc (by simp) _).alloc (by simp) _⟩
  case round =>
    obtain ⟨k, hk, rfl, hown, hnn, hA, hbl⟩ := hrel
    have Hown := Lib.hid hown
    have Hnn := Lib.hid hnn
    have HA := Lib.hid hA
    have Hbl := Lib.hid hbl
    clear hown hnn hA hbl
    by_cases hlt : k < 64
    · have hrk := hrun k
      clear hrun
      go_wp2_with (first | (refine wpList_load_row rfl 32 (.tmp 1) rfl w.heap.size rfl 32 (ints .u8 a) (0, 0) _ HA.out Try.underlying32 rfl (by rw [ints_size, Ha.out]; exact sizeKey) ?_))
      refine (digit_spec a Ha.out Hr.out k hlt _).mono ?_
      rintro e w1 ⟨rfl, hb1⟩
      have Hb1 := Lib.hid hb1
      have Hown1 := Lib.hid (owns_below Hown.out hb1)
      clear hb1
      go_wp2_with (at_builtin; refine wpList_append_own _ rfl _ _ 40 rfl (w.heap.size + 1) 5 i0 (.int .u8 0) 1 1 Try.underlying40 Hi.out hz0 hz1 hz2 rfl (by decide) _ k _ rfl (Hown1.out.alloc _) ⟨w1.heap.size, 0, none⟩ 1 1 [.int .u8 (hexD (digI a k))] rfl rfl ?c1 ?c2 ?c3 ?c4 ?c5 ?_)
      case c1 => exact new_one _ _ _
      case c2 => simp [Value.oneCell']
      case c3 => unfold maxLen; omega
      case c4 => omega
      case c5 => have := Hbl.out.size; have := Hb1.out.size; simp; omega
      intro v' w2 hown2 hgrow2 hnil2
      have Hown2 := Lib.hid hown2
      have Hgrow2 := Lib.hid hgrow2
      have Hnil2 := Lib.hid hnil2
      clear hown2 hgrow2 hnil2
      go_wp2
      go_roundw
      case rel =>
        have hs := Hbl.out.size
        have hs1 := Hb1.out.size
        have hlt := Hown1.out.lt
        refine ⟨k + 1, by omega, by go_num, ?_, ?_, ?_, ?_⟩
        · have := Hown2.out
          rw [hexL_succ, List.map_append]
          exact this
        · intro e
          exact Hnil2.out e
        · have hw : w.heap.size < wr.heap.size := (Array.getElem?_eq_some_iff.1 HA.out).1
          rw [Hgrow2.out.block w.heap.size (by simp; omega) (fun e => by have := (hlt _ e.symm).1; omega), Below.heap_alloc _ _ _ (by omega), Hb1.out.block _ hw]
          exact HA.out
        · exact (((Hbl.out.trans (Hb1.out.mono hs)).alloc (by omega) _).grown Hgrow2.out (by simp; omega) (fun g e => by have := (hlt g e).1; omega))
      case measure => simp [intOf]; omega
    · obtain rfl : k = 64 := by omega
      clear hrun
      obtain ⟨hlen, h2⟩ := Hown.out
      rcases h2 with ⟨e, _⟩ | ⟨g, cap, cur, hv, hgb, hh, hnc, hcm, hcs, htk⟩
      · exact absurd e Hnn.out
      · have hcell : ∀ i, i < 64 → wr.cell? ⟨g, 0 + i, none⟩ = some (.int .u8 ((hexL a 64).getD i 0)) := fun i hi => by
          rw [cell_of_row wr g (0 + i) _ _ _ hh, Nat.zero_add]
          have e1 : ((hexL a 64).map (Value.int .u8))[i]? = some (.int .u8 ((hexL a 64).getD i 0)) := by
            rw [List.getElem?_map, List.getElem?_eq_getElem (by rw [hexL_len]; exact hi)]
            simp [hexL_len, hi]
          rw [← htk, List.getElem?_take_of_lt (by omega)] at e1
          simpa using e1
        have hcv := run_convert_bytes_arg (P := Try.prog) (w := wr) 40 5 Try.underlying40 Try.underlying5 g 0 64 cap (hexL a 64) (hexL_len a 64) hcell 9 Try.underlying9
        clear hcell hlen hgb hh hnc hcm hcs htk Hown Hnn
        subst hv
        go_wp2
        go_ret
        exact ⟨rfl, Hbl.out⟩
set_option maxHeartbeats 1000000 in
theorem text_spec1 (a : List Int) (ha : a.length = 32) (hr : ∀ x ∈ a, 0 ≤ x ∧ x ≤ 255) (w : World) :
    Calls Try.prog 31 #[.agg (ints .u8 a)] w fun e w' => e = .returned (.string (strOfNums (hexL a 64))) ∧ Below w.heap.size w w' := by
  have Ha := Lib.hid ha
  have Hr := Lib.hid hr
  clear ha hr
  go_enter Try.func31, Try.ntmps31
  go_wp2_with (refine wpList_load_row rfl 32 (.tmp 1) rfl w.heap.size rfl 32 (ints .u8 a) (0, 0) _ (heap_alloc_last _ _) Try.underlying32 rfl (by rw [ints_size, Ha.out]; exact sizeKey) ?_)
  refine (text_spec a Ha.out Hr.out _).mono ?_
  rintro e w1 ⟨rfl, hb1⟩
  have Hb1 := Lib.hid hb1
  clear hb1
  go_wp2
  go_ret
  exact ⟨rfl, (((Below.refl _ _).alloc (by simp) _).trans (Hb1.out.mono (by simp)))⟩
theorem and15 (x : Int) (h0 : 0 ≤ x) (h1 : x ≤ 255) : bits .and .u8 x 15 = x % 16 := by
  have := u8_and x 15 h0 (by omega) (by omega) (by omega)
  rw [this]
  have e : x.toNat &&& 15 = x.toNat % 16 := Nat.and_two_pow_sub_one_eq_mod x.toNat 4
  rw [show (15 : Int).toNat = 15 from rfl, e]
  omega
def z64 : List Int := List.replicate 64 0
theorem z64_len : z64.length = 64 := rfl
theorem z64_ints : ints .u8 z64 = #[.int .u8 0, .int .u8 0, .int .u8 0, .int .u8 0, .int .u8 0, .int .u8 0, .int .u8 0, .int .u8 0, .int .u8 0, .int .u8 0, .int .u8 0, .int .u8 0, .int .u8 0, .int .u8 0, .int .u8 0, .int .u8 0, .int .u8 0, .int .u8 0, .int .u8 0, .int .u8 0, .int .u8 0, .int .u8 0, .int .u8 0, .int .u8 0, .int .u8 0, .int .u8 0, .int .u8 0, .int .u8 0, .int .u8 0, .int .u8 0, .int .u8 0, .int .u8 0, .int .u8 0, .int .u8 0, .int .u8 0, .int .u8 0, .int .u8 0, .int .u8 0, .int .u8 0, .int .u8 0, .int .u8 0, .int .u8 0, .int .u8 0, .int .u8 0, .int .u8 0, .int .u8 0, .int .u8 0, .int .u8 0, .int .u8 0, .int .u8 0, .int .u8 0, .int .u8 0, .int .u8 0, .int .u8 0, .int .u8 0, .int .u8 0, .int .u8 0, .int .u8 0, .int .u8 0, .int .u8 0, .int .u8 0, .int .u8 0, .int .u8 0, .int .u8 0] := rfl
theorem hexL_at (a : List Int) (k : Nat) (h : k < 64) : (hexL a 64)[k]?.getD 0 = hexD (digI a k) := by simp [hexL, h]
set_option maxRecDepth 100000 in
set_option maxHeartbeats 1000000 in
theorem text_impl (a : List Int) (ha : a.length = 32) (hr : ∀ x ∈ a, 0 ≤ x ∧ x ≤ 255) (w : World) :
    Calls Try.prog 67 #[.agg (ints .u8 a)] w fun e w' => e = .returned (.string (strOfNums (hexL a 64))) ∧ Below w.heap.size w w' := by
  have Hz := Lib.hid z64_ints
  have Ha := Lib.hid ha
  have Hr := Lib.hid hr
  clear ha hr
  go_enter Try.func67, Try.ntmps67
  go_wp2_with (refine wpList_load_row rfl 32 (.tmp 1) rfl w.heap.size rfl 32 (ints .u8 a) (0, 0) _ (heap_alloc2_old _ _ _) Try.underlying32 rfl (by rw [ints_size, Ha.out]; exact sizeKey) ?_)
  go_loopw [7] (fun i wr => ∃ k : Nat, k ≤ 32 ∧ i = .int .i64 k ∧ wr = (w.alloc (.cells (ints .u8 a) 32)).alloc (.cells (ints .u8 (upTo z64 (hexL a 64) (2 * k))) 117)) (fun i _ => 32 - (intOf i).toNat)
  case atStart => exact ⟨0, by omega, rfl, by rw [Nat.mul_zero, upTo_zero, Hz.out]⟩
  case round =>
    obtain ⟨k, hk, rfl, rfl⟩ := hrel
    by_cases hlt : k < 32
    · have hg := fun W => run_index_ints Try.underlying32 Try.underlying5 sizeU8 a Ha.out k hlt W
      have rng : 0 ≤ a[k]?.getD 0 ∧ a[k]?.getD 0 ≤ 255 := by
        rw [List.getElem?_eq_getElem (by rw [Ha.out]; exact hlt)]; exact Hr.out _ (List.getElem_mem _)
      obtain ⟨r0, r1⟩ := rng
      have d1 : (hexL a 64)[2 * k]?.getD 0 = hexD (a[k]?.getD 0 / 16) := by
        rw [hexL_at a (2 * k) (by omega)]; unfold digI; rw [if_pos (by omega), show 2 * k / 2 = k by omega]
      have d2 : (hexL a 64)[2 * k + 1]?.getD 0 = hexD (a[k]?.getD 0 % 16) := by
        rw [hexL_at a (2 * k + 1) (by omega)]; unfold digI; rw [if_neg (by omega), show (2 * k + 1) / 2 = k by omega]
      generalize a[k]?.getD 0 = x at hg r0 r1 d1 d2
      have hs1 := upTo_get .u8 (k := 2 * k) (old := z64) (new := hexL a 64) (by rw [hexL_len]; rfl) (by rw [hexL_len]; omega)
      have ht1 := upTo_set .u8 (k := 2 * k) (old := z64) (new := hexL a 64) (by rw [hexL_len]; rfl) (by rw [hexL_len]; omega) d1
      have hs2 := upTo_get .u8 (k := 2 * k + 1) (old := z64) (new := hexL a 64) (by rw [hexL_len]; rfl) (by rw [hexL_len]; omega)
      have ht2 := upTo_set .u8 (k := 2 * k + 1) (old := z64) (new := hexL a 64) (by rw [hexL_len]; rfl) (by rw [hexL_len]; omega) d2
      have hr1 := fun W => run_hex Try.prog 9 Try.underlying9 (x / 16) (by omega) (by omega) W
      have hr2 := fun W => run_hex Try.prog 9 Try.underlying9 (bits .and .u8 x 15) (by rw [and15 x r0 r1]; omega) (by rw [and15 x r0 r1]; omega) W
      have h15 := and15 x r0 r1
      rw [h15] at hr2
      clear d1 d2
      go_wp2
      go_roundw
      case rel => exact ⟨k + 1, by omega, by go_num, rfl⟩
      case measure => simp [intOf]; omega
    · obtain rfl : k = 32 := by omega
      rw [show 2 * 32 = 64 from rfl, upTo_all z64_len (hexL_len a 64)]
      have hcv := run_convert_bytes_arg (P := Try.prog) (w := (w.alloc (.cells (ints .u8 a) 32)).alloc (.cells (ints .u8 (hexL a 64)) 117)) 40 5 Try.underlying40 Try.underlying5 (w.heap.size + 1) 0 64 64 (hexL a 64) (hexL_len a 64) (fun i hi => by
        rw [cell_of_row _ _ _ _ _ _ (heap_alloc2_new _ _ _), Nat.zero_add, ints_get .u8 _ i (by rw [hexL_len]; exact hi)]
        simp) 9 Try.underlying9
      go_wp2
      go_ret
      exact ⟨rfl, ((Below.refl _ _).alloc (by simp) _).alloc (by simp) _⟩
