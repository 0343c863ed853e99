/- FindKey: the program. Written by hand. -/
import Derived.Test.YtdoelmjaongjfabSoS
import Derived.Test.YtdoelmjaongjfabText
import Derived.Test.YtdoelmjaongjfabReadI
namespace Go.Proofs.Ytdoelmjaongjfab
open Go.ChangeShapes Go.WideShapes Go.ChangeAt Go.RowKit
set_option linter.unusedVariables false
set_option linter.unusedSimpArgs false
open Go.Sort Go.Shelf
/-- The text of a key. -/
def txt (k : List Int) : ByteArray := strOfNums (hexL k 64)
/-- Does the text of k begin so? -/
def begB (s : ByteArray) (k : List Int) : Bool := Lib.hasPrefix (txt k).data.toList s.data.toList
/-- The keys whose texts begin so. -/
noncomputable def fkL (s : ByteArray) (ks : List KeyS) : List KeyS := (onceK ks).filter fun x => begB s x.1
def fkV : List KeyS → List Int
  | [x] => x.1
  | _ => z32
def fkE : List KeyS → Int
  | [] => 6
  | [_] => 0
  | _ => 4
theorem filter_take {f : KeyS → Bool} {L : List KeyS} {k : Nat} (h : k < L.length) : (L.take (k + 1)).filter f = if f L[k] = true then (L.take k).filter f ++ [L[k]] else (L.take k).filter f := by
  rw [List.take_add_one, List.getElem?_eq_getElem h, List.filter_append]
  by_cases e : f L[k] = true <;> simp [e]
set_option maxRecDepth 100000 in
set_option maxHeartbeats 2000000 in
theorem find_impl_yes (b : Option Addr) (n cap : Nat) (fl : List Int) (s : ByteArray) (hn : n ≤ 256) (hf : ∀ y ∈ fl, 0 ≤ y ∧ y ≤ 255) (hs : s.size ≤ 64) (hd : ∀ j, j < s.size → isHx (charI s j) = true) (w : World) (hk : RdK w b n fl) :
    Calls Try.prog 21 #[.slice b n cap, .string s] w fun e w' => e = .returned (.tuple #[.agg (ints .u8 (fkV (fkL s (ksL fl n)))), .int .i64 (fkE (fkL s (ksL fl n)))]) ∧ Below w.heap.size w w' := by
  obtain ⟨i0, z0, hi0, hz0, hs0, hb0, hc0⟩ := keyPartsO
  have Hz := Lib.hid z32_ints
  have BA := Lib.hid (show Below w.heap.size w (w.alloc (.cells (ints .u8 z32) 32)) by go_grown)
  have Ho := Lib.hid (once_impl b n cap fl (by omega) hf _ (hk.below BA.out))
  have XA := Lib.hid (heap_alloc_last w (.cells (ints .u8 z32) 32))
  have Hd := Lib.hid (fun W => digits_yes s (by unfold maxLen; omega) hd W)
  have hol := onceK_len n _ (ksL_len fl n)
  unfold fkL
  generalize onceK (ksL fl n) = ss at Ho hol ⊢
  clear hk hf hd
  have z1 : (0 : Int) ≤ (n : Int) := by omega
  have z2 : (n : Int) ≤ 256 := by omega
  have z3 : ¬ (256 : Int) < (n : Int) := by omega
  have z4 : ¬ (64 : Int) < (s.size : Int) := by omega
  rw [Hz.out] at Ho BA
  go_enter Try.func21, Try.ntmps21
  go_wp2_with (first
    | (go_at_call 64; refine (Hd.out _).mono ?_; rintro e w3 ⟨rfl, rfl⟩)
    | (go_at_call 65; refine Ho.out.mono ?_; rintro e w1 ⟨v, rfl, hrow, hb⟩; obtain ⟨va, vc, rfl, hR⟩ := rdkO (by rw [flatK_len]) hrow))
  have R1 := Lib.hid hR
  have B1 := Lib.hid (below_call BA.out BA.out.size hb)
  have X1 := Lib.hid (keep_block XA.out hb)
  have Z1 := Lib.hid (show w.heap.size < w1.heap.size from (Array.getElem?_eq_some_iff.1 X1.out).1)
  clear hR hrow hb Ho Hd XA BA
  have z5 : (0 : Int) ≤ (ss.length : Int) := by omega
  have z6 : (ss.length : Int) ≤ 256 := by omega
  go_loopw [6, 25] (fun o i wr => ∃ k : Nat, k ≤ ss.length ∧ i = .int .i64 (k : Int) ∧ Below w1.heap.size w1 wr ∧ wr.ownsRow w1.heap.size 32 32 o ((ss.take k).filter fun x => begB s x.1).length ((flatK ((ss.take k).filter fun x => begB s x.1)).map (Value.int .u8))) (fun _ i _ => ss.length - (intOf i).toNat)
  case atStart => exact ⟨0, by omega, rfl, Below.refl _ _, ⟨rfl, .inl ⟨rfl, rfl⟩⟩⟩
  case round =>
    obtain ⟨k, hk, rfl, hb, hrow⟩ := hrel
    have B2 := Lib.hid hb
    have RW := Lib.hid hrow
    clear hb hrow
    by_cases hlt : k < ss.length
    · have b0 : (0 : Int) ≤ (k : Int) := by omega
      have b1 : (k : Int) < (ss.length : Int) := by omega
      obtain ⟨bb, off, rfl⟩ : ∃ bb off, va = some ⟨bb, off, none⟩ := by
        rcases R1.out.2 with h0 | ⟨bb, off, e, _⟩
        · omega
        · exact ⟨bb, off, e⟩
      have FT := Lib.hid (filter_take (f := fun x => begB s x.1) hlt)
      obtain ⟨x, hx⟩ : ∃ x, ss[k] = x := ⟨_, rfl⟩
      have KR := Lib.hid (show wr.rangeAt bb (off + k * 32) (x.1.map (Value.int .u8)) from by
        obtain ⟨h1, h2⟩ := R1.out.below B2.out
        rcases h2 with h2 | ⟨b', off', e, hlt2, hc⟩
        · omega
        · cases e
          have := keyAt_rangeAt h1 hc k hlt
          rwa [keyAt_flatK (List.getElem?_eq_some_iff.2 ⟨hlt, hx⟩)] at this)
      rw [hx] at FT
      have HV := Lib.hid x.2
      obtain ⟨V, hV⟩ : ∃ V, x.1 = V := ⟨_, rfl⟩
      have HXV := Lib.hid hV
      rw [hV] at KR HV FT
      clear hV hx
      have hfl : ((ss.take k).filter fun x => begB s x.1).length ≤ k := by
        have := List.length_filter_le (fun x : KeyS => begB s x.1) (ss.take k)
        rw [List.length_take] at this
        omega
      have HP := Lib.hid (fun W => Try.strings_HasPrefix (strOfNums (hexL V 64)) s W)
      have HBG := Lib.hid (show begB s V = Lib.hasPrefix (strOfNums (hexL V 64)).data.toList s.data.toList from rfl)
      rw [← HBG.out] at HP
      generalize hacc : ((ss.take k).filter fun x => begB s x.1) = acc at RW FT hfl
      have LB := layBO wr (ints .u8 z32) (ints .u8 V) 32
      have B3 := Lib.hid (below_call B2.out B2.out.size LB)
      have R3 := Lib.hid (owns_below RW.out LB)
      have N3 := Lib.hid (layNO wr (ints .u8 z32) (ints .u8 V) 32)
      clear LB hacc
      go_upto_region 9 with (first
        | (refine wpList_load_ints rfl 32 _ rfl bb (off + k * 32) rfl .u8 V _ KR.out Try.underlying32 rfl (by rw [HV.out.1]; exact sizeKey) ?_)
        | (refine wpList_store_row rfl 32 (.tmp 8) _ rfl wr.heap.size (ints .u8 V) rfl rfl 32 (ints .u8 z32) (by rw [Hz.out]; exact heap_alloc_last _ _) (by rw [ints_size, HV.out.1]; exact sizeKey) (by rw [ints_size, ints_size, HV.out.1, (show z32.length = 32 from rfl)]) (ints_one _ _) ?_))
      rw [← Hz.out]
      generalize (wr.alloc (.cells (ints .u8 z32) 32)).setRow wr.heap.size (ints .u8 V) = w3 at B3 R3 N3 ⊢
      generalize wr.heap.size = gN at N3 ⊢
      by_cases hbg : begB s V = true
      · rw [hbg] at HP FT
        rw [if_pos rfl] at FT
        go_upto_region 10 with (first
          | (refine wpList_load_row rfl 32 _ rfl gN rfl 32 (ints .u8 V) (0, 0) _ N3.out Try.underlying32 rfl (by rw [ints_size, HV.out.1]; exact sizeKey) ?_)
          | (go_at_call 67; refine (text_impl V HV.out.1 HV.out.2 _).mono ?_; rintro e w4 ⟨rfl, hb4⟩)
          | (go_at_call 66; refine (HP.out _).mono ?_; rintro e w5 ⟨rfl, rfl⟩))
        have B4 := Lib.hid (below_call B3.out B3.out.size hb4)
        have R4 := Lib.hid (owns_below R3.out hb4)
        have N4 := Lib.hid (keep_block N3.out hb4)
        have RA := Lib.hid (R4.out.alloc (.cells (ints .u8 V) 32))
        have BB := Lib.hid (B4.out.alloc B4.out.size (.cells (ints .u8 V) 32))
        clear hb4 B2 RW KR B3 R3 N3 HP hbg
        go_wp2_with (first
          | (refine wpList_load_row rfl 32 _ rfl gN rfl 32 (ints .u8 V) (0, 0) _ N4.out Try.underlying32 rfl (by rw [ints_size, HV.out.1]; exact sizeKey) ?_)
          | (refine wpList_buildSlice_one rfl 24 32 _ rfl Try.underlying24 hi0 hz0 (ints .u8 V) rfl (by rw [ints_size, HV.out.1, hs0]) (by rw [hs0]; decide) (by rw [hs0]; decide) ?_)
          | (at_builtin; refine wpList_append_own _ rfl _ _ 24 rfl w1.heap.size 32 i0 z0 32 32 Try.underlying24 hi0 hz0 hs0 hb0 hc0 (by decide) _ acc.length _ rfl RA.out ⟨w5.heap.size, 0, none⟩ 1 1 (V.map (Value.int .u8)) rfl (by rw [List.length_map, HV.out.1]) ?c1 ?c2 ?c3 ?c4 ?c5 ?_))
        case c1 =>
          intro p u hu
          rw [addrO, Nat.zero_add, cell_of_row _ w5.heap.size p _ _ _ (heap_alloc_last w5 (.cells (ints .u8 V) 32)), ← hu]
          simp [ints]
        case c2 => intro u hu; obtain ⟨z, _, rfl⟩ := List.mem_map.1 hu; rfl
        case c3 => unfold maxLen; omega
        case c4 => omega
        case c5 => exact BB.out.size
        intro v6 w6 hown6 hgrow6 hnil6
        have B6 := Lib.hid (BB.out.grown hgrow6 BB.out.size (fun q hq => (RA.out.lt q hq).1))
        have O6 := Lib.hid (show w6.ownsRow w1.heap.size 32 32 v6 (acc ++ [x]).length ((flatK (acc ++ [x])).map (Value.int .u8)) from by
          rw [List.length_append, flatK_app, List.map_append]
          have : flatK [x] = V := by simp [flatK, HXV.out]
          rw [this]
          exact hown6)
        obtain ⟨g6, c6, rfl⟩ : ∃ g c, v6 = .slice (some ⟨g, 0, none⟩) (acc.length + 1) c := by
          rcases hown6.2 with ⟨_, h0⟩ | ⟨g, cap, cur, hv, _⟩
          · omega
          · exact ⟨g, cap, hv⟩
        clear hown6 hgrow6 hnil6 RA BB
        go_wp2_with fail
        go_roundw
        case rel => exact ⟨k + 1, by omega, by go_num, B6.out, by rw [FT.out]; exact O6.out⟩
        case measure => simp [intOf]; omega
      · rw [Bool.not_eq_true] at hbg
        rw [hbg] at HP FT
        rw [if_neg (by decide)] at FT
        go_wp2_with (first
          | (refine wpList_load_row rfl 32 _ rfl gN rfl 32 (ints .u8 V) (0, 0) _ N3.out Try.underlying32 rfl (by rw [ints_size, HV.out.1]; exact sizeKey) ?_)
          | (go_at_call 67; refine (text_impl V HV.out.1 HV.out.2 _).mono ?_; rintro e w4 ⟨rfl, hb4⟩)
          | (go_at_call 66; refine (HP.out _).mono ?_; rintro e w5 ⟨rfl, rfl⟩))
        go_roundw
        case rel => exact ⟨k + 1, by omega, by go_num, below_call B3.out B3.out.size hb4, by rw [FT.out]; exact owns_below R3.out hb4⟩
        case measure => simp [intOf]; omega
    · obtain rfl : k = ss.length := by omega
      rw [List.take_length] at RW
      have X2 := Lib.hid (keep_block X1.out B2.out)
      have BW := Lib.hid (below_call B1.out B1.out.size B2.out)
      generalize hacc : (ss.filter fun x => begB s x.1) = acc at RW ⊢
      have hal : acc.length ≤ 256 := by
        have := List.length_filter_le (fun x : KeyS => begB s x.1) ss
        rw [hacc] at this
        omega
      obtain ⟨oa, oc, rfl, hro⟩ := rdkO (by rw [flatK_len]) RW.out
      have RO := Lib.hid hro
      have HAC := Lib.hid hacc
      clear hro RW hacc B2
      rcases acc with _ | ⟨x, _ | ⟨y, r⟩⟩
      · simp only [List.length_nil]
        go_wp2_with (refine wpList_store_row rfl 32 _ _ rfl w.heap.size (ints .u8 z32) rfl rfl 32 (ints .u8 z32) X2.out (by rw [ints_size]; exact sizeKey) rfl (ints_one _ _) ?_)
        refine bodyPost_ret (results_cell2_row rfl _ _ w.heap.size 32 (ints .u8 z32) (0, 0) _ rfl (setRow_heap _ _ (ints .u8 z32) _ _ _ X2.out) Try.underlying32 rfl (by rw [ints_size]; exact sizeKey)) rfl ⟨by rw [HAC.out]; rfl, ?_⟩
        exact Below.setRow BW.out (by omega) _
      · have hx := Lib.hid x.2
        obtain ⟨bb, off, rfl⟩ : ∃ bb off, oa = some ⟨bb, off, none⟩ := by
          rcases RO.out.2 with h0 | ⟨bb, off, e, _⟩
          · simp at h0
          · exact ⟨bb, off, e⟩
        have KR := Lib.hid (show wr.rangeAt bb off (x.1.map (Value.int .u8)) from by
          rcases RO.out.2 with h0 | ⟨b', off', e, hlt2, hc⟩
          · simp at h0
          · cases e
            have := keyAt_rangeAt (i := 0) RO.out.1 hc (by simp)
            rwa [keyAt_flatK (x := x) rfl, Nat.zero_mul, Nat.add_zero] at this)
        simp only [List.length_cons, List.length_nil, Nat.zero_add]
        go_wp2_with (first
          | (refine wpList_load_ints rfl 32 _ rfl bb off rfl .u8 x.1 _ KR.out Try.underlying32 rfl (by rw [hx.out.1]; exact sizeKey) ?_)
          | (refine wpList_store_row rfl 32 _ _ rfl w.heap.size (ints .u8 x.1) rfl rfl 32 (ints .u8 z32) X2.out (by rw [ints_size, hx.out.1]; exact sizeKey) (by rw [ints_size, ints_size, hx.out.1, (show z32.length = 32 from rfl)]) (ints_one _ _) ?_))
        refine bodyPost_ret (results_cell2_row rfl _ _ w.heap.size 32 (ints .u8 x.1) (0, 0) _ rfl (setRow_heap _ _ (ints .u8 z32) _ _ _ X2.out) Try.underlying32 rfl (by rw [ints_size, hx.out.1]; exact sizeKey)) rfl ⟨by rw [HAC.out]; rfl, ?_⟩
        exact Below.setRow BW.out (by omega) _
      · have h2 : ((x :: y :: r).length : Int) ≠ 0 := by simp; omega
        have h3 : ((x :: y :: r).length : Int) ≠ 1 := by simp; omega
        generalize (x :: y :: r).length = L at h2 h3 RO ⊢
        go_wp2_with (refine wpList_store_row rfl 32 _ _ rfl w.heap.size (ints .u8 z32) rfl rfl 32 (ints .u8 z32) X2.out (by rw [ints_size]; exact sizeKey) rfl (ints_one _ _) ?_)
        refine bodyPost_ret (results_cell2_row rfl _ _ w.heap.size 32 (ints .u8 z32) (0, 0) _ rfl (setRow_heap _ _ (ints .u8 z32) _ _ _ X2.out) Try.underlying32 rfl (by rw [ints_size]; exact sizeKey)) rfl ⟨by rw [HAC.out]; rfl, ?_⟩
        exact Below.setRow BW.out (by omega) _
set_option maxRecDepth 100000 in
set_option maxHeartbeats 2000000 in
theorem find_impl_many (b : Option Addr) (n cap : Nat) (s : ByteArray) (hm : n ≤ maxLen) (hn : ¬ n ≤ 256) (w : World) :
    Calls Try.prog 21 #[.slice b n cap, .string s] w fun e w' => e = .returned (.tuple #[.agg (ints .u8 z32), .int .i64 3]) ∧ Below w.heap.size w w' := by
  have Hz := Lib.hid z32_ints
  have XA := Lib.hid (heap_alloc_last w (.cells (ints .u8 z32) 32))
  have BA := Lib.hid (show Below w.heap.size w (w.alloc (.cells (ints .u8 z32) 32)) by go_grown)
  unfold maxLen at hm
  have z1 : (256 : Int) < (n : Int) := by omega
  rw [Hz.out] at XA BA
  go_enter Try.func21, Try.ntmps21
  go_wp2_with (first | (refine wpList_store_row rfl 32 _ _ rfl w.heap.size (ints .u8 z32) rfl rfl 32 (ints .u8 z32) XA.out (by rw [ints_size]; exact sizeKey) rfl (ints_one _ _) ?_))
  refine bodyPost_ret (results_cell2_row rfl _ _ w.heap.size 32 (ints .u8 z32) (0, 0) _ rfl (setRow_heap _ _ (ints .u8 z32) _ _ _ XA.out) Try.underlying32 rfl (by rw [ints_size]; exact sizeKey)) rfl ⟨rfl, ?_⟩
  exact Below.setRow BA.out (by omega) _
set_option maxRecDepth 100000 in
set_option maxHeartbeats 2000000 in
theorem find_impl_long (b : Option Addr) (n cap : Nat) (s : ByteArray) (hn : n ≤ 256) (hm : s.size ≤ maxLen) (hs : ¬ s.size ≤ 64) (w : World) :
    Calls Try.prog 21 #[.slice b n cap, .string s] w fun e w' => e = .returned (.tuple #[.agg (ints .u8 z32), .int .i64 5]) ∧ Below w.heap.size w w' := by
  have Hz := Lib.hid z32_ints
  have XA := Lib.hid (heap_alloc_last w (.cells (ints .u8 z32) 32))
  have BA := Lib.hid (show Below w.heap.size w (w.alloc (.cells (ints .u8 z32) 32)) by go_grown)
  unfold maxLen at hm
  have z1 : ¬ (256 : Int) < (n : Int) := by omega
  have z2 : (64 : Int) < (s.size : Int) := by omega
  rw [Hz.out] at XA BA
  go_enter Try.func21, Try.ntmps21
  go_wp2_with (first | (refine wpList_store_row rfl 32 _ _ rfl w.heap.size (ints .u8 z32) rfl rfl 32 (ints .u8 z32) XA.out (by rw [ints_size]; exact sizeKey) rfl (ints_one _ _) ?_))
  refine bodyPost_ret (results_cell2_row rfl _ _ w.heap.size 32 (ints .u8 z32) (0, 0) _ rfl (setRow_heap _ _ (ints .u8 z32) _ _ _ XA.out) Try.underlying32 rfl (by rw [ints_size]; exact sizeKey)) rfl ⟨rfl, ?_⟩
  exact Below.setRow BA.out (by omega) _
set_option maxRecDepth 100000 in
set_option maxHeartbeats 2000000 in
theorem find_impl_bad (b : Option Addr) (n cap : Nat) (s : ByteArray) (hn : n ≤ 256) (hs : s.size ≤ 64) (hd : ¬ ∀ j, j < s.size → isHx (charI s j) = true) (w : World) :
    Calls Try.prog 21 #[.slice b n cap, .string s] w fun e w' => e = .returned (.tuple #[.agg (ints .u8 z32), .int .i64 5]) ∧ Below w.heap.size w w' := by
  have Hz := Lib.hid z32_ints
  have XA := Lib.hid (heap_alloc_last w (.cells (ints .u8 z32) 32))
  have BA := Lib.hid (show Below w.heap.size w (w.alloc (.cells (ints .u8 z32) 32)) by go_grown)
  have Hd := Lib.hid (fun W => digits_no s (by unfold maxLen; omega) hd W)
  clear hd
  have z1 : ¬ (256 : Int) < (n : Int) := by omega
  have z2 : ¬ (64 : Int) < (s.size : Int) := by omega
  rw [Hz.out] at XA BA
  go_enter Try.func21, Try.ntmps21
  go_wp2_with (first | (go_at_call 64; refine (Hd.out _).mono ?_; rintro e w3 ⟨rfl, rfl⟩) | (refine wpList_store_row rfl 32 _ _ rfl w.heap.size (ints .u8 z32) rfl rfl 32 (ints .u8 z32) XA.out (by rw [ints_size]; exact sizeKey) rfl (ints_one _ _) ?_))
  refine bodyPost_ret (results_cell2_row rfl _ _ w.heap.size 32 (ints .u8 z32) (0, 0) _ rfl (setRow_heap _ _ (ints .u8 z32) _ _ _ XA.out) Try.underlying32 rfl (by rw [ints_size]; exact sizeKey)) rfl ⟨rfl, ?_⟩
  exact Below.setRow BA.out (by omega) _
end Go.Proofs.Ytdoelmjaongjfab
