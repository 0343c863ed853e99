/- The statement on EndCutter: its walk. -/
import Derived.Test.YtdamgodfgoackaaEndC
import Derived.Test.YtdamgodfgoackaaPairI
namespace Go.Proofs.Ytdamgodfgoackaa
open Go.ChangeShapes Go.WideShapes Go.ChangeAt Go.RowKit
set_option linter.unusedVariables false
set_option maxRecDepth 100000 in
set_option maxHeartbeats 2000000 in
theorem toC' (l m b q : Int) (a : Option Addr) (n cap : Nat) (k : List Int) (hn : n ≤ 1048576) (w : World) (hr : Rd .u8 w a n k) :
    Calls Try.prog 42 #[.agg #[.int .i64 l, .int .i64 m, .int .i64 b, .int .u32 q, .slice a n cap]] w fun e w' => ∃ g, e = .returned (.agg #[.int .i64 l, .int .i64 m, .int .i64 b, .int .u32 q, .slice (some ⟨g, 0, none⟩) n n]) ∧ w.heap.size ≤ g ∧ w'.heap[g]? = some (.cells (ints .u8 k) 5) ∧ Below w.heap.size w w' := by
  have Hr := Lib.hid hr
  clear hr
  go_enter Try.func42, Try.ntmps42
  go_wp2_with fail
  refine (toR _ _ _ _).mono ?_
  rintro e w1 ⟨rfl, rfl⟩
  go_wp2_with fail
  refine (toBS a n cap k hn _ (Hr.out.below (by go_grown))).mono ?_
  rintro e w2 ⟨rfl, rfl⟩
  go_wp2
  go_returns
  refine ⟨_, rfl, ?_, heap_at (by simp) _, by go_grown⟩
  omega
/-- One row changed, and nothing else. -/
def Hit (g : Nat) (w w' : World) : Prop := Below g w w' ∧ ∀ i, i < w.heap.size → i ≠ g → w'.heap[i]? = w.heap[i]?
theorem owns_hit {g base e n size : Nat} {w w' : World} {v : Value} {xs : List Value} (h : Hit g w w') (hb : g < base) (o : w.ownsRow base e size v n xs) : w'.ownsRow base e size v n xs := by
  refine ⟨o.1, ?_⟩
  rcases o.2 with h0 | ⟨c, cap, cur, hv, hc, hh, r⟩
  · exact Or.inl h0
  · exact Or.inr ⟨c, cap, cur, hv, hc, (h.2 c (Array.getElem?_eq_some_iff.1 hh).1 (by omega)).trans hh, r⟩
theorem owns_keepb {base e n size : Nat} {w w' : World} {v : Value} {xs : List Value} (h : Below w.heap.size w w') (o : w.ownsRow base e size v n xs) : w'.ownsRow base e size v n xs := by
  refine ⟨o.1, ?_⟩
  rcases o.2 with h0 | ⟨c, cap, cur, hv, hc, hh, r⟩
  · exact Or.inl h0
  · exact Or.inr ⟨c, cap, cur, hv, hc, keep_block hh h, r⟩
set_option maxRecDepth 100000 in
set_option maxHeartbeats 1000000 in
theorem markC (lo mo bi q : Int) (g n cap : Nat) (l : List Int) (t : TypeId) (k : Int) (h0 : 0 ≤ k) (h1 : k ≤ 1099511627776) (hn : n ≤ 1099511627776) (hl : l.length = n) (w : World) (hg : w.heap[g]? = some (.cells (ints .u8 l) t)) :
    Calls Try.prog 63 #[.agg #[.int .i64 lo, .int .i64 mo, .int .i64 bi, .int .u32 q, .slice (some ⟨g, 0, none⟩) n cap], .int .i64 k] w fun e w' => e = .returned (.int .i64 (k + n)) ∧ Hit g w w' := by
  have Hg := Lib.hid hg
  have hgs := (Array.getElem?_eq_some_iff.1 hg).1
  clear hg
  go_enter Try.func63, Try.ntmps63
  go_wp2_with fail
  refine (markBS g n cap l t k h0 h1 hn hl _ ((Below.heap_alloc _ _ _ hgs).trans Hg.out)).mono ?_
  rintro e w' ⟨rfl, rfl⟩
  go_wp2
  go_ret
  refine ⟨rfl, ⟨rfl, rfl, rfl, by simp [World.setRow], fun i hi => ?_⟩, fun i hi hne => ?_⟩
  · simp only [World.setRow]
    rw [Array.getElem?_modify, if_neg (by omega)]
    exact Below.heap_alloc _ _ _ (by omega)
  · simp only [World.setRow]
    rw [Array.getElem?_modify, if_neg (by omega)]
    exact Below.heap_alloc _ _ _ hi
theorem rd_of_owned {w : World} {base n cap : Nat} {a : Option Addr} {L : List Int} {t : TypeId} (h : w.ownsRow base t 1 (.slice a n cap) n (L.map (Value.int .u8))) : Rd .u8 w a n L := by
  obtain ⟨a', c', e, r⟩ := Rd.owned h
  cases e
  exact r
theorem markV' (a : Option Addr) (n cap base : Nat) (l : List Int) (k0 : Int) (h0 : 0 ≤ k0) (h1 : k0 ≤ 1099511627776) (hn : n ≤ 1099511627776) (w : World) (ho : w.ownsRow base 5 1 (.slice a n cap) n (l.map (Value.int .u8))) :
    Calls Try.prog 33 #[.slice a n cap, .int .i64 k0] w fun e w' => e = .returned (.int .i64 (k0 + n)) ∧ Rd .u8 w' a n (markL k0 n) ∧ Below base w w' := by
  obtain ⟨a', c', e, r⟩ := markV _ n base l k0 h0 h1 hn w ho
  cases e
  exact r
set_option maxRecDepth 100000 in
set_option maxHeartbeats 8000000 in
theorem ecl_in (lo mo bi q : Int) (a : Option Addr) (n cap : Nat) (l : List Int) (hn : n ≤ 1048576) (fl : ∀ z ∈ l, 0 ≤ z ∧ z ≤ 255) (w : World) (hr : Rd .u8 w a n l) :
    Calls Try.prog 13 #[.agg #[.int .i64 lo, .int .i64 mo, .int .i64 bi, .int .u32 q, .slice a n cap]] w fun e w' => e = .returned (.bool true) ∧ Below w.heap.size w w' := by
  have Hr := Lib.hid hr
  have Hl := Lib.hid hr.1
  have Hs := Lib.hid (fun g (W : World) h => endcut_spec g 0 n n lo mo bi q l fl hn W h)
  have Hi := Lib.hid (fun g (W : World) h => endcut_impl g 0 n n lo mo bi q l fl hn (Nat.le_refl _) (by unfold maxLen; omega) W h)
  clear hr fl
  generalize fitP lo mo bi q l = V at Hs Hi
  have hN : endN V n ≤ 1048576 := by unfold endN; split <;> omega
  generalize endN V n = N at Hs Hi hN
  generalize endL V l = K at Hs Hi
  generalize endE V = E at Hs Hi
  go_enter Try.func13, Try.ntmps13
  go_wp2_with fail
  refine (szC_in _ _ _ _ a n cap 1048576 (by omega) (by omega) (by omega) _).mono ?_
  rintro e w1 ⟨rfl, hb⟩
  have L1 := Lib.hid (((Below.refl w.heap.size w).alloc (by simp) (.cells #[.int .i64 lo, .int .i64 mo, .int .i64 bi, .int .u32 q, .slice a n cap] 59)).trans (hb.mono (by simp)))
  have A1 := Lib.hid (keep_block (heap_alloc_last w (.cells #[.int .i64 lo, .int .i64 mo, .int .i64 bi, .int .u32 q, .slice a n cap] 59)) hb)
  clear hb
  go_wp2_with (refine wpList_load_row rfl 59 _ rfl w.heap.size rfl 59 #[.int .i64 lo, .int .i64 mo, .int .i64 bi, .int .u32 q, .slice a n cap] (0, 0) _ A1.out Try.underlying59 rfl sizeCl ?_)
  refine (toC _ _ _ _ a n cap l hn _ (Hr.out.below L1.out)).mono ?_
  rintro e w2 ⟨g2, rfl, hg, hb⟩
  have L2 := Lib.hid (below_call L1.out L1.out.size hb)
  have A2 := Lib.hid (keep_block A1.out hb)
  have R2 := Rd.row hg
  rw [Hl.out] at R2
  have HR2 := Lib.hid R2
  clear hb hg R2
  go_wp2_with fail
  refine (Hs.out _ _ HR2.out).mono ?_
  rintro e w3 ⟨v3, rfl, hown, hb⟩
  have L3 := Lib.hid (below_call L2.out L2.out.size hb)
  have A3 := Lib.hid (keep_block A2.out hb)
  obtain ⟨a3, c3, rfl, R3⟩ := Rd.owned hown
  have R3 := Lib.hid R3
  clear hb hown
  go_wp2_with (refine wpList_load_row rfl 59 _ rfl w.heap.size rfl 59 #[.int .i64 lo, .int .i64 mo, .int .i64 bi, .int .u32 q, .slice a n cap] (0, 0) _ A3.out Try.underlying59 rfl sizeCl ?_)
  refine (toC' _ _ _ _ a n cap l hn _ (Hr.out.below L3.out)).mono ?_
  rintro e w4 ⟨g4, rfl, hge, hg, hb⟩
  have T4 := Lib.hid (hb.alloc hb.size (.cells #[.int .i64 lo, .int .i64 mo, .int .i64 bi, .int .u32 q, .slice (some ⟨g4, 0, none⟩) n n] 64))
  have A4 := Lib.hid (keep_block A3.out T4.out)
  have G4 := Lib.hid ((Below.heap_alloc w4 (.cells #[.int .i64 lo, .int .i64 mo, .int .i64 bi, .int .u32 q, .slice (some ⟨g4, 0, none⟩) n n] 64) _ (Array.getElem?_eq_some_iff.1 hg).1).trans hg)
  have H4 := Lib.hid (heap_alloc_last w4 (.cells #[.int .i64 lo, .int .i64 mo, .int .i64 bi, .int .u32 q, .slice (some ⟨g4, 0, none⟩) n n] 64))
  have hg4 : g4 < w4.heap.size := (Array.getElem?_eq_some_iff.1 hg).1
  have R4 := Rd.row G4.out
  rw [Hl.out] at R4
  have HR4 := Lib.hid R4
  clear hb hg R4
  go_wp2_with (first | (refine wpList_store_row rfl 64 _ _ rfl w4.heap.size #[.int .i64 lo, .int .i64 mo, .int .i64 bi, .int .u32 q, .slice (some ⟨g4, 0, none⟩) n n] rfl rfl 64 #[.int .i64 0, .int .i64 0, .int .i64 0, .int .u32 0, .slice none 0 0] (heap_alloc_last _ _) sizeCi rfl (by simp [Value.oneCell']) ?_; rw [World.setRow_alloc_new]) | (refine wpList_load_row rfl 64 _ rfl w4.heap.size rfl 64 #[.int .i64 lo, .int .i64 mo, .int .i64 bi, .int .u32 q, .slice (some ⟨g4, 0, none⟩) n n] (0, 0) _ H4.out Try.underlying64 rfl sizeCi ?_))
  refine (Hi.out _ _ HR4.out).mono ?_
  rintro e w5 ⟨v5, rfl, hown, hb⟩
  have U5 := Lib.hid hb
  obtain ⟨a5, c5, rfl, R5⟩ := Rd.owned hown
  have O5 := Lib.hid hown
  have T5 := Lib.hid (below_call T4.out T4.out.size hb)
  clear hb hown R5
  go_wp2_with fail
  refine (eqBS a5 a3 N c5 c3 K hN _ (rd_of_owned O5.out) (R3.out.below T5.out)).mono ?_
  rintro e w6 ⟨rfl, hb⟩
  have U6 := Lib.hid (below_call U5.out U5.out.size hb)
  have O6 := Lib.hid (owns_keepb hb O5.out)
  have T6 := Lib.hid (below_call T5.out T5.out.size hb)
  clear hb
  have A6 := Lib.hid (keep_block A3.out T6.out)
  have H6 := Lib.hid (keep_block H4.out U6.out)
  have G6 := Lib.hid (keep_block G4.out U6.out)
  go_wp2_with fail
  refine wp_region_held_drew (S := Below w6.heap.size w6) (by kernel_rfl) ((Below.refl _ _).drew) (fun hS => ?_)
  refine wpAnyH_take (i := 0) (v := _) rfl (by kernel_rfl) (by kernel_rfl) (by kernel_rfl) (fun _ _ _ h => h) (yields_box (by rfl) 64 _ rfl w4.heap.size rfl _ 64 _ H6.out Try.underlying64 rfl sizeCi) hS ?_
  refine wpAnyH_take (i := 1) (v := _) rfl (by kernel_rfl) (by kernel_rfl) (by kernel_rfl) (fun _ _ _ h => h) (yields_box (by rfl) 59 _ rfl w.heap.size rfl _ 59 _ A6.out Try.underlying59 rfl sizeCl) hS ?_
  refine wpAnyH_ready (rs := [2]) (by kernel_rfl) (by simp) ?_
  refine AllReadyH.cons rfl (fun K' hK => ?_) AllReadyH.nil
  rw [if_pos (by rfl)]
  go_simp
  refine (toC _ _ _ _ a n cap l hn _ (Hr.out.below (L3.out.trans ((T6.out.trans (hS.mono T6.out.size)).mono L3.out.size)))).mono ?_
  rintro e v1 ⟨_, rfl, hg6, hb⟩
  have S6 := below_call hS hS.size hb
  refine hK.out _ _ S6 (fun hS => ?_)
  clear hb hK
  refine wpAnyH_ready (rs := [3]) (by kernel_rfl) (by simp) ?_
  refine AllReadyH.cons rfl (fun K' hK => ?_) AllReadyH.nil
  rw [if_pos (by rfl)]
  go_simp
  have R1 := Rd.row (keep_block G6.out S6)
  have R2 := Rd.row hg6
  rw [Hl.out] at R1 R2
  refine (eqC _ _ _ _ _ _ n n n l hn _ R1 R2).mono ?_
  rintro e v2 ⟨rfl, hb⟩
  have S7 := below_call S6 S6.size hb
  refine hK.out _ _ S7 (fun hS => ?_)
  clear hb hK
  refine wpAnyH_ready (rs := [4]) (by kernel_rfl) (by simp) ?_
  refine AllReadyH.cons rfl (fun K' hK => ?_) AllReadyH.nil
  rw [if_pos (by rfl)]
  go_simp
  refine hK.out _ _ S7 (fun hS => ?_)
  refine wpAnyH_done (by kernel_rfl) ?_ _
  have S7 := Lib.hid S7
  clear R1 R2 S6 hg6 hK hS
  rename World => w7
  have U7 := Lib.hid (below_call U6.out U6.out.size S7.out)
  have O7 := Lib.hid (owns_keepb S7.out O6.out)
  have T7 := Lib.hid (below_call T6.out T6.out.size S7.out)
  have H7 := Lib.hid (keep_block H4.out U7.out)
  have G7 := Lib.hid (keep_block G4.out U7.out)
  clear S7
  go_wp2_with (refine wpList_load_row rfl 64 _ rfl w4.heap.size rfl 64 #[.int .i64 lo, .int .i64 mo, .int .i64 bi, .int .u32 q, .slice (some ⟨g4, 0, none⟩) n n] (0, 0) _ H7.out Try.underlying64 rfl sizeCi ?_)
  refine (markC _ _ _ _ g4 n n l _ 1 (by omega) (by omega) (by omega) Hl.out _ G7.out).mono ?_
  rintro e w8 ⟨rfl, hit⟩
  have O8 := Lib.hid (owns_hit hit (by simp; omega) O7.out)
  have T8 := Lib.hid (T7.out.trans (hit.1.mono hge))
  clear hit
  go_wp2_with fail
  refine (eqBS a5 a3 N c5 c3 K hN _ (rd_of_owned O8.out) (R3.out.below T8.out)).mono ?_
  rintro e w9 ⟨rfl, hb⟩
  have O9 := Lib.hid (owns_keepb hb O8.out)
  have T9 := Lib.hid (below_call T8.out T8.out.size hb)
  clear hb
  go_wp2_with fail
  refine (markV' a5 N c5 _ K 1 (by omega) (by omega) (by omega) _ O9.out).mono ?_
  rintro e w10 ⟨rfl, hm, hb⟩
  have T10 := Lib.hid (T9.out.trans (hb.mono T4.out.size))
  have M10 := Lib.hid hm
  clear hb hm
  go_wp2_with fail
  refine (heldBS a5 N c5 1 (by omega) (by omega) (by omega) _ M10.out).mono ?_
  rintro e w11 ⟨rfl, rfl⟩
  have A10 := Lib.hid (keep_block A3.out T10.out)
  go_wp2_with (refine wpList_load_row rfl 59 _ rfl w.heap.size rfl 59 #[.int .i64 lo, .int .i64 mo, .int .i64 bi, .int .u32 q, .slice a n cap] (0, 0) _ A10.out Try.underlying59 rfl sizeCl ?_)
  refine (toC _ _ _ _ a n cap l hn _ (Hr.out.below (L3.out.trans (T10.out.mono L3.out.size)))).mono ?_
  rintro e w12 ⟨g12, rfl, hg, hb⟩
  have T12 := Lib.hid (below_call T10.out T10.out.size hb)
  have M12 := Lib.hid (M10.out.below hb)
  have R12 := Rd.row hg
  rw [Hl.out] at R12
  have HR12 := Lib.hid R12
  clear hb hg R12
  go_wp2_with fail
  refine (Hi.out _ _ HR12.out).mono ?_
  rintro e w13 ⟨v13, rfl, hown, hb⟩
  have T13 := Lib.hid (below_call T12.out T12.out.size hb)
  have M13 := Lib.hid (M12.out.below hb)
  obtain ⟨a13, c13, rfl, R13⟩ := Rd.owned hown
  have R13 := Lib.hid R13
  clear hb hown
  go_wp2_with fail
  refine (eqBS a13 a3 N c13 c3 K hN _ R13.out (R3.out.below T13.out)).mono ?_
  rintro e w14 ⟨rfl, hb⟩
  have T14 := Lib.hid (below_call T13.out T13.out.size hb)
  have M14 := Lib.hid (M13.out.below hb)
  clear hb
  go_wp2_with fail
  refine (heldBS a5 N c5 1 (by omega) (by omega) (by omega) _ M14.out).mono ?_
  rintro e w15 ⟨rfl, rfl⟩
  go_wp2
  go_ret
  exact ⟨rfl, L3.out.trans (T14.out.mono L3.out.size)⟩
set_option maxRecDepth 100000 in
set_option maxHeartbeats 2000000 in
theorem ecl_out (lo mo bi q : Int) (a : Option Addr) (n cap : Nat) (hm : n ≤ maxLen) (hn : ¬ n ≤ 1048576) (w : World) :
    Calls Try.prog 13 #[.agg #[.int .i64 lo, .int .i64 mo, .int .i64 bi, .int .u32 q, .slice a n cap]] w fun e w' => e = .returned (.bool true) ∧ Below w.heap.size w w' := by
  unfold maxLen at hm
  have h1 : (1048576 : Int) < (n : Int) := by omega
  go_enter Try.func13, Try.ntmps13
  go_wp2_with fail
  refine (szC_out _ _ _ _ a n cap 1048576 (by omega) (by omega) hm h1 _).mono ?_
  rintro e w1 ⟨rfl, hb⟩
  have L1 := Lib.hid (((Below.refl w.heap.size w).alloc (by simp) (.cells #[.int .i64 lo, .int .i64 mo, .int .i64 bi, .int .u32 q, .slice a n cap] 59)).trans (hb.mono (by simp)))
  clear hb
  go_wp2
  go_ret
  exact ⟨rfl, L1.out⟩
theorem FnExactEndCutter_walk (lo mo bi q : Int) (a : Option Addr) (n cap : Nat) (zs : List Int) (w : World) (f : IsRow .u8 w a n cap zs) (g : ∀ z ∈ [lo, mo, bi], (Lit.int .i64 z).wf = true) (e : (Lit.int .u32 q).wf = true) :
    Calls Try.prog 13 #[.agg #[.int .i64 lo, .int .i64 mo, .int .i64 bi, .int .u32 q, .slice a n cap]] w fun e w' => e = .returned (.bool true) ∧ Below w.heap.size w w' := by
  by_cases hn : n ≤ 1048576
  · exact ecl_in lo mo bi q a n cap (zs.take n) hn (fun z hz => bounds_u8 (rd_wf f z hz)) w (rd_of_row f)
  · exact ecl_out lo mo bi q a n cap (row_len f) hn w
end Go.Proofs.Ytdamgodfgoackaa
