/- The statement on SpoilPack: its walk (the pattern for f(data, numbers) that gives bytes and a code). Written by hand. -/
import Derived.Test.YtmgldpiagclcnaaSpo
import Derived.Test.YtmgldpiagclcnaaKeep
namespace Go.Proofs.Ytmgldpiagclcnaa
open Go.ChangeShapes Go.WideShapes Go.ChangeAt Go.RowKit
set_option linter.unusedVariables false
set_option linter.unusedSimpArgs false
theorem OwnB.keepZ {w w' : World} {base n cap : Nat} {a : Option Addr} {X : Nat → Prop} {l : List Int} (h : OwnB w base (.slice a n cap) n l) (hx : ∀ k, X k → k < base) (k : Keep w.heap.size X w w') : OwnB w' base (.slice a n cap) n l := by
  obtain ⟨a', cap', hv, hr, ho⟩ := h
  cases hv
  rcases ho with h0 | ⟨g, T, L, h1, h2, h3⟩
  · exact ⟨a, cap, rfl, ⟨hr.1, .inl h0⟩, .inl h0⟩
  · have h4 : w'.heap[g]? = some (.cells (ints .u8 (l ++ L)) T) := k.hold (fun h => by have := hx g h; omega) h3
    rw [h1]
    exact OwnB.of_block hr.1 h2 h4
theorem keep_row (g : Nat) (w : World) (c : Array Value) : Keep w.heap.size (fun q => q = g) w (w.setRow g c) := ⟨rfl, rfl, rfl, by simp [World.setRow], fun q _ hq => setRow_other _ _ _ _ hq⟩
theorem spL_le (l : List Int) (n : Nat) (at_ bit : Int) (h : l.length = n) : (spL l n at_ bit).length ≤ n := by
  unfold spL
  split
  · rw [spX_len]; omega
  · simp
set_option maxRecDepth 100000 in
set_option maxHeartbeats 8000000 in
theorem FnExactSpoilPack_in (a : Option Addr) (n cap : Nat) (l : List Int) (at_ bit : Int) (N : Nat) (L : List Int) (E : Int) (hn : n ≤ 1048576) (hN : N ≤ 1048576) (w : World) (hr : Rd .u8 w a n l)
    (hs : ∀ (y : Nat) (W : World), W.heap[y]? = some (.cells (ints .u8 l) 5) → Calls Try.prog 50 #[.slice (some ⟨y, 0, none⟩) n n, .int .i64 at_, .int .i64 bit] W fun e w' => ∃ a cap, e = .returned (.tuple #[.slice a N cap, .int .i64 E]) ∧ Rd .u8 w' a N L ∧ Below W.heap.size W w')
    (hi : ∀ (y : Nat) (W : World), W.heap[y]? = some (.cells (ints .u8 l) 5) → Calls Try.prog 52 #[.slice (some ⟨y, 0, none⟩) n n, .int .i64 at_, .int .i64 bit] W fun e w' => ∃ v, e = .returned (.tuple #[v, .int .i64 E]) ∧ OwnB w' W.heap.size v N L ∧ Below W.heap.size W w') :
    Calls Try.prog 13 #[.slice a n cap, .int .i64 at_, .int .i64 bit] w fun e w' => e = .returned (.bool true) ∧ Below w.heap.size w w' := by
  have Hr := Lib.hid hr
  have Hs := Lib.hid hs
  have Hi := Lib.hid hi
  have Hl := Lib.hid hr.1
  clear hr hs hi
  have q0 : ¬ 1048576 < (n : Int) := by omega
  go_enter Try.func13, Try.ntmps13
  go_wp2_with fail
  refine (toBS a n cap l hn _ Hr.out).mono ?_
  rintro e v1 ⟨rfl, rfl⟩
  go_wp2_with fail
  refine (Hs.out _ _ (heap_alloc_last w _)).mono ?_
  rintro e w3 ⟨aS, cS, rfl, hrd, hb⟩
  have B3 := Lib.hid (((Below.refl w.heap.size w).alloc (Nat.le_refl _) (.cells (ints .u8 l) 5)).trans (hb.mono (by simp)))
  have S3 := Lib.hid hrd
  clear hb hrd
  go_wp2_with fail
  refine (toBS a n cap l hn _ (Hr.out.below B3.out)).mono ?_
  rintro e v2 ⟨rfl, rfl⟩
  have LI := (Below.refl w3.heap.size w3).alloc (Nat.le_refl _) (.cells (ints .u8 l) 5)
  have B4 := Lib.hid (below_call B3.out B3.out.size LI)
  have C4 := Lib.hid LI
  have G4 := Lib.hid (heap_alloc_last w3 (.cells (ints .u8 l) 5))
  have Z4 := Lib.hid (show w3.heap.size < (w3.alloc (.cells (ints .u8 l) 5)).heap.size by simp)
  clear LI
  go_wp2_with fail
  generalize w3.alloc (.cells (ints .u8 l) 5) = w4 at B4 C4 G4 Z4 ⊢
  obtain ⟨g, hg⟩ : ∃ g, w3.heap.size = g := ⟨_, rfl⟩
  rw [hg] at G4 Z4 ⊢
  have HG := Lib.hid hg
  clear hg
  refine (Hi.out g _ G4.out).mono ?_
  rintro e w5 ⟨v7, rfl, hO0, hb⟩
  obtain ⟨a7, c7, rfl, -, hO⟩ := hO0.read
  have V5 := Lib.hid hO
  have B5 := Lib.hid (below_call B4.out B4.out.size hb)
  have C5 := Lib.hid (below_call C4.out C4.out.size hb)
  have G5 := Lib.hid (keep_block G4.out hb)
  have D5 := Lib.hid hb.size
  have F44 := Lib.hid B4.out.size
  have E44 := Lib.hid C4.out.size
  clear hb hO hO0 B4 C4 G4
  go_wp2_with fail
  obtain ⟨_, _, hv, hR, -⟩ := V5.out.read
  cases hv
  refine (eqBS a7 aS N c7 cS L hN _ hR (S3.out.below C5.out)).mono ?_
  rintro e w6 ⟨rfl, hb⟩
  have V6 := Lib.hid (V5.out.below hb)
  have B6 := Lib.hid (below_call B5.out B5.out.size hb)
  have C6 := Lib.hid (below_call C5.out C5.out.size hb)
  have G6 := Lib.hid (keep_block G5.out hb)
  have D6 := Lib.hid (Nat.le_trans D5.out hb.size)
  clear hb hR V5 B5 C5 G5 D5
  go_wp2_with fail
  refine (toBS a n cap l hn _ (Hr.out.below B6.out)).mono ?_
  rintro e v3 ⟨rfl, rfl⟩
  have LI := (Below.refl w6.heap.size w6).alloc (Nat.le_refl _) (.cells (ints .u8 l) 5)
  have V7 := Lib.hid (V6.out.below LI)
  have B7 := Lib.hid (below_call B6.out B6.out.size LI)
  have C7 := Lib.hid (below_call C6.out C6.out.size LI)
  have G7 := Lib.hid (keep_block G6.out LI)
  have D7 := Lib.hid (Nat.le_trans D6.out LI.size)
  have N7 := Lib.hid (heap_alloc_last w6 (.cells (ints .u8 l) 5))
  clear LI V6 B6 C6 G6 D6
  go_wp2_with fail
  refine (eqBS _ _ n n n l hn _ (rdP Hl.out G7.out) (rdP Hl.out N7.out)).mono ?_
  rintro e w8 ⟨rfl, hb⟩
  have V8 := Lib.hid (V7.out.below hb)
  have B8 := Lib.hid (below_call B7.out B7.out.size hb)
  have C8 := Lib.hid (below_call C7.out C7.out.size hb)
  have G8 := Lib.hid (keep_block G7.out hb)
  have D8 := Lib.hid (Nat.le_trans D7.out hb.size)
  clear hb V7 B7 C7 G7 D7 N7
  go_wp2_with fail
  refine (markBS' g n n l 5 1 (by omega) (by omega) (by omega) (by have := Hl.out; omega) _ G8.out).mono ?_
  rintro e w9 ⟨rfl, rfl⟩
  have V9 := Lib.hid (V8.out.keepZ (fun k h => by rw [h]; exact Z4.out) (keep_row g w8 (ints .u8 (markL 1 n ++ l.drop n))))
  have hkB : Below w3.heap.size w8 (w8.setRow g (ints .u8 (markL 1 n ++ l.drop n))) := Below.setRow (Below.refl _ _) (by have := HG.out; omega) _
  have B9 := Lib.hid (B8.out.trans (hkB.mono B3.out.size))
  have C9 := Lib.hid (C8.out.trans hkB)
  have D9 := Lib.hid (show w4.heap.size ≤ (w8.setRow g (ints .u8 (markL 1 n ++ l.drop n))).heap.size from Nat.le_trans D8.out hkB.size)
  clear hkB V8 B8 C8 G8 D8
  generalize w8.setRow g (ints .u8 (markL 1 n ++ l.drop n)) = w9 at V9 B9 C9 D9 ⊢
  have r1 : ¬ (1 : Int) + (n : Int) < 0 := by omega
  go_wp2_with fail
  obtain ⟨_, _, hv, hR, -⟩ := V9.out.read
  cases hv
  refine (eqBS a7 aS N c7 cS L hN _ hR (S3.out.below C9.out)).mono ?_
  rintro e w10 ⟨rfl, hb⟩
  have V10 := Lib.hid (V9.out.below hb)
  have B10 := Lib.hid (below_call B9.out B9.out.size hb)
  have C10 := Lib.hid (below_call C9.out C9.out.size hb)
  clear hb hR V9 B9 C9 D9
  obtain ⟨_, _, hv, hmk⟩ := markOwn _ N w4.heap.size L 1 (by omega) (by omega) hN w10 V10.out
  cases hv
  have HMK := Lib.hid hmk
  have r2 : ¬ (1 : Int) + (N : Int) < 0 := by omega
  clear hmk
  go_wp2_with fail
  refine HMK.out.mono ?_
  rintro e w11 ⟨rfl, hO, hkB⟩
  obtain ⟨_, _, hv, hR, -⟩ := hO.read
  cases hv
  have V11 := Lib.hid hR
  have B11 := Lib.hid (B10.out.trans (hkB.mono F44.out))
  have C11 := Lib.hid (C10.out.trans (hkB.mono E44.out))
  clear hkB hO hR HMK V10 B10 C10
  go_wp2_with fail
  refine (heldBS a7 N c7 1 (by omega) (by omega) (by omega) _ V11.out).mono ?_
  rintro e w12 ⟨rfl, hw⟩
  subst hw
  go_wp2_with fail
  refine (toBS a n cap l hn _ (Hr.out.below B11.out)).mono ?_
  rintro e v4 ⟨rfl, rfl⟩
  have LI := (Below.refl w12.heap.size w12).alloc (Nat.le_refl _) (.cells (ints .u8 l) 5)
  have V12 := Lib.hid (V11.out.below LI)
  have B12 := Lib.hid (below_call B11.out B11.out.size LI)
  have C12 := Lib.hid (below_call C11.out C11.out.size LI)
  clear LI
  go_wp2_with fail
  refine (Hi.out _ _ (heap_alloc_last w12 _)).mono ?_
  rintro e w13 ⟨v14, rfl, hO0, hb⟩
  obtain ⟨a14, c14, rfl, hR14, -⟩ := hO0.read
  have V13 := Lib.hid (V12.out.below hb)
  have B13 := Lib.hid (below_call B12.out B12.out.size hb)
  have C13 := Lib.hid (below_call C12.out C12.out.size hb)
  have R13 := Lib.hid hR14
  clear hb hO0 hR14 V12 B12 C12 V11 B11 C11
  go_wp2_with fail
  refine (eqBS a14 aS N c14 cS L hN _ R13.out (S3.out.below C13.out)).mono ?_
  rintro e w14 ⟨rfl, hb⟩
  have V14 := Lib.hid (V13.out.below hb)
  have B14 := Lib.hid (below_call B13.out B13.out.size hb)
  clear hb V13 B13 C13
  go_wp2_with fail
  refine (heldBS a7 N c7 1 (by omega) (by omega) (by omega) _ V14.out).mono ?_
  rintro e w15 ⟨rfl, hw⟩
  subst hw
  go_wp2_with fail
  go_ret
  exact ⟨rfl, B14.out⟩
theorem FnExactSpoilPack_walk (a : Option Addr) (n cap : Nat) (zs : List Int) (at_ bit : Int) (w : World) (hr : IsRow .u8 w a n cap zs) (_w1 : (Lit.int .i64 at_).wf = true) (_w2 : (Lit.int .i64 bit).wf = true) :
    Calls Try.prog 13 #[.slice a n cap, .int .i64 at_, .int .i64 bit] w fun e w' => e = .returned (.bool true) ∧ Below w.heap.size w w' := by
  by_cases hn : n ≤ 1048576
  · have hd := rd_of_row hr
    exact FnExactSpoilPack_in a n cap (zs.take n) at_ bit _ _ _ hn (Nat.le_trans (spL_le _ n at_ bit hd.1) hn) w hd (fun y W hy => sp_spec y n _ hd.1 hn at_ bit W hy) (fun y W hy => sp_impl y n _ hd.1 hn at_ bit W hy)
  · have hm := row_len hr
    unfold maxLen at hm
    have q0 : 1048576 < (n : Int) := by omega
    go_enter Try.func13, Try.ntmps13
    go_wp2_with fail
    go_ret
    exact ⟨rfl, Below.refl _ _⟩
end Go.Proofs.Ytmgldpiagclcnaa
