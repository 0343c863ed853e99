/- maps.DeleteFunc over a shelf, with what MinusStores asks. Written by hand after the library's worked texts. -/
import Derived.Test.YtdoelmjaongjfaaQaB
import Derived.Maps.OwnSet
import Derived.Test.YtdoelmjaongjfaaKeep
import Derived.Maps.RangeWalk
namespace Go.Proofs.Ytdoelmjaongjfaa
open Go.ChangeShapes Go.WideShapes Go.ChangeAt Go.RowKit
set_option linter.unusedVariables false
set_option linter.unusedSimpArgs false
def pick : List BlV → List Bool → List BlV
  | x :: xs, b :: bs => if b then x :: pick xs bs else pick xs bs
  | _, _ => []
theorem pick_snoc : ∀ (xs : List BlV) (bs : List Bool) (x : BlV) (b : Bool), bs.length = xs.length → pick (xs ++ [x]) (bs ++ [b]) = pick xs bs ++ (if b then [x] else [])
  | [], [], x, b, _ => by cases b <;> simp [pick]
  | _ :: _, [], _, _, h => by simp at h
  | [], _ :: _, _, _, h => by simp at h
  | a :: xs, c :: bs, x, b, h => by
    have := pick_snoc xs bs x b (by simpa using h)
    cases c <;> simp [pick, this]
theorem pick_len : ∀ (xs : List BlV) (bs : List Bool), (pick xs bs).length ≤ xs.length
  | [], _ => by simp [pick]
  | _ :: _, [] => by simp [pick]
  | a :: xs, c :: bs => by
    have := pick_len xs bs
    cases c <;> simp [pick] <;> omega
theorem pick_sub : ∀ (xs : List BlV) (bs : List Bool), (pick xs bs).Sublist xs
  | [], _ => by simp [pick]
  | _ :: _, [] => by simp [pick]
  | a :: xs, c :: bs => by
    have := pick_sub xs bs
    cases c
    · simpa [pick] using this.cons a
    · simpa [pick] using this.cons_cons a
def boolsA (l : List Bool) : Array Value := (l.map Value.bool).toArray
theorem boolsA_at (l : List Bool) (i : Nat) (b : Bool) (h : l[i]? = some b) : (boolsA l)[i]? = some (.bool b) := by simp [boolsA, h]
theorem sizeKeyP : (Try.prog.info? 46).map (·.size) = some 32 := by kernel_rfl
set_option maxRecDepth 100000 in
set_option maxHeartbeats 16000000 in
theorem keep_spec (X base lb : Nat) (v1o v2o : Value) (xs : List BlV) (yo : List Nat) (bl : List Bool) (hbl : bl.length = xs.length) (hx : xs.length ≤ 1048576) (w : World) (hop : OpenP w base X v1o v2o xs yo xs.length (xs.flatMap keyX)) (hlb : w.heap[lb]? = some (.cells (boolsA bl) 4)) :
    Calls Try.prog 78 #[.pointer (some ⟨X, 0, none⟩), .slice (some ⟨lb, 0, none⟩) xs.length xs.length] w fun e w' => e = .returned (.pointer (some ⟨w.heap.size, 0, none⟩)) ∧ (∃ v1 v2 ys, OpenP w' w.heap.size w.heap.size v1 v2 (pick xs bl) ys (pick xs bl).length ((pick xs bl).flatMap keyX)) ∧ Below w.heap.size w w' := by
  obtain ⟨i0, z0, hi0, hz0, hs0, hb0, hc0⟩ := blParts
  obtain ⟨i1, z1, hi1, hz1, hs1, hb1, hc1⟩ := keyParts2
  have HOP := Lib.hid hop
  obtain ⟨av, cv, hv1⟩ := hop.shape
  subst hv1
  have HOX := Lib.hid hop.box
  have HLB := Lib.hid hlb
  have HBL := Lib.hid hbl
  obtain ⟨ak, ck, hv2⟩ := keyOwn hop.row2
  subst hv2
  clear hop hlb hbl
  obtain ⟨n, hnn⟩ : ∃ n, xs.length = n := ⟨_, rfl⟩
  rw [hnn] at hx HOX ⊢
  have M0 := Lib.hid (OpenP.made w w.heap.size (Nat.le_refl _))
  have B0 := Lib.hid ((Below.refl w.heap.size w).alloc (Nat.le_refl _) (.cells #[.slice none 0 0, .slice none 0 0] 87))
  have z3 : (0 : Int) ≤ (n : Int) := by omega
  go_enter Try.func78, Try.ntmps78
  go_wp2_with fail
  generalize w.alloc (.cells #[.slice none 0 0, .slice none 0 0] 87) = w2 at M0 B0 ⊢
  have HBX := Lib.hid (Nat.le_refl w.heap.size)
  go_loopw [6] (fun i wr => ∃ k v1 v2 ys, k ≤ n ∧ i = .int .i64 ((k : Nat) : Int) ∧ Below w.heap.size w wr ∧ OpenP wr w.heap.size w.heap.size v1 v2 (pick (xs.take k) (bl.take k)) ys (pick (xs.take k) (bl.take k)).length ((pick (xs.take k) (bl.take k)).flatMap keyX)) (fun i _ => n - (intOf i).toNat)
  case atStart => exact ⟨0, _, _, _, by omega, rfl, B0.out, by simpa [pick] using M0.out⟩
  case round =>
    obtain ⟨k, v1, v2, ys, hk, rfl, hb, hop⟩ := hrel
    have B1 := Lib.hid hb
    have O1 := Lib.hid hop
    clear hb hop M0 B0
    by_cases hlt : k < n
    · have b0 : (0 : Int) ≤ (k : Int) := by omega
      have b1 : (k : Int) < (n : Int) := by omega
      obtain ⟨z, hzk⟩ : ∃ z, xs[k]? = some z := ⟨xs[k]'(by omega), List.getElem?_eq_getElem _⟩
      obtain ⟨b, hbk⟩ : ∃ b, bl[k]? = some b := ⟨bl[k]'(by have := HBL.out; omega), List.getElem?_eq_getElem _⟩
      have hq := cell_of_row _ lb k _ _ _ (keep_block HLB.out B1.out)
      rw [boolsA_at bl k b hbk] at hq
      have HPP : Hid (pick (xs.take (k + 1)) (bl.take (k + 1)) = pick (xs.take k) (bl.take k) ++ (if b then [z] else [])) := Lib.hid (by
        rw [List.take_add_one, List.take_add_one, hzk, hbk]
        exact pick_snoc _ _ z b (by rw [List.length_take, List.length_take, HBL.out]))
      have hpl := pick_len (xs.take k) (bl.take k)
      rw [List.length_take] at hpl
      obtain ⟨P, hP⟩ : ∃ P, pick (xs.take k) (bl.take k) = P := ⟨_, rfl⟩
      rw [hP] at O1 HPP hpl
      obtain ⟨c, hc⟩ : ∃ c, P.length = c := ⟨_, rfl⟩
      rw [hc] at O1 hpl
      have HPC := Lib.hid hc
      have hcn : c ≤ 1048576 := by omega
      clear hP hc hpl
      cases b with
      | true =>
        rw [if_pos rfl] at HPP
        obtain ⟨gb, cb, y, hvv, e0, e1, hy⟩ := HOP.out.blob hzk
        rw [hnn] at hvv
        cases hvv
        obtain ⟨kg, kc, hvk, hrg⟩ := HOP.out.anyKey hzk
        rw [hnn] at hvk
        cases hvk
        have DC := Lib.hid (fun U (hU : Below w.heap.size w U) => And.intro ((hU.cell (p := ⟨gb, k * 2, none⟩) (World.block_lt_of_cell? w _ e0)).trans e0) ((hU.cell (p := ⟨gb, k * 2 + 1, none⟩) (World.block_lt_of_cell? w _ e1)).trans e1))
        have DY := Lib.hid (fun U (hU : Below w.heap.size w U) => keep_block hy hU)
        obtain ⟨V, hV⟩ : ∃ V, keyX z = V := ⟨_, rfl⟩
        rw [hV] at hrg
        have RG := Lib.hid hrg
        have VL := Lib.hid (show V.length = 32 by rw [← hV]; exact (isK_keyX z).1)
        have HFP : Hid ((P ++ [z]).flatMap keyX = P.flatMap keyX ++ V) := Lib.hid (by rw [List.flatMap_append]; simp [hV])
        have HPL : Hid ((P ++ [z]).length = c + 1) := Lib.hid (by rw [List.length_append, HPC.out]; rfl)
        clear e0 e1 hy hzk hrg hV
        obtain ⟨xt, xa, xn, xc, xl⟩ := z
        dsimp only at DC DY
        go_upto_region 6 with fail
        clear hq
        go_cut [] (fun wx => ∃ u8, u8 = wx ∧ ∃ v1' ys', OpenP wx w.heap.size w.heap.size v1' v2 (P ++ [⟨xt, xa, xn, xc, xl⟩]) ys' c (P.flatMap keyX) ∧ Below w.heap.size w wx)
        case first =>
          have OD := Lib.hid (O1.out.below ((Below.refl _ _).drew))
          have BD := Lib.hid (B1.out.drew)
          refine wp_region_held_drew (S := fun U => Below w.heap.size w U) (by kernel_rfl) (BD.out) (fun hS => ?_)
          generalize wr.drew = WD at OD BD hS ⊢
          refine takeS (i := 0) (v := .pointer (some ⟨w.heap.size, 0, none⟩)) rfl rfl (by kernel_rfl) (by kernel_rfl) (by kernel_rfl) (fun _ _ _ h => h) (Or.inl ⟨by rfl, fun U hU => by go_simp⟩) hS ?_
          try simp only [List.setIfInBounds_toArray, List.set_cons_zero, List.set_cons_succ]
          refine takeS (i := 1) (v := .pointer (some ⟨w.heap.size, 0, none⟩)) rfl rfl (by kernel_rfl) (by kernel_rfl) (by kernel_rfl) (fun _ _ _ h => h) (Or.inl ⟨by rfl, fun U hU => by go_simp⟩) hS ?_
          try simp only [List.setIfInBounds_toArray, List.set_cons_zero, List.set_cons_succ]
          refine takeS (i := 2) (v := .pointer (some ⟨w.heap.size, 0, none⟩)) rfl rfl (by kernel_rfl) (by kernel_rfl) (by kernel_rfl) (fun _ _ _ h => h) (Or.inl ⟨by rfl, fun U hU => by go_simp⟩) hS ?_
          try simp only [List.setIfInBounds_toArray, List.set_cons_zero, List.set_cons_succ]
          refine takeS (i := 3) (v := .pointer (some ⟨w.heap.size, 0, none⟩)) rfl rfl (by kernel_rfl) (by kernel_rfl) (by kernel_rfl) (fun _ _ _ h => h) (Or.inl ⟨by rfl, fun U hU => by go_simp⟩) hS ?_
          try simp only [List.setIfInBounds_toArray, List.set_cons_zero, List.set_cons_succ]
          refine takeS (i := 5) (v := .pointer (some ⟨X, 0, none⟩)) rfl rfl (by kernel_rfl) (by kernel_rfl) (by kernel_rfl) (fun _ _ _ h => h) (Or.inl ⟨by rfl, fun U hU => by go_simp⟩) hS ?_
          try simp only [List.setIfInBounds_toArray, List.set_cons_zero, List.set_cons_succ]
          refine takeS (i := 6) (v := .pointer (some ⟨X, 0, none⟩)) rfl rfl (by kernel_rfl) (by kernel_rfl) (by kernel_rfl) (fun _ _ _ h => h) (Or.inl ⟨by rfl, fun U hU => by go_simp⟩) hS ?_
          try simp only [List.setIfInBounds_toArray, List.set_cons_zero, List.set_cons_succ]
          refine takeS (i := 7) (v := .pointer (some ⟨X, 0, none⟩)) rfl rfl (by kernel_rfl) (by kernel_rfl) (by kernel_rfl) (fun _ _ _ h => h) (Or.inl ⟨by rfl, fun U hU => by go_simp⟩) hS ?_
          try simp only [List.setIfInBounds_toArray, List.set_cons_zero, List.set_cons_succ]
          refine takeS (i := 8) (v := .slice (some ⟨gb, 0, none⟩) n cv) rfl rfl (by kernel_rfl) (by kernel_rfl) (by kernel_rfl) (fun _ _ _ h => h) (Or.inl ⟨by rfl, fun U hU => by have cu := cell_of_row _ X 0 _ _ _ (keep_block HOX.out hU); go_simp⟩) hS ?_
          try simp only [List.setIfInBounds_toArray, List.set_cons_zero, List.set_cons_succ]
          refine takeS (i := 9) (v := .int .i64 (k : Int)) rfl rfl (by kernel_rfl) (by kernel_rfl) (by kernel_rfl) (fun _ _ _ h => h) (Or.inl ⟨by rfl, fun U hU => by go_simp⟩) hS ?_
          try simp only [List.setIfInBounds_toArray, List.set_cons_zero, List.set_cons_succ]
          refine takeS (i := 10) (v := .pointer (some ⟨gb, k * 2, none⟩)) rfl rfl (by kernel_rfl) (by kernel_rfl) (by kernel_rfl) (fun _ _ _ h => h) (Or.inl ⟨by rfl, fun U hU => by go_simp⟩) hS ?_
          try simp only [List.setIfInBounds_toArray, List.set_cons_zero, List.set_cons_succ]
          refine takeS (i := 11) (v := .agg #[.int .u8 xt, .slice (some ⟨y, 0, none⟩) xn xn]) rfl rfl (by kernel_rfl) (by kernel_rfl) (by kernel_rfl) (fun _ _ _ h => h) (Or.inl ⟨by rfl, fun U hU => by obtain ⟨cu0, cu1⟩ := DC.out U hU; go_simp⟩) hS ?_
          try simp only [List.setIfInBounds_toArray, List.set_cons_zero, List.set_cons_succ]
          have OA := Lib.hid (OD.out.below ((Below.refl WD.heap.size WD).alloc (Nat.le_refl _) (.cells #[.int .u8 xt, .slice (some ⟨y, 0, none⟩) xn xn] 43)))
          have BA := Lib.hid (BD.out.alloc BD.out.size (.cells #[.int .u8 xt, .slice (some ⟨y, 0, none⟩) xn xn] 43))
          have RA := Lib.hid (show (WD.alloc (.cells #[.int .u8 xt, .slice (some ⟨y, 0, none⟩) xn xn] 43)).ownsRow w.heap.size 43 2 v1 c (blC P ys) from by have h := OA.out.row1; rw [HPC.out] at h; exact h)
          refine wpAnyH_ready (rs := [4, 12]) (by kernel_rfl) (by simp) ?_
          refine AllReadyH.cons rfl (fun KQ hK => ?_) (AllReadyH.cons rfl (fun KQ hK => ?_) AllReadyH.nil)
          · rw [if_pos (by rfl)]
            have cg := cell_of_row _ w.heap.size 0 _ _ _ OD.out.box
            go_simp
            refine hK.out _ _ hS (fun hS => ?_)
            clear hK cg
            refine wpAnyH_ready (rs := [12]) (by kernel_rfl) (by simp) ?_
            refine AllReadyH.cons rfl (fun KQ hK => ?_) AllReadyH.nil
            rw [if_pos (by rfl)]
            refine wp_buildSlice_oneS 27 43 _ rfl Try.underlying27 hi0 hz0 #[.int .u8 xt, .slice (some ⟨y, 0, none⟩) xn xn] rfl (by rw [hs0]; rfl) (by rw [hs0]; decide) (by rw [hs0]; decide) ?_
            simp only [Act.put]
            refine hK.out _ _ (BD.out.alloc BD.out.size _) (fun hS => ?_)
            clear hK
            refine wpAnyH_ready (rs := [13]) (by kernel_rfl) (by simp) ?_
            refine AllReadyH.cons rfl (fun KQ hK => ?_) AllReadyH.nil
            rw [if_pos (by rfl)]
            refine wp_append_own _ _ _ 27 rfl w.heap.size 43 i0 z0 2 32 Try.underlying27 hi0 hz0 hs0 hb0 hc0 (by decide) v1 c (blC P ys) rfl RA.out ⟨WD.heap.size, 0, none⟩ 1 1 [.int .u8 xt, .slice (some ⟨y, 0, none⟩) xn xn] rfl (by rfl) ?k1_1 ?k1_2 ?k1_3 ?k1_4 ?k1_5 ?_
            case k1_1 =>
              intro p u hu
              rw [addr_add, Nat.zero_add, cell_of_row _ WD.heap.size p _ _ _ (heap_alloc_last WD (.cells #[.int .u8 xt, .slice (some ⟨y, 0, none⟩) xn xn] 43)), ← hu]
              simp [ints]
            case k1_2 => intro u hu; simp at hu; rcases hu with rfl | rfl <;> rfl
            case k1_3 => unfold maxLen; omega
            case k1_4 => omega
            case k1_5 => have := BD.out.size; simp; omega
            intro v4 w4 hown4 hgrow4 hnil4
            obtain ⟨g4, c4, rfl⟩ := rowSucc hown4
            have hyd := DY.out WD BD.out
            obtain ⟨hX4, hO4⟩ := OA.out.app1 (x := ⟨xt, xa, xn, xc, xl⟩) hgrow4 (by rw [HPC.out]; exact hown4) (keep_block hyd ((Below.refl _ _).alloc (Nat.le_refl _) _))
            have X4 := Lib.hid hX4
            have O4 := Lib.hid hO4
            have B4 := Lib.hid (BA.out.grown hgrow4 BA.out.size (fun q hq => (OA.out.row1.lt q hq).1))
            clear hX4 hO4 hown4 hgrow4 hnil4
            refine hK.out _ _ (B4.out) (fun hS => ?_)
            clear hK
            refine takeS (i := 14) (v := .pointer (some ⟨w.heap.size, 0, none⟩)) rfl rfl (by kernel_rfl) (by kernel_rfl) (by kernel_rfl) (fun _ _ _ h => h) (Or.inl ⟨by rfl, fun U hU => by go_simp⟩) hS ?_
            try simp only [List.setIfInBounds_toArray, List.set_cons_zero, List.set_cons_succ]
            refine takeS (i := 15) (v := .pointer (some ⟨w.heap.size, 0, none⟩)) rfl rfl (by kernel_rfl) (by kernel_rfl) (by kernel_rfl) (fun _ _ _ h => h) (Or.inl ⟨by rfl, fun U hU => by go_simp⟩) hS ?_
            try simp only [List.setIfInBounds_toArray, List.set_cons_zero, List.set_cons_succ]
            refine wpAnyH_ready (rs := [16]) (by kernel_rfl) (by simp) ?_
            refine AllReadyH.cons rfl (fun KQ hK => ?_) AllReadyH.nil
            rw [if_pos (by rfl)]
            have cg := cell_of_row w4 w.heap.size 0 _ _ _ X4.out
            have cf := frozen_of_row w4 w.heap.size 0 _ _ X4.out
            go_simp
            refine hK.out _ _ (B4.out.setCell (p := ⟨w.heap.size, 0, none⟩) HBX.out _) (fun hS => ?_)
            clear hK cg cf
            refine wpAnyH_done (by kernel_rfl) ?_ _
            go_wp2_with fail
            go_meet
            exact ⟨_, rfl, _, ys ++ [y], O4.out, hS⟩
          · rw [if_pos (by rfl)]
            refine wp_buildSlice_oneS 27 43 _ rfl Try.underlying27 hi0 hz0 #[.int .u8 xt, .slice (some ⟨y, 0, none⟩) xn xn] rfl (by rw [hs0]; rfl) (by rw [hs0]; decide) (by rw [hs0]; decide) ?_
            simp only [Act.put]
            refine hK.out _ _ (BD.out.alloc BD.out.size _) (fun hS => ?_)
            clear hK
            refine wpAnyH_ready (rs := [4]) (by kernel_rfl) (by simp) ?_
            refine AllReadyH.cons rfl (fun KQ hK => ?_) AllReadyH.nil
            rw [if_pos (by rfl)]
            have cg := cell_of_row _ w.heap.size 0 _ _ _ OA.out.box
            go_simp
            refine hK.out _ _ hS (fun hS => ?_)
            clear hK cg
            refine wpAnyH_ready (rs := [13]) (by kernel_rfl) (by simp) ?_
            refine AllReadyH.cons rfl (fun KQ hK => ?_) AllReadyH.nil
            rw [if_pos (by rfl)]
            refine wp_append_own _ _ _ 27 rfl w.heap.size 43 i0 z0 2 32 Try.underlying27 hi0 hz0 hs0 hb0 hc0 (by decide) v1 c (blC P ys) rfl RA.out ⟨WD.heap.size, 0, none⟩ 1 1 [.int .u8 xt, .slice (some ⟨y, 0, none⟩) xn xn] rfl (by rfl) ?k2_1 ?k2_2 ?k2_3 ?k2_4 ?k2_5 ?_
            case k2_1 =>
              intro p u hu
              rw [addr_add, Nat.zero_add, cell_of_row _ WD.heap.size p _ _ _ (heap_alloc_last WD (.cells #[.int .u8 xt, .slice (some ⟨y, 0, none⟩) xn xn] 43)), ← hu]
              simp [ints]
            case k2_2 => intro u hu; simp at hu; rcases hu with rfl | rfl <;> rfl
            case k2_3 => unfold maxLen; omega
            case k2_4 => omega
            case k2_5 => have := BD.out.size; simp; omega
            intro v4 w4 hown4 hgrow4 hnil4
            obtain ⟨g4, c4, rfl⟩ := rowSucc hown4
            have hyd := DY.out WD BD.out
            obtain ⟨hX4, hO4⟩ := OA.out.app1 (x := ⟨xt, xa, xn, xc, xl⟩) hgrow4 (by rw [HPC.out]; exact hown4) (keep_block hyd ((Below.refl _ _).alloc (Nat.le_refl _) _))
            have X4 := Lib.hid hX4
            have O4 := Lib.hid hO4
            have B4 := Lib.hid (BA.out.grown hgrow4 BA.out.size (fun q hq => (OA.out.row1.lt q hq).1))
            clear hX4 hO4 hown4 hgrow4 hnil4
            refine hK.out _ _ (B4.out) (fun hS => ?_)
            clear hK
            refine takeS (i := 14) (v := .pointer (some ⟨w.heap.size, 0, none⟩)) rfl rfl (by kernel_rfl) (by kernel_rfl) (by kernel_rfl) (fun _ _ _ h => h) (Or.inl ⟨by rfl, fun U hU => by go_simp⟩) hS ?_
            try simp only [List.setIfInBounds_toArray, List.set_cons_zero, List.set_cons_succ]
            refine takeS (i := 15) (v := .pointer (some ⟨w.heap.size, 0, none⟩)) rfl rfl (by kernel_rfl) (by kernel_rfl) (by kernel_rfl) (fun _ _ _ h => h) (Or.inl ⟨by rfl, fun U hU => by go_simp⟩) hS ?_
            try simp only [List.setIfInBounds_toArray, List.set_cons_zero, List.set_cons_succ]
            refine wpAnyH_ready (rs := [16]) (by kernel_rfl) (by simp) ?_
            refine AllReadyH.cons rfl (fun KQ hK => ?_) AllReadyH.nil
            rw [if_pos (by rfl)]
            have cg := cell_of_row w4 w.heap.size 0 _ _ _ X4.out
            have cf := frozen_of_row w4 w.heap.size 0 _ _ X4.out
            go_simp
            refine hK.out _ _ (B4.out.setCell (p := ⟨w.heap.size, 0, none⟩) HBX.out _) (fun hS => ?_)
            clear hK cg cf
            refine wpAnyH_done (by kernel_rfl) ?_ _
            go_wp2_with fail
            go_meet
            exact ⟨_, rfl, _, ys ++ [y], O4.out, hS⟩
        case rest =>
          obtain ⟨w8, rfl, v1', ys', hO, hB8⟩ := hcut
          have O8 := Lib.hid hO
          have B8 := Lib.hid hB8
          clear hO hB8 O1 B1
          go_upto_region 7 with fail
          have OD := Lib.hid (O8.out.below ((Below.refl _ _).drew))
          have BD := Lib.hid (B8.out.drew)
          refine wp_region_held_drew (S := fun U => Below w.heap.size w U) (by kernel_rfl) (BD.out) (fun hS => ?_)
          generalize w8.drew = WD at OD BD hS ⊢
          refine takeS (i := 0) (v := .pointer (some ⟨w.heap.size, 0, none⟩)) rfl rfl (by kernel_rfl) (by kernel_rfl) (by kernel_rfl) (fun _ _ _ h => h) (Or.inl ⟨by rfl, fun U hU => by go_simp⟩) hS ?_
          try simp only [List.setIfInBounds_toArray, List.set_cons_zero, List.set_cons_succ]
          refine takeS (i := 1) (v := .pointer (some ⟨w.heap.size, 0, none⟩)) rfl rfl (by kernel_rfl) (by kernel_rfl) (by kernel_rfl) (fun _ _ _ h => h) (Or.inl ⟨by rfl, fun U hU => by go_simp⟩) hS ?_
          try simp only [List.setIfInBounds_toArray, List.set_cons_zero, List.set_cons_succ]
          refine takeS (i := 2) (v := .pointer (some ⟨w.heap.size, 0, none⟩)) rfl rfl (by kernel_rfl) (by kernel_rfl) (by kernel_rfl) (fun _ _ _ h => h) (Or.inl ⟨by rfl, fun U hU => by go_simp⟩) hS ?_
          try simp only [List.setIfInBounds_toArray, List.set_cons_zero, List.set_cons_succ]
          refine takeS (i := 3) (v := .pointer (some ⟨w.heap.size, 1, none⟩)) rfl rfl (by kernel_rfl) (by kernel_rfl) (by kernel_rfl) (fun _ _ _ h => h) (Or.inl ⟨by rfl, fun U hU => by go_simp⟩) hS ?_
          try simp only [List.setIfInBounds_toArray, List.set_cons_zero, List.set_cons_succ]
          refine takeS (i := 5) (v := .pointer (some ⟨X, 0, none⟩)) rfl rfl (by kernel_rfl) (by kernel_rfl) (by kernel_rfl) (fun _ _ _ h => h) (Or.inl ⟨by rfl, fun U hU => by go_simp⟩) hS ?_
          try simp only [List.setIfInBounds_toArray, List.set_cons_zero, List.set_cons_succ]
          refine takeS (i := 6) (v := .pointer (some ⟨X, 0, none⟩)) rfl rfl (by kernel_rfl) (by kernel_rfl) (by kernel_rfl) (fun _ _ _ h => h) (Or.inl ⟨by rfl, fun U hU => by go_simp⟩) hS ?_
          try simp only [List.setIfInBounds_toArray, List.set_cons_zero, List.set_cons_succ]
          refine takeS (i := 7) (v := .pointer (some ⟨X, 1, none⟩)) rfl rfl (by kernel_rfl) (by kernel_rfl) (by kernel_rfl) (fun _ _ _ h => h) (Or.inl ⟨by rfl, fun U hU => by go_simp⟩) hS ?_
          try simp only [List.setIfInBounds_toArray, List.set_cons_zero, List.set_cons_succ]
          refine takeS (i := 8) (v := .slice (some ⟨kg, 0, none⟩) n ck) rfl rfl (by kernel_rfl) (by kernel_rfl) (by kernel_rfl) (fun _ _ _ h => h) (Or.inl ⟨by rfl, fun U hU => by have cu := cell_of_row _ X 1 _ _ _ (keep_block HOX.out hU); go_simp⟩) hS ?_
          try simp only [List.setIfInBounds_toArray, List.set_cons_zero, List.set_cons_succ]
          refine takeS (i := 9) (v := .int .i64 (k : Int)) rfl rfl (by kernel_rfl) (by kernel_rfl) (by kernel_rfl) (fun _ _ _ h => h) (Or.inl ⟨by rfl, fun U hU => by go_simp⟩) hS ?_
          try simp only [List.setIfInBounds_toArray, List.set_cons_zero, List.set_cons_succ]
          refine takeS (i := 10) (v := .pointer (some ⟨kg, k * 32, none⟩)) rfl rfl (by kernel_rfl) (by kernel_rfl) (by kernel_rfl) (fun _ _ _ h => h) (Or.inl ⟨by rfl, fun U hU => by go_simp⟩) hS ?_
          try simp only [List.setIfInBounds_toArray, List.set_cons_zero, List.set_cons_succ]
          refine takeS (i := 11) (v := .agg (ints .u8 V)) rfl rfl (by kernel_rfl) (by kernel_rfl) (by kernel_rfl) (fun _ _ _ h => h) (yields_range (by rfl) 46 _ rfl kg (k * 32) rfl .u8 V _ (fun U hU => RG.out U hU) Try.underlying46 rfl (by rw [VL.out]; exact sizeKey)) hS ?_
          try simp only [List.setIfInBounds_toArray, List.set_cons_zero, List.set_cons_succ]
          have OA := Lib.hid (OD.out.below ((Below.refl WD.heap.size WD).alloc (Nat.le_refl _) (.cells (ints .u8 V) 46)))
          have BA := Lib.hid (BD.out.alloc BD.out.size (.cells (ints .u8 V) 46))
          refine wpAnyH_ready (rs := [4, 12]) (by kernel_rfl) (by simp) ?_
          refine AllReadyH.cons rfl (fun KQ hK => ?_) (AllReadyH.cons rfl (fun KQ hK => ?_) AllReadyH.nil)
          · rw [if_pos (by rfl)]
            have cg := cell_of_row _ w.heap.size 1 _ _ _ OD.out.box
            go_simp
            refine hK.out _ _ hS (fun hS => ?_)
            clear hK cg
            refine wpAnyH_ready (rs := [12]) (by kernel_rfl) (by simp) ?_
            refine AllReadyH.cons rfl (fun KQ hK => ?_) AllReadyH.nil
            rw [if_pos (by rfl)]
            refine wp_buildSlice_oneS 34 46 _ rfl Try.underlying34 hi1 hz1 (ints .u8 V) rfl (by rw [hs1, ints_size, VL.out]) (by rw [hs1]; decide) (by rw [hs1]; decide) ?_
            simp only [Act.put]
            refine hK.out _ _ (BD.out.alloc BD.out.size _) (fun hS => ?_)
            clear hK
            refine wpAnyH_ready (rs := [13]) (by kernel_rfl) (by simp) ?_
            refine AllReadyH.cons rfl (fun KQ hK => ?_) AllReadyH.nil
            rw [if_pos (by rfl)]
            refine wp_append_own _ _ _ 34 rfl w.heap.size 46 i1 z1 32 32 Try.underlying34 hi1 hz1 hs1 hb1 hc1 (by decide) v2 c ((P.flatMap keyX).map (Value.int .u8)) rfl OA.out.row2 ⟨WD.heap.size, 0, none⟩ 1 1 (V.map (Value.int .u8)) rfl (by rw [List.length_map, VL.out]) ?k3_1 ?k3_2 ?k3_3 ?k3_4 ?k3_5 ?_
            case k3_1 =>
              intro p u hu
              rw [addr_add, Nat.zero_add, cell_of_row _ WD.heap.size p _ _ _ (heap_alloc_last WD (.cells (ints .u8 V) 46)), ← hu]
              simp [ints]
            case k3_2 => intro u hu; obtain ⟨z, _, rfl⟩ := List.mem_map.1 hu; rfl
            case k3_3 => unfold maxLen; omega
            case k3_4 => omega
            case k3_5 => have := BD.out.size; simp; omega
            intro v4 w4 hown4 hgrow4 hnil4
            obtain ⟨g4, c4, rfl⟩ := rowSucc hown4
            obtain ⟨hX4, hO4⟩ := OA.out.app2 (k := V) hgrow4 hown4
            have X4 := Lib.hid hX4
            have O4 := Lib.hid hO4
            have B4 := Lib.hid (BA.out.grown hgrow4 BA.out.size (fun q hq => (OA.out.row2.lt q hq).1))
            clear hX4 hO4 hown4 hgrow4 hnil4
            refine hK.out _ _ (B4.out) (fun hS => ?_)
            clear hK
            refine takeS (i := 14) (v := .pointer (some ⟨w.heap.size, 0, none⟩)) rfl rfl (by kernel_rfl) (by kernel_rfl) (by kernel_rfl) (fun _ _ _ h => h) (Or.inl ⟨by rfl, fun U hU => by go_simp⟩) hS ?_
            try simp only [List.setIfInBounds_toArray, List.set_cons_zero, List.set_cons_succ]
            refine takeS (i := 15) (v := .pointer (some ⟨w.heap.size, 1, none⟩)) rfl rfl (by kernel_rfl) (by kernel_rfl) (by kernel_rfl) (fun _ _ _ h => h) (Or.inl ⟨by rfl, fun U hU => by go_simp⟩) hS ?_
            try simp only [List.setIfInBounds_toArray, List.set_cons_zero, List.set_cons_succ]
            refine wpAnyH_ready (rs := [16]) (by kernel_rfl) (by simp) ?_
            refine AllReadyH.cons rfl (fun KQ hK => ?_) AllReadyH.nil
            rw [if_pos (by rfl)]
            have cg := cell_of_row w4 w.heap.size 1 _ _ _ X4.out
            have cf := frozen_of_row w4 w.heap.size 1 _ _ X4.out
            go_simp
            refine hK.out _ _ (B4.out.setCell (p := ⟨w.heap.size, 1, none⟩) HBX.out _) (fun hS => ?_)
            clear hK cg cf
            refine wpAnyH_done (by kernel_rfl) ?_ _
            have O9 := Lib.hid O4.out
            have B9 := Lib.hid hS
            clear hS O4
            go_wp2_with fail
            go_roundw
            case rel => exact ⟨k + 1, _, _, _, by omega, by go_num, B9.out, by rw [HPP.out, HFP.out, HPL.out]; exact O9.out⟩
            case measure => simp [intOf]; omega
          · rw [if_pos (by rfl)]
            refine wp_buildSlice_oneS 34 46 _ rfl Try.underlying34 hi1 hz1 (ints .u8 V) rfl (by rw [hs1, ints_size, VL.out]) (by rw [hs1]; decide) (by rw [hs1]; decide) ?_
            simp only [Act.put]
            refine hK.out _ _ (BD.out.alloc BD.out.size _) (fun hS => ?_)
            clear hK
            refine wpAnyH_ready (rs := [4]) (by kernel_rfl) (by simp) ?_
            refine AllReadyH.cons rfl (fun KQ hK => ?_) AllReadyH.nil
            rw [if_pos (by rfl)]
            have cg := cell_of_row _ w.heap.size 1 _ _ _ OA.out.box
            go_simp
            refine hK.out _ _ hS (fun hS => ?_)
            clear hK cg
            refine wpAnyH_ready (rs := [13]) (by kernel_rfl) (by simp) ?_
            refine AllReadyH.cons rfl (fun KQ hK => ?_) AllReadyH.nil
            rw [if_pos (by rfl)]
            refine wp_append_own _ _ _ 34 rfl w.heap.size 46 i1 z1 32 32 Try.underlying34 hi1 hz1 hs1 hb1 hc1 (by decide) v2 c ((P.flatMap keyX).map (Value.int .u8)) rfl OA.out.row2 ⟨WD.heap.size, 0, none⟩ 1 1 (V.map (Value.int .u8)) rfl (by rw [List.length_map, VL.out]) ?k4_1 ?k4_2 ?k4_3 ?k4_4 ?k4_5 ?_
            case k4_1 =>
              intro p u hu
              rw [addr_add, Nat.zero_add, cell_of_row _ WD.heap.size p _ _ _ (heap_alloc_last WD (.cells (ints .u8 V) 46)), ← hu]
              simp [ints]
            case k4_2 => intro u hu; obtain ⟨z, _, rfl⟩ := List.mem_map.1 hu; rfl
            case k4_3 => unfold maxLen; omega
            case k4_4 => omega
            case k4_5 => have := BD.out.size; simp; omega
            intro v4 w4 hown4 hgrow4 hnil4
            obtain ⟨g4, c4, rfl⟩ := rowSucc hown4
            obtain ⟨hX4, hO4⟩ := OA.out.app2 (k := V) hgrow4 hown4
            have X4 := Lib.hid hX4
            have O4 := Lib.hid hO4
            have B4 := Lib.hid (BA.out.grown hgrow4 BA.out.size (fun q hq => (OA.out.row2.lt q hq).1))
            clear hX4 hO4 hown4 hgrow4 hnil4
            refine hK.out _ _ (B4.out) (fun hS => ?_)
            clear hK
            refine takeS (i := 14) (v := .pointer (some ⟨w.heap.size, 0, none⟩)) rfl rfl (by kernel_rfl) (by kernel_rfl) (by kernel_rfl) (fun _ _ _ h => h) (Or.inl ⟨by rfl, fun U hU => by go_simp⟩) hS ?_
            try simp only [List.setIfInBounds_toArray, List.set_cons_zero, List.set_cons_succ]
            refine takeS (i := 15) (v := .pointer (some ⟨w.heap.size, 1, none⟩)) rfl rfl (by kernel_rfl) (by kernel_rfl) (by kernel_rfl) (fun _ _ _ h => h) (Or.inl ⟨by rfl, fun U hU => by go_simp⟩) hS ?_
            try simp only [List.setIfInBounds_toArray, List.set_cons_zero, List.set_cons_succ]
            refine wpAnyH_ready (rs := [16]) (by kernel_rfl) (by simp) ?_
            refine AllReadyH.cons rfl (fun KQ hK => ?_) AllReadyH.nil
            rw [if_pos (by rfl)]
            have cg := cell_of_row w4 w.heap.size 1 _ _ _ X4.out
            have cf := frozen_of_row w4 w.heap.size 1 _ _ X4.out
            go_simp
            refine hK.out _ _ (B4.out.setCell (p := ⟨w.heap.size, 1, none⟩) HBX.out _) (fun hS => ?_)
            clear hK cg cf
            refine wpAnyH_done (by kernel_rfl) ?_ _
            have O9 := Lib.hid O4.out
            have B9 := Lib.hid hS
            clear hS O4
            go_wp2_with fail
            go_roundw
            case rel => exact ⟨k + 1, _, _, _, by omega, by go_num, B9.out, by rw [HPP.out, HFP.out, HPL.out]; exact O9.out⟩
            case measure => simp [intOf]; omega
      | false =>
        rw [if_neg (by decide), List.append_nil] at HPP
        go_wp2_with fail
        go_roundw
        case rel => exact ⟨k + 1, _, _, _, by omega, by go_num, B1.out, by rw [HPP.out, HPC.out]; exact O1.out⟩
        case measure => simp [intOf]; omega
    · obtain rfl : k = n := by omega
      have e1 : xs.take k = xs := List.take_of_length_le (by omega)
      have e2 : bl.take k = bl := List.take_of_length_le (by have := HBL.out; omega)
      rw [e1, e2] at O1
      go_wp2_with fail
      go_ret
      exact ⟨rfl, ⟨_, _, _, O1.out⟩, B1.out⟩
end Go.Proofs.Ytdoelmjaongjfaa
namespace Go.Proofs.Ytdoelmjaongjfaa
open Go.ChangeShapes Go.WideShapes Go.ChangeAt Go.RowKit
set_option linter.unusedVariables false
set_option linter.unusedSimpArgs false
open Classical in
/-- The blobs that DropBlob leaves, and its code. -/
noncomputable def dbL (bs : List BlV) (key : List Int) : List BlV := if stP bs ∧ ∃ x ∈ bs, keyX x = key then bs.filter (fun x => decide (keyX x ≠ key)) else []
open Classical in
noncomputable def dbC (bs : List BlV) (key : List Int) : Int := if stP bs then (if ∃ x ∈ bs, keyX x = key then 0 else 6) else 1
theorem dbL_yes {bs : List BlV} {key : List Int} (h : stP bs) (h2 : ∃ x ∈ bs, keyX x = key) : dbL bs key = bs.filter (fun x => decide (keyX x ≠ key)) := by unfold dbL; exact if_pos ⟨h, h2⟩
theorem dbL_none {bs : List BlV} {key : List Int} (h : ¬ ∃ x ∈ bs, keyX x = key) : dbL bs key = [] := by unfold dbL; exact if_neg (fun q => h q.2)
theorem dbL_no {bs : List BlV} {key : List Int} (h : ¬ stP bs) : dbL bs key = [] := by unfold dbL; exact if_neg (fun q => h q.1)
theorem dbC_yes {bs : List BlV} {key : List Int} (h : stP bs) (h2 : ∃ x ∈ bs, keyX x = key) : dbC bs key = 0 := by unfold dbC; rw [if_pos h, if_pos h2]
theorem dbC_none {bs : List BlV} {key : List Int} (h : stP bs) (h2 : ¬ ∃ x ∈ bs, keyX x = key) : dbC bs key = 6 := by unfold dbC; rw [if_pos h, if_neg h2]
theorem dbC_no {bs : List BlV} {key : List Int} (h : ¬ stP bs) : dbC bs key = 1 := by unfold dbC; exact if_neg h
theorem pick_map (f : BlV → Bool) : ∀ xs : List BlV, pick xs (xs.map f) = xs.filter f
  | [] => rfl
  | x :: r => by
    have := pick_map f r
    cases h : f x <;> simp [pick, h, this]
theorem dbL_sub (bs : List BlV) (key : List Int) : (dbL bs key).Sublist bs := by
  unfold dbL
  split
  · exact List.filter_sublist
  · exact List.nil_sublist _
theorem dbL_small {bs : List BlV} {key : List Int} {n : Nat} (hl : bs.length = n) (hn : n ≤ 1048576) : (dbL bs key).length ≤ 1048576 := by
  have := (dbL_sub bs key).length_le
  omega
theorem dbL_fine {bs : List BlV} {key : List Int} (hf : ∀ (i : Nat) (x : BlV), bs[i]? = some x → BlG x) : ∀ (i : Nat) (z : BlV), (dbL bs key)[i]? = some z → z.l.length = z.n ∧ z.n ≤ 1048576 := fun i z hz => by
  obtain ⟨j, hj⟩ := List.getElem?_of_mem ((dbL_sub bs key).subset (List.mem_of_getElem? hz))
  exact ⟨(hf j z hj).1.2.1, (hf j z hj).1.1⟩
theorem boolInfo : (Try.prog.info? 4).map (fun i => (i.zero, i.size, i.bytes)) = some (some (.bool false), 1, 1) := by kernel_rfl
theorem run_make_bools (n : Nat) (hn : n ≤ 1048576) (w : World) : ∃ cs : Array Value, cs.size = n ∧
    (Instr.makeSlice 103 (.int .i64 (n : Int)) (.int .i64 (n : Int))).run Try.prog w = .ok (.slice (some ⟨w.heap.size, 0, none⟩) n n) (w.alloc (.cells cs 4)) := by
  obtain ⟨i, hi, hzz⟩ := Option.map_eq_some_iff.1 boolInfo
  simp only [Prod.mk.injEq] at hzz
  obtain ⟨hz, hs, hb⟩ := hzz
  have := run_make w 103 4 i (.bool false) Try.underlying103 hi hz .i64 .i64 (n : Int) (n : Int) (by omega) (by omega) (by rw [hb]; omega) (by omega)
  refine ⟨_, ?_, this⟩
  rw [size_madeCells, hs]
  simp
theorem bools_all {cs : Array Value} {bl : List Bool} (hs : cs.size = bl.length) (h : ∀ (i : Nat) (b : Bool), bl[i]? = some b → cs[i]? = some (.bool b)) : cs = boolsA bl := by
  apply Array.ext_getElem?
  intro i
  by_cases hi : i < bl.length
  · rw [h i bl[i] (List.getElem?_eq_getElem hi), boolsA_at bl i bl[i] (List.getElem?_eq_getElem hi)]
  · rw [Array.getElem?_eq_none (by omega), Array.getElem?_eq_none (by simp [boolsA]; omega)]
theorem OpenP.setBool {w : World} {base X lb k : Nat} {v1 v2 u : Value} {xs : List BlV} {ys : List Nat} {kn : Nat} {fl : List Int} {c : Array Value} (h : OpenP w base X v1 v2 xs ys kn fl) (hb : w.heap[lb]? = some (.cells c 4)) : OpenP (w.setCell ⟨lb, k, none⟩ u) base X v1 v2 xs ys kn fl := by
  refine h.grown (grown_setCell _ lb k _) (fun e => ?_) (Or.inr (row_ne h.row1 hb (by decide))) (Or.inr (row_ne h.row2 hb (by decide))) (fun y c2 e hy => ?_)
  · cases e
    rw [h.box] at hb
    injection hb with e1
    injection e1 with _ e2
    exact absurd e2 (by decide)
  · cases e
    rw [hb] at hy
    injection hy with e1
    injection e1 with _ e2
    exact absurd e2 (by decide)
theorem bools_step {c : Array Value} {bl : List Bool} {k n : Nat} {b : Bool} (hcl : Hid (∀ (j : Nat) (b : Bool), j < k → bl[j]? = some b → c[j]? = some (.bool b))) (hk : k < n) (hc : c.size = n) (hb : bl[k]? = some b) : Hid (∀ (j : Nat) (b' : Bool), j < k + 1 → bl[j]? = some b' → (c.setIfInBounds k (.bool b))[j]? = some (.bool b')) := Lib.hid (fun j b2 hj hb2 => by
  by_cases hjk : j = k
  · subst hjk
    rw [hb] at hb2
    cases hb2
    exact Array.getElem?_setIfInBounds_self_of_lt (by omega)
  · rw [Array.getElem?_setIfInBounds_ne (fun e => hjk e.symm)]
    exact hcl.out j b2 (by omega) hb2)
theorem st_box {w : World} {g : Nat} {u a : Value} {T : TypeId} (h : w.heap[g]? = some (.cells #[u] T)) : (w.setCell ⟨g, 0, none⟩ a).heap[g]? = some (.cells #[a] T) := heap_setCell_same _ g 0 _ _ _ h
def GrR (L : List BlV) (c : Int) (w : World) (e : Ending) (w' : World) : Prop := ∃ v us, e = .returned (.tuple #[.agg #[v], .int .i64 c]) ∧ GrS w' w.heap.size v L us ∧ Below w.heap.size w w'
theorem GrS.mono {w : World} {base base' : Nat} {v : Value} {xs : List BlV} {us : List (Option Addr × Nat)} (h : GrS w base v xs us) (hb : base' ≤ base) : GrS w base' v xs us := ⟨h.len, row_mono h.row hb, h.data⟩
/-- What a walk that ends with a store in its box returns. -/
theorem GrR.of {L : List BlV} {c : Int} {w w1 : World} {g base : Nat} {u v : Value} {us : List (Option Addr × Nat)} (hg : w1.heap[g]? = some (.cells #[u] 29)) (hlo : w.heap.size ≤ g) (hlb : w.heap.size ≤ base) (hb : Below w.heap.size w w1) (hO : GrS w1 base v L us) : GrR L c w (.returned (.tuple #[.agg #[v], .int .i64 c])) (w1.setCell ⟨g, 0, none⟩ v) :=
  ⟨v, us, rfl, (hO.mono hlb).setBox hg v, hb.setCell (p := ⟨g, 0, none⟩) hlo v⟩
theorem sizeSt : (Try.prog.info? 29).map (·.size) = some 1 := by kernel_rfl
theorem st_far {bs : List BlV} (h : stP bs) {i j : Nat} {x y : BlV} (hx : bs[i]? = some x) (hy : bs[j]? = some y) (hij : i ≠ j) : keyX x ≠ keyX y := by
  intro e
  have hp := stP_asc h.2.2
  obtain ⟨hi1, hi2⟩ := List.getElem?_eq_some_iff.1 hx
  obtain ⟨hj1, hj2⟩ := List.getElem?_eq_some_iff.1 hy
  rcases Nat.lt_or_gt_of_ne hij with h1 | h1
  · have := (List.pairwise_iff_getElem.1 hp) i j hi1 hj1 h1
    rw [hi2, hj2, e, cmpI_refl] at this
    omega
  · have := (List.pairwise_iff_getElem.1 hp) j i hj1 hi1 h1
    rw [hi2, hj2, e, cmpI_refl] at this
    omega
set_option maxRecDepth 100000 in
set_option maxHeartbeats 8000000 in
theorem db_spec (g n : Nat) (bs : List BlV) (key : List Int) (hkey : IsK key) (hn : n ≤ 1048576) (hl : bs.length = n) (hf : ∀ (i : Nat) (x : BlV), bs[i]? = some x → BlG x) (w : World) (ha : OutB w g n n bs) :
    Calls Try.prog 39 #[.agg #[.slice (some ⟨g, 0, none⟩) n n], .agg (ints .u8 key)] w (GrR (dbL bs key) (dbC bs key) w) := by
  have BX : Below w.heap.size w (((w.alloc (.cells #[.slice (some ⟨g, 0, none⟩) n n] 29)).alloc (.cells (ints .u8 key) 46)).alloc (.cells #[.slice none 0 0] 29)) := by go_grown
  have A0 : (((w.alloc (.cells #[.slice (some ⟨g, 0, none⟩) n n] 29)).alloc (.cells (ints .u8 key) 46)).alloc (.cells #[.slice none 0 0] 29)).heap[w.heap.size]? = some (.cells #[.slice (some ⟨g, 0, none⟩) n n] 29) := heap3_0 w _ _ _
  have A1 : (((w.alloc (.cells #[.slice (some ⟨g, 0, none⟩) n n] 29)).alloc (.cells (ints .u8 key) 46)).alloc (.cells #[.slice none 0 0] 29)).heap[w.heap.size + 1]? = some (.cells (ints .u8 key) 46) := heap3_1 w _ _ _
  have A2 : (((w.alloc (.cells #[.slice (some ⟨g, 0, none⟩) n n] 29)).alloc (.cells (ints .u8 key) 46)).alloc (.cells #[.slice none 0 0] 29)).heap[w.heap.size + 1 + 1]? = some (.cells #[.slice none 0 0] 29) := heap3_2 w _ _ _
  obtain ⟨w0, hw0⟩ : ∃ w0, ((w.alloc (.cells #[.slice (some ⟨g, 0, none⟩) n n] 29)).alloc (.cells (ints .u8 key) 46)).alloc (.cells #[.slice none 0 0] 29) = w0 := ⟨_, rfl⟩
  rw [hw0] at BX A0 A1 A2
  have HO := Lib.hid (open_spec w.heap.size g n bs hn hl hf w0 A0 (ha.below BX))
  have HB := Lib.hid BX
  have H1 := Lib.hid A1
  have H2 := Lib.hid A2
  have HK := Lib.hid hkey
  have HL := Lib.hid hl
  have HF := Lib.hid hf
  clear ha hf hl A0 A1 A2 hkey BX
  go_enter Try.func39, Try.ntmps39
  go_wp2_with fail
  refine HO.out.mono ?_
  rintro e w1 ⟨h, hb⟩
  have B1 := Lib.hid (HB.out.trans (hb.mono HB.out.size))
  have K1 := Lib.hid (keep_block H1.out hb)
  have G1 := Lib.hid (keep_block H2.out hb)
  clear hb HO HB H1 H2 hw0
  rcases h with ⟨hP, rfl, v1, v2, ys, hop⟩ | ⟨hP, rfl⟩
  · have HP := Lib.hid hP
    have OP := Lib.hid hop
    clear hP hop
    go_upto_region 4 with fail
    have hfd := Lib.hid (find_spec w0.heap.size w0.heap.size v1 v2 bs ys key HK.out (by have := HL.out; omega) w1 OP.out)
    go_upto_region 5 with (first
      | (refine wpList_load_row rfl 46 _ rfl (w.heap.size + 1) rfl 46 (ints .u8 key) (0, 0) _ K1.out Try.underlying46 rfl (by rw [ints_size, HK.out.1]; exact sizeKey) ?_)
      | (go_at_call 64; refine hfd.out.mono ?_; rintro e w2 ⟨r, rfl, hr, hb⟩))
    have B2 := Lib.hid (below_call B1.out B1.out.size hb)
    have G2 := Lib.hid (keep_block G1.out hb)
    have P2 := Lib.hid (OP.out.below hb)
    clear hb B1 G1 K1 OP hfd
    rcases hr with ⟨at_, x, hx, hkx, rfl⟩ | ⟨hno, rfl⟩
    · have hE : ∃ x ∈ bs, keyX x = key := ⟨x, List.mem_of_getElem? hx, hkx⟩
      have HC := Lib.hid (dbC_yes HP.out hE)
      have HDL := Lib.hid (dbL_yes HP.out hE)
      obtain ⟨bl, hbl⟩ : ∃ bl, bs.map (fun x => decide (keyX x ≠ key)) = bl := ⟨_, rfl⟩
      have BLL := Lib.hid (show bl.length = n by rw [← hbl, List.length_map]; exact HL.out)
      have BLA : Hid (∀ (i : Nat) (b : Bool), bl[i]? = some b → b = decide (i ≠ at_)) := Lib.hid (fun i b hb2 => by
        rw [← hbl, List.getElem?_map] at hb2
        obtain ⟨z, hz, rfl⟩ := Option.map_eq_some_iff.1 hb2
        by_cases hia : i = at_
        · subst hia
          rw [hx] at hz
          cases hz
          simp [hkx]
        · have := st_far HP.out hz hx hia
          rw [hkx] at this
          simp [hia, this])
      have BLP := Lib.hid (show pick bs bl = dbL bs key by rw [HDL.out, ← hbl]; exact pick_map _ _)
      have hi : at_ < n := by have h1 := (List.getElem?_eq_some_iff.1 hx).1; have h2 := HL.out; omega
      obtain ⟨a1, c1, rfl⟩ := P2.out.shape
      obtain ⟨a2, c2, rfl⟩ := keyOwn P2.out.row2
      have qx := cell_of_row _ _ 1 _ _ _ P2.out.box
      rw [HL.out] at qx
      clear hx hkx hbl
      have b2 : ¬ (at_ : Int) < 0 := by omega
      have z1 : (0 : Int) ≤ (n : Int) := by omega
      obtain ⟨cs, hcs, hmk⟩ := run_make_bools n hn w2
      have HCS := Lib.hid hcs
      go_upto_region 8 with fail
      go_wp2_with fail
      clear qx hmk
      have L3 := (Below.refl w2.heap.size w2).alloc (Nat.le_refl _) (.cells cs 4)
      have B3 := Lib.hid (below_call B2.out B2.out.size L3)
      have G3 := Lib.hid (keep_block G2.out L3)
      have P3 := Lib.hid (P2.out.below L3)
      have X3 := Lib.hid (heap_alloc_last w2 (.cells cs 4))
      have S3 := Lib.hid (show w.heap.size ≤ w2.heap.size from B2.out.size)
      have N3 := Lib.hid (show w.heap.size + 1 + 1 < w2.heap.size from (Array.getElem?_eq_some_iff.1 G2.out).1)
      generalize w2.alloc (.cells cs 4) = w3 at L3 B3 G3 P3 X3 ⊢
      generalize w2.heap.size = lb at L3 X3 S3 N3 ⊢
      clear L3 B2 G2 P2
      have z2 : (n : Int) ≤ 1048576 := by omega
      go_loopw [10] (fun i wr => ∃ (k : Nat) (c : Array Value), k ≤ n ∧ i = .int .i64 (k : Int) ∧ Below w.heap.size w wr ∧ wr.heap[w.heap.size + 1 + 1]? = some (.cells #[.slice none 0 0] 29) ∧ OpenP wr w0.heap.size w0.heap.size (.slice a1 bs.length c1) (.slice a2 bs.length c2) bs ys bs.length (bs.flatMap keyX) ∧ wr.heap[lb]? = some (.cells c 4) ∧ c.size = n ∧ Hid (∀ (j : Nat) (b : Bool), j < k → bl[j]? = some b → c[j]? = some (.bool b))) (fun i _ => n - (intOf i).toNat)
      case atStart => exact ⟨0, cs, by omega, rfl, B3.out, G3.out, P3.out, X3.out, HCS.out, Lib.hid (fun j b hj => by omega)⟩
      case round =>
        obtain ⟨k, c, hk, rfl, hb, hg, hop, hx, hcz, hcl⟩ := hrel
        have B4 := Lib.hid hb
        have G4 := Lib.hid hg
        have P4 := Lib.hid hop
        have X4 := Lib.hid hx
        have C4 := Lib.hid hcz
        clear hb hg hop hx hcz B3 G3 P3 X3
        by_cases hlt : k < n
        · have b0 : (0 : Int) ≤ (k : Int) := by omega
          have b1 : (k : Int) < (n : Int) := by omega
          obtain ⟨b, hbk⟩ : ∃ b, bl[k]? = some b := ⟨bl[k]'(by have := BLL.out; omega), List.getElem?_eq_getElem _⟩
          have hb3 := BLA.out k b hbk
          have hkc : k < c.size := by have := C4.out; omega
          have d0 := cell_of_row _ lb k _ _ _ X4.out
          rw [Array.getElem?_eq_getElem hkc] at d0
          have f0 := frozen_of_row _ lb k _ _ X4.out
          have hne : b = ((k : Int) != (at_ : Int)) := by
            rw [hb3]
            by_cases e : k = at_
            · subst e
              simp
            · have e2 : (k : Int) ≠ (at_ : Int) := fun h => e (by omega)
              rw [bne_iff_ne.2 e2]
              exact decide_eq_true e
          rw [hne] at hbk
          have HBK := Lib.hid hbk
          generalize c[k] = vv at d0
          clear hbk hb3 hkc hne
          go_wp2_with fail
          go_roundw
          case rel => exact ⟨k + 1, _, by omega, by go_num, B4.out.setCell (p := ⟨lb, k, none⟩) S3.out _, (heap_setCell_other _ _ _ _ (by have := N3.out; simp; omega)).trans G4.out, P4.out.setBool X4.out, heap_setCell_same _ _ _ _ _ _ X4.out, by rw [Array.size_setIfInBounds]; exact C4.out, bools_step hcl hlt C4.out HBK.out⟩
          case measure => simp [intOf]; omega
        · obtain rfl : k = n := by omega
          have hcb : c = boolsA bl := bools_all (by rw [C4.out, BLL.out]) (fun j b hb2 => hcl.out j b (by have := (List.getElem?_eq_some_iff.1 hb2).1; have := BLL.out; omega) hb2)
          subst hcb
          have HKS := Lib.hid (keep_spec w0.heap.size w0.heap.size lb _ _ bs ys bl (by rw [BLL.out, HL.out]) (by have := HL.out; omega) wr P4.out X4.out)
          rw [HL.out] at HKS
          rw [BLP.out] at HKS
          go_wp2_with fail
          refine HKS.out.mono ?_
          rintro e w5 ⟨rfl, ⟨u1, u2, yn, hopn⟩, hb⟩
          have B5 := Lib.hid (below_call B4.out B4.out.size hb)
          have G5 := Lib.hid (keep_block G4.out hb)
          have HSS := Lib.hid (store_spec _ _ u1 u2 _ yn _ _ (dbL_small HL.out hn) (dbL_fine HF.out) w5 hopn)
          clear hb hopn HKS
          go_wp2_with fail
          refine HSS.out.mono ?_
          rintro e w6 ⟨v, us, rfl, hG, hb⟩
          have B6 := Lib.hid (below_call B5.out B5.out.size hb)
          have G6 := Lib.hid (keep_block G5.out hb)
          have H6 := Lib.hid hG
          have SZ := Lib.hid B5.out.size
          clear hb hG HSS
          have c0 := cell_of_row _ _ 0 _ _ _ G6.out
          have f0 := frozen_of_row _ _ 0 _ _ G6.out
          obtain ⟨a6, c6, rfl, -⟩ := H6.out.rd
          go_wp2_with fail
          refine bodyPost_ret (results_cell2_row rfl _ _ (w.heap.size + 1 + 1) 29 #[_] (0, 0) _ rfl (st_box G6.out) Try.underlying29 rfl sizeSt) rfl ?_
          rw [HC.out]
          exact GrR.of G6.out (by omega) SZ.out B6.out H6.out
    · have hE : ¬ ∃ x ∈ bs, keyX x = key := fun ⟨x, hx, hk⟩ => by
        obtain ⟨i, hi⟩ := List.getElem?_of_mem hx
        exact hno i x hi hk
      have q0 := cell_of_row w2 (w.heap.size + 1 + 1) 0 _ _ _ G2.out
      have f0 := frozen_of_row w2 (w.heap.size + 1 + 1) 0 _ _ G2.out
      go_wp2_with fail
      refine bodyPost_ret (results_cell2_row rfl _ _ (w.heap.size + 1 + 1) 29 #[_] (0, 0) _ rfl (st_box G2.out) Try.underlying29 rfl sizeSt) rfl ?_
      rw [dbC_none HP.out hE, dbL_none hE]
      exact GrR.of G2.out (by omega) (Nat.le_refl _) B2.out (GrS.nil _ _)
  · have HP := Lib.hid hP
    clear hP
    have q0 := cell_of_row w1 (w.heap.size + 1 + 1) 0 _ _ _ G1.out
    have f0 := frozen_of_row w1 (w.heap.size + 1 + 1) 0 _ _ G1.out
    go_wp2_with fail
    refine bodyPost_ret (results_cell2_row rfl _ _ (w.heap.size + 1 + 1) 29 #[_] (0, 0) _ rfl (st_box G1.out) Try.underlying29 rfl sizeSt) rfl ?_
    rw [dbC_no HP.out, dbL_no HP.out]
    exact GrR.of G1.out (by omega) (Nat.le_refl _) B1.out (GrS.nil _ _)
end Go.Proofs.Ytdoelmjaongjfaa
namespace Go.Proofs.Ytdoelmjaongjfaa
open Go.ChangeShapes Go.WideShapes Go.ChangeAt Go.RowKit
set_option linter.unusedVariables false
set_option linter.unusedSimpArgs false
section
variable {P : Program} {ops : Array Oper} {rest : List Oper} {o : Oper} {a : Act} {w : World} {Q : Exit → Act → World → Prop}
theorem wpList_delK {K U t e : TypeId} (hg : o.guard = none) (m x : Operand) (hop : o.op = Op.call { callee := Callee.builtin Builtin.delete, args := #[m, x], argTypes := #[t, K] })
    (T : KeyTy P K U) (ht : P.underlying t = some (.map K e)) (b : Nat) (ps : List (List Int × Value)) (hm : a.eval m = .map (some b)) (h : KMap P K w b ps) (k : List Int) (hk : IsK k) (hx : a.eval x = kv k)
    (hK : ∀ w', KMap P K w' b (delK ps k) → w.grownBy w' (some b) → w'.heap.size = w.heap.size → wpList P ops Q rest (a.put o.dst (.tuple #[])) w') :
    wpList P ops Q (o :: rest) a w := by
  refine wpList_plain hg fun K' hK' => ?_
  obtain ⟨w', hrun, r1, r2, r3⟩ := h.del T ht hk o.type
  unfold Oper.wp
  simp [execOp, hop, resolve, invoke, builtin, hm, hx, hrun, Result.andThen]
  exact hK' _ _ (hK w' r1 r2 r3)
end
theorem rel_filter {α β : Type} {R : α → β → Prop} {f : α → Bool} {g : β → Bool} (hfg : ∀ a b, R a b → f a = g b) : ∀ (ls : List α) (bs : List β), ls.length = bs.length → (∀ (i : Nat) (a : α) (b : β), ls[i]? = some a → bs[i]? = some b → R a b) → (ls.filter f).length = (bs.filter g).length ∧ ∀ (i : Nat) (a : α) (b : β), (ls.filter f)[i]? = some a → (bs.filter g)[i]? = some b → R a b
  | [], [], _, _ => ⟨rfl, fun i a b h => by simp at h⟩
  | [], _ :: _, h, _ => by simp at h
  | _ :: _, [], h, _ => by simp at h
  | a :: ls, b :: bs, hl, hr => by
    have h0 := hr 0 a b rfl rfl
    have ih := rel_filter hfg ls bs (by simpa using hl) (fun i x y hx hy => hr (i + 1) x y (by simpa using hx) (by simpa using hy))
    have e := hfg a b h0
    cases hf : f a with
    | false =>
      rw [hf] at e
      rw [List.filter_cons_of_neg (by simp [hf]), List.filter_cons_of_neg (by simp [← e])]
      exact ih
    | true =>
      rw [hf] at e
      rw [List.filter_cons_of_pos hf, List.filter_cons_of_pos e.symm]
      refine ⟨by simp [ih.1], fun i x y hx hy => ?_⟩
      cases i with
      | zero => simp at hx hy; subst hx; subst hy; exact h0
      | succ i => exact ih.2 i x y (by simpa using hx) (by simpa using hy)
/-- A shelf without a key. -/
theorem ShelfAt.del {w w1 : World} {m : Nat} {xs : List BlV} {ps : List (List Int × Value)} {key : List Int} (hK : KMap Try.prog 46 w m ps) (hl : ps.length = xs.length) (hr : ∀ (i : Nat) (p : List Int × Value) (x : BlV), ps[i]? = some p → xs[i]? = some x → p.1 = keyX x ∧ BlHere w p.2 x) (hK1 : KMap Try.prog 46 w1 m (delK ps key)) (hg : w.grownBy w1 (some m)) : ShelfAt w1 m (xs.filter (fun x => decide (keyX x ≠ key))) := by
  have h := rel_filter (R := fun (p : List Int × Value) (x : BlV) => p.1 = keyX x ∧ BlHere w p.2 x) (f := fun p => !(p.1 == key)) (g := fun x => decide (keyX x ≠ key)) (fun p x hpx => by rw [hpx.1]; by_cases e : keyX x = key <;> simp [e]) ps xs hl hr
  exact ⟨_, hK1, h.1, fun i p x hp hx => ⟨(h.2 i p x hp hx).1, (h.2 i p x hp hx).2.turned hK hg⟩⟩
open Classical in
set_option maxRecDepth 100000 in
set_option maxHeartbeats 4000000 in
theorem has_impl (m : Nat) (xs : List BlV) (key : List Int) (hkey : IsK key) (w : World) (hsh : ShelfAt w m xs) :
    Calls Try.prog 80 #[.map (some m), .agg (ints .u8 key)] w fun e w' => e = .returned (.bool (decide (∃ x ∈ xs, keyX x = key))) ∧ Below w.heap.size w w' := by
  have L1 := (Below.refl w.heap.size w).alloc (Nat.le_refl _) (.cells (ints .u8 key) 46)
  have B1 := Lib.hid L1
  have S1 := Lib.hid (hsh.below L1)
  have H1 := Lib.hid (heap_alloc_last w (.cells (ints .u8 key) 46))
  have HK := Lib.hid hkey
  clear hsh hkey L1
  obtain ⟨w1, hw1⟩ : ∃ w1, w.alloc (.cells (ints .u8 key) 46) = w1 := ⟨_, rfl⟩
  rw [hw1] at B1 S1 H1
  obtain ⟨ps, hK, hlen, hps⟩ := S1.out
  have ha := hK.apart kty
  have hlk := hK.look true kty shelfTy (zeroBl w1) HK.out
  by_cases hx : ∃ x ∈ xs, keyX x = key
  · rw [decide_eq_true hx]
    obtain ⟨x, hxm, hkx⟩ := hx
    obtain ⟨i, hi⟩ := List.getElem?_of_mem hxm
    have hlt := (List.getElem?_eq_some_iff.1 hi).1
    obtain ⟨p, hp⟩ : ∃ p, ps[i]? = some p := ⟨ps[i]'(by omega), List.getElem?_eq_getElem (by omega)⟩
    obtain ⟨hp1, y, hp2, -⟩ := hps i p x hp hi
    obtain ⟨pk, pv⟩ := p
    dsimp only at hp1 hp2
    subst hp2
    have hgk : getK ps key = some (blV x y) := getK_at ha (by rw [← hkx, ← hp1]; exact List.mem_of_getElem? hp)
    rw [hgk] at hlk
    replace hlk : (Instr.lookup 80 (.map (some m)) (.agg (ints .u8 key)) true).run Try.prog w1 = .ok (.tuple #[.agg #[.int .u8 x.t, .slice (some ⟨y, 0, none⟩) x.n x.n], .bool true]) w1 := hlk
    have HB2 := Lib.hid ((Below.refl w.heap.size w).trans (B1.out.trans (((Below.refl w1.heap.size w1).alloc (Nat.le_refl _) (.cells #[.int .u8 x.t, .slice (some ⟨y, 0, none⟩) x.n x.n] 43)).mono B1.out.size)))
    clear hgk hp hp1 hps ha hK hlen hi hlt hxm
    go_enter Try.func80, Try.ntmps80
    go_wp2_with (refine wpList_load_row rfl 46 _ rfl w.heap.size rfl 46 (ints .u8 key) (0, 0) _ H1.out Try.underlying46 rfl (by rw [ints_size, HK.out.1]; exact sizeKey) ?_)
    go_ret
    exact ⟨rfl, HB2.out⟩
  · rw [decide_eq_false hx]
    have hgk : getK ps key = none := getK_none.2 (fun p hp e => by
      obtain ⟨x, hxm, e2, _⟩ := shelf_mem hlen hps hp
      exact hx ⟨x, hxm, e2.symm.trans e⟩)
    rw [hgk] at hlk
    replace hlk : (Instr.lookup 80 (.map (some m)) (.agg (ints .u8 key)) true).run Try.prog w1 = .ok (.tuple #[.agg #[.int .u8 0, .slice none 0 0], .bool false]) w1 := hlk
    have HB2 := Lib.hid (B1.out.trans (((Below.refl w1.heap.size w1).alloc (Nat.le_refl _) (.cells #[.int .u8 0, .slice none 0 0] 43)).mono B1.out.size))
    clear hgk hps ha hK hlen hx
    go_enter Try.func80, Try.ntmps80
    go_wp2_with (refine wpList_load_row rfl 46 _ rfl w.heap.size rfl 46 (ints .u8 key) (0, 0) _ H1.out Try.underlying46 rfl (by rw [ints_size, HK.out.1]; exact sizeKey) ?_)
    go_ret
    exact ⟨rfl, HB2.out⟩
theorem OwnS.putBox {w w1 : World} {g base : Nat} {u v : Value} {xs : List BlV} {ys : List Nat} (hO : OwnS w1 base v xs ys) (hg : w1.heap[g]? = some (.cells #[u] 29)) (hlb : w.heap.size ≤ base) : OwnS (w1.setCell ⟨g, 0, none⟩ v) w.heap.size v xs ys := (hO.mono hlb).setBox hg v
def OwR (L : List BlV) (c : Int) (w : World) (e : Ending) (w' : World) : Prop := ∃ v ys, e = .returned (.tuple #[.agg #[v], .int .i64 c]) ∧ OwnS w' w.heap.size v L ys ∧ Below w.heap.size w w'
theorem OwR.of {L : List BlV} {c : Int} {w w1 : World} {g base : Nat} {u v : Value} {ys : List Nat} (hg : w1.heap[g]? = some (.cells #[u] 29)) (hlo : w.heap.size ≤ g) (hlb : w.heap.size ≤ base) (hb : Below w.heap.size w w1) (hO : OwnS w1 base v L ys) : OwR L c w (.returned (.tuple #[.agg #[v], .int .i64 c])) (w1.setCell ⟨g, 0, none⟩ v) :=
  ⟨v, ys, rfl, hO.putBox hg hlb, hb.setCell (p := ⟨g, 0, none⟩) hlo v⟩
theorem st_sub {bs L : List BlV} (h : stP bs) (hs : L.Sublist bs) : L.map keyK = sortK (L.map keyK) := (sortK_asc (List.pairwise_map.2 ((stP_asc h.2.2).sublist hs))).symm
set_option maxRecDepth 100000 in
set_option maxHeartbeats 8000000 in
theorem db_impl (g n : Nat) (bs : List BlV) (key : List Int) (hkey : IsK key) (hn : n ≤ 1048576) (hl : bs.length = n) (hf : ∀ (i : Nat) (x : BlV), bs[i]? = some x → BlG x) (w : World) (ha : OutB w g n n bs) :
    Calls Try.prog 40 #[.agg #[.slice (some ⟨g, 0, none⟩) n n], .agg (ints .u8 key)] w (OwR (dbL bs key) (dbC bs key) w) := by
  have BX : Below w.heap.size w (((w.alloc (.cells #[.slice (some ⟨g, 0, none⟩) n n] 29)).alloc (.cells (ints .u8 key) 46)).alloc (.cells #[.slice none 0 0] 29)) := by go_grown
  have A0 : (((w.alloc (.cells #[.slice (some ⟨g, 0, none⟩) n n] 29)).alloc (.cells (ints .u8 key) 46)).alloc (.cells #[.slice none 0 0] 29)).heap[w.heap.size]? = some (.cells #[.slice (some ⟨g, 0, none⟩) n n] 29) := heap3_0 w _ _ _
  have A1 : (((w.alloc (.cells #[.slice (some ⟨g, 0, none⟩) n n] 29)).alloc (.cells (ints .u8 key) 46)).alloc (.cells #[.slice none 0 0] 29)).heap[w.heap.size + 1]? = some (.cells (ints .u8 key) 46) := heap3_1 w _ _ _
  have A2 : (((w.alloc (.cells #[.slice (some ⟨g, 0, none⟩) n n] 29)).alloc (.cells (ints .u8 key) 46)).alloc (.cells #[.slice none 0 0] 29)).heap[w.heap.size + 1 + 1]? = some (.cells #[.slice none 0 0] 29) := heap3_2 w _ _ _
  obtain ⟨w0, hw0⟩ : ∃ w0, ((w.alloc (.cells #[.slice (some ⟨g, 0, none⟩) n n] 29)).alloc (.cells (ints .u8 key) 46)).alloc (.cells #[.slice none 0 0] 29) = w0 := ⟨_, rfl⟩
  rw [hw0] at BX A0 A1 A2
  have HO := Lib.hid (sof_impl g n bs hn hl hf w0 (ha.below BX))
  have HB := Lib.hid BX
  have H0 := Lib.hid A0
  have H1 := Lib.hid A1
  have H2 := Lib.hid A2
  have HK := Lib.hid hkey
  have HL := Lib.hid hl
  have HF := Lib.hid hf
  clear ha hf hl A0 A1 A2 hkey BX
  go_enter Try.func40, Try.ntmps40
  go_upto_region 1 with fail
  have qs := cell_of_row _ w.heap.size 0 _ _ _ H0.out
  go_wp2_with fail
  clear qs
  refine HO.out.mono ?_
  rintro e w1 ⟨h, hb⟩
  have B1 := Lib.hid (HB.out.trans (hb.mono HB.out.size))
  have K1 := Lib.hid (keep_block H1.out hb)
  have G1 := Lib.hid (keep_block H2.out hb)
  have S0 := Lib.hid HB.out.size
  clear hb HO HB H0 H1 H2 hw0
  rcases h with ⟨hP, m, rfl, hm0, hsh⟩ | ⟨hP, rfl⟩
  · have HP := Lib.hid hP
    have HM0 := Lib.hid hm0
    have SH := Lib.hid hsh
    have hhs := Lib.hid (has_impl m bs key HK.out w1 hsh)
    clear hP hsh hm0
    by_cases hx : ∃ x ∈ bs, keyX x = key
    · have HC := Lib.hid (dbC_yes HP.out hx)
      have HDL := Lib.hid (dbL_yes HP.out hx)
      have hhs2 : Hid (Calls Try.prog 80 #[.map (some m), .agg (ints .u8 key)] w1 fun e w' => e = .returned (.bool true) ∧ Below w1.heap.size w1 w') := Lib.hid (hhs.out.mono fun e w' h => ⟨h.1.trans (by rw [decide_eq_true hx]), h.2⟩)
      clear hhs hx
      go_upto_region 4 with fail
      go_upto_region 6 with (first
        | (refine wpList_load_row rfl 46 _ rfl (w.heap.size + 1) rfl 46 (ints .u8 key) (0, 0) _ K1.out Try.underlying46 rfl (by rw [ints_size, HK.out.1]; exact sizeKey) ?_)
        | (go_at_call 80; refine hhs2.out.mono ?_; rintro e w2 ⟨rfl, hb⟩))
      have B2 := Lib.hid (below_call B1.out B1.out.size hb)
      have K2 := Lib.hid (keep_block K1.out hb)
      have G2 := Lib.hid (keep_block G1.out hb)
      have S2 := Lib.hid (SH.out.below hb)
      clear hb hhs2 B1 K1 G1 SH
      obtain ⟨ps, hKM, hlen, hps⟩ := S2.out
      have KM := Lib.hid hKM
      have KL := Lib.hid hlen
      have KP := Lib.hid hps
      clear hKM hlen hps
      go_upto_region 7 with (first
        | (refine wpList_load_row rfl 46 _ rfl (w.heap.size + 1) rfl 46 (ints .u8 key) (0, 0) _ K2.out Try.underlying46 rfl (by rw [ints_size, HK.out.1]; exact sizeKey) ?_)
        | (refine wpList_delK rfl _ _ rfl kty shelfTy m ps rfl KM.out key HK.out rfl ?_; intro w3 hK3 hg3 hz3))
      have S3 := Lib.hid (ShelfAt.del KM.out KL.out KP.out hK3 hg3)
      have hmm : w.heap.size ≤ m := by have := HM0.out; have := S0.out; omega
      have B3 := Lib.hid (B2.out.grown hg3 B2.out.size (fun q hq => by cases hq; exact hmm))
      have G3 : Hid (w3.heap[w.heap.size + 1 + 1]? = some (.cells #[.slice none 0 0] 29)) := Lib.hid ((hg3.block _ (Array.getElem?_eq_some_iff.1 G2.out).1 (fun e => by
        obtain ⟨es, clock, hb, _⟩ := KM.out
        cases e
        have := G2.out
        rw [hb] at this
        cases this)).trans G2.out)
      have HST := Lib.hid (store_impl m _ _ (by have := (dbL_sub bs key).length_le; rw [HDL.out] at this; have := HL.out; omega) (st_sub HP.out List.filter_sublist) (fun z hz => hz) (fun z hz => by
        obtain ⟨j, hj⟩ := List.getElem?_of_mem (List.mem_filter.1 hz).1
        exact ⟨(HF.out j z hj).1.2.1, (HF.out j z hj).1.1⟩) w3 S3.out)
      rw [← HDL.out] at HST
      clear hK3 hg3 hz3 S3 KM KL KP S2 K2 G2 B2
      go_wp2_with fail
      refine HST.out.mono ?_
      rintro e w6 ⟨v, ys, rfl, hG, hb⟩
      have B6 := Lib.hid (below_call B3.out B3.out.size hb)
      have G6 := Lib.hid (keep_block G3.out hb)
      have H6 := Lib.hid hG
      have SZ := Lib.hid B3.out.size
      clear hb hG HST
      have c0 := cell_of_row _ _ 0 _ _ _ G6.out
      have f0 := frozen_of_row _ _ 0 _ _ G6.out
      obtain ⟨a6, c6, rfl, -⟩ := H6.out.shape
      go_wp2_with fail
      refine bodyPost_ret (results_cell2_row rfl _ _ (w.heap.size + 1 + 1) 29 #[_] (0, 0) _ rfl (st_box G6.out) Try.underlying29 rfl sizeSt) rfl ?_
      rw [HC.out]
      exact OwR.of G6.out (by omega) SZ.out B6.out H6.out
    · have HC := Lib.hid (dbC_none HP.out hx)
      have HDL := Lib.hid (dbL_none hx)
      have hhs2 : Hid (Calls Try.prog 80 #[.map (some m), .agg (ints .u8 key)] w1 fun e w' => e = .returned (.bool false) ∧ Below w1.heap.size w1 w') := Lib.hid (hhs.out.mono fun e w' h => ⟨h.1.trans (by rw [decide_eq_false hx]), h.2⟩)
      clear hhs hx
      go_upto_region 4 with fail
      go_upto_region 5 with (first
        | (refine wpList_load_row rfl 46 _ rfl (w.heap.size + 1) rfl 46 (ints .u8 key) (0, 0) _ K1.out Try.underlying46 rfl (by rw [ints_size, HK.out.1]; exact sizeKey) ?_)
        | (go_at_call 80; refine hhs2.out.mono ?_; rintro e w2 ⟨rfl, hb⟩))
      have B2 := Lib.hid (below_call B1.out B1.out.size hb)
      have G2 := Lib.hid (keep_block G1.out hb)
      clear hb hhs2 B1 G1
      have q0 := cell_of_row w2 (w.heap.size + 1 + 1) 0 _ _ _ G2.out
      have f0 := frozen_of_row w2 (w.heap.size + 1 + 1) 0 _ _ G2.out
      go_wp2_with fail
      refine bodyPost_ret (results_cell2_row rfl _ _ (w.heap.size + 1 + 1) 29 #[_] (0, 0) _ rfl (st_box G2.out) Try.underlying29 rfl sizeSt) rfl ?_
      rw [HC.out, HDL.out]
      exact OwR.of G2.out (by omega) (Nat.le_refl _) B2.out (OwnS.nil _ _)
  · have HP := Lib.hid hP
    clear hP
    have q0 := cell_of_row w1 (w.heap.size + 1 + 1) 0 _ _ _ G1.out
    have f0 := frozen_of_row w1 (w.heap.size + 1 + 1) 0 _ _ G1.out
    go_wp2_with fail
    refine bodyPost_ret (results_cell2_row rfl _ _ (w.heap.size + 1 + 1) 29 #[_] (0, 0) _ rfl (st_box G1.out) Try.underlying29 rfl sizeSt) rfl ?_
    rw [dbC_no HP.out, dbL_no HP.out]
    exact OwR.of G1.out (by omega) (Nat.le_refl _) B1.out (OwnS.nil _ _)
end Go.Proofs.Ytdoelmjaongjfaa
namespace Go.Proofs.Ytdoelmjaongjfaa
open Go.ChangeShapes Go.WideShapes Go.ChangeAt Go.RowKit
set_option linter.unusedVariables false
set_option linter.unusedSimpArgs false
theorem GrS.shape {w : World} {base n : Nat} {v : Value} {xs : List BlV} {us : List (Option Addr × Nat)} (h : GrS w base v xs us) (hn : xs.length = n) : ∃ a cap, v = .slice a n cap ∧ GrS w base (.slice a n cap) xs us := by
  obtain ⟨a, cap, rfl, -⟩ := h.rd
  rw [hn] at h
  exact ⟨a, cap, by rw [hn], h⟩
theorem GrS.rdN {w : World} {base n cap : Nat} {a : Option Addr} {xs : List BlV} {us : List (Option Addr × Nat)} (h : GrS w base (.slice a n cap) xs us) : BlRd w a xs := by
  obtain ⟨a', cap', hv, hr⟩ := h.rd
  cases hv
  exact hr
theorem OwnS.shapeN {w : World} {base n : Nat} {v : Value} {xs : List BlV} {ys : List Nat} (h : OwnS w base v xs ys) (hn : xs.length = n) : ∃ a cap, v = .slice a n cap ∧ OwnS w base (.slice a n cap) xs ys := by
  obtain ⟨a, cap, rfl, h2⟩ := h.shape
  rw [hn] at h2
  exact ⟨a, cap, by rw [hn], h2⟩
theorem OwnS.rdN {w : World} {base n cap : Nat} {a : Option Addr} {xs : List BlV} {ys : List Nat} (h : OwnS w base (.slice a n cap) xs ys) (hn : xs.length = n) (hf : ∀ (i : Nat) (x : BlV), xs[i]? = some x → x.l.length = x.n) : BlRd w a xs := by
  subst hn
  exact h.rd hf
theorem OwnS.keepX {w w' : World} {base : Nat} {v : Value} {X : Nat → Prop} {xs : List BlV} {ys : List Nat} (h : OwnS w base v xs ys) (hx : ∀ k, X k → k < base) (k : Keep w.heap.size X w w') : OwnS w' base v xs ys := by
  refine ⟨h.len, ⟨h.row.1, ?_⟩, h.lo, fun i x y hxx hy => k.hold (fun hX => by have := hx y hX; have := h.lo i y hy; omega) (h.data i x y hxx hy), h.nod⟩
  rcases h.row.2 with h0 | ⟨c, cap, cur, hv, hc, hh, r⟩
  · exact Or.inl h0
  · exact Or.inr ⟨c, cap, cur, hv, hc, k.hold (g := c) (fun h => by have := hx c h; omega) hh, r⟩
theorem szS_sub {L bs : List BlV} (h : L.Sublist bs) : szS L ≤ szS bs := by
  induction h with
  | slnil => exact Nat.le_refl _
  | cons a _ ih => simp only [szS, List.map_cons, List.sum_cons] at *; omega
  | cons_cons a _ ih => simp only [szS, List.map_cons, List.sum_cons] at *; omega
end Go.Proofs.Ytdoelmjaongjfaa
namespace Go.Proofs.Ytdoelmjaongjfaa
open Go.ChangeShapes Go.WideShapes Go.ChangeAt Go.RowKit
set_option linter.unusedVariables false
set_option linter.unusedSimpArgs false
section
variable {P : Program} {K U : TypeId} {w : World} {b n : Nat} {qs : List (List Int × Value)}
/-- Whatever reads a block that is such a map reads its keys and values. -/
theorem KMap.reads (T : KeyTy P K U) (h : KMap P K w b qs) {D : DataW Value} (ho : w.ownsMap P K hR b n D) : (∀ kl, Maps.has D kl = true → ∃ p ∈ qs, keyOf P K (kv p.1) = some kl) ∧ (∀ p ∈ qs, ∀ kl, keyOf P K (kv p.1) = some kl → ∀ zd, D.atKey kl zd = .held p.2) := by
  obtain ⟨D', ⟨es, clock, hb, _, _, rfl⟩, _, h1, h2⟩ := h.owns T
  obtain ⟨es2, clock2, hb2, _, _, rfl⟩ := ho
  rw [hb] at hb2
  cases hb2
  exact ⟨h1, h2⟩
variable {ops : Array Oper} {rest : List Oper} {o : Oper} {a : Act} {Q : Exit → Act → World → Prop} {t e : TypeId}
theorem wpList_delKR (hg : o.guard = none) (m x : Operand) (hop : o.op = Op.call { callee := Callee.builtin Builtin.delete, args := #[m, x], argTypes := #[t, K] })
    (T : KeyTy P K U) (ht : P.underlying t = some (.map K e)) (b r n : Nat) (D : DataW Value) (left : Lit → Bool) (cnt : Nat) (qs : List (List Int × Value)) (hm : a.eval m = .map (some b)) (hr : w.ranges P K hR b r n D left cnt) (h : KMap P K w b qs) (k : List Int) (kl : Lit) (hk : IsK k) (hkl : keyOf P K (kv k) = some kl) (hx : a.eval x = kv k)
    (hK : ∀ w' cnt', w'.ranges P K hR b r n (D.del kl) (fun z => left z && !z.sameKey kl) cnt' → cnt' ≤ cnt → KMap P K w' b (delK qs k) → w.grownBy w' (some b) → w'.heap.size = w.heap.size → wpList P ops Q rest (a.put o.dst (.tuple #[])) w') :
    wpList P ops Q (o :: rest) a w := by
  refine wpList_plain hg fun K' hK' => ?_
  obtain ⟨w', hrun, r1, r2, r3⟩ := h.del T ht hk o.type
  obtain ⟨w'', cnt', hrun2, s1, s2, s3⟩ := hr.drop T.law ht hkl o.type
  have e : w'' = w' := by
    rw [hrun] at hrun2
    injection hrun2 with _ e
    exact e.symm
  subst e
  unfold Oper.wp
  simp [execOp, hop, resolve, invoke, builtin, hm, hx, hrun, Result.andThen]
  exact hK' _ _ (hK w'' cnt' s1 s2 r1 r2 r3)
end
open Classical in
noncomputable def inS (xs : List BlV) (k : List Int) : Bool := decide (∃ x ∈ xs, keyX x = k)
open Classical in
/-- What is left of ps when xs have been looked at. -/
noncomputable def leftK (ps : List (List Int × Value)) (f : List Int → Bool) (xs : List (List Int × Value)) : List (List Int × Value) := ps.filter (fun p => decide (¬ (p ∈ xs ∧ f p.1 = true)))
theorem leftK_nil (ps : List (List Int × Value)) (f : List Int → Bool) : leftK ps f [] = ps := by
  unfold leftK
  rw [List.filter_eq_self]
  intro p _
  simp
theorem leftK_all {ps xs : List (List Int × Value)} {f : List Int → Bool} (h : ∀ p ∈ ps, p ∈ xs) : leftK ps f xs = ps.filter (fun p => !f p.1) := by
  unfold leftK
  refine List.filter_congr (fun p hp => ?_)
  have := h p hp
  cases hf : f p.1 <;> simp [this, hf]
theorem leftK_keep {ps xs : List (List Int × Value)} {f : List Int → Bool} {x : List Int} {c : Value} (hf : f x = false) : leftK ps f (xs ++ [(x, c)]) = leftK ps f xs := by
  unfold leftK
  refine List.filter_congr (fun p hp => ?_)
  by_cases e : p = (x, c)
  · subst e
    simp [hf]
  · simp [e]
theorem pair_key {ps : List (List Int × Value)} (ha : ps.Pairwise (fun p q => p.1 ≠ q.1)) {p q : List Int × Value} (hp : p ∈ ps) (hq : q ∈ ps) (e : p.1 = q.1) : p = q := by
  obtain ⟨i, hi⟩ := List.getElem?_of_mem hp
  obtain ⟨j, hj⟩ := List.getElem?_of_mem hq
  have gi := List.getElem?_eq_some_iff.1 hi
  have gj := List.getElem?_eq_some_iff.1 hj
  rcases Nat.lt_trichotomy i j with hlt | heq | hgt
  · have := List.pairwise_iff_getElem.1 ha i j gi.1 gj.1 hlt
    rw [gi.2, gj.2] at this
    exact absurd e this
  · subst heq
    rw [hi] at hj
    exact Option.some.inj hj
  · have := List.pairwise_iff_getElem.1 ha j i gj.1 gi.1 hgt
    rw [gi.2, gj.2] at this
    exact absurd e.symm this
theorem leftK_drop {ps xs : List (List Int × Value)} {f : List Int → Bool} {x : List Int} {c : Value} (ha : ps.Pairwise (fun p q => p.1 ≠ q.1)) (hm : (x, c) ∈ ps) (hf : f x = true) : leftK ps f (xs ++ [(x, c)]) = delK (leftK ps f xs) x := by
  unfold leftK delK
  rw [List.filter_filter]
  refine List.filter_congr (fun p hp => ?_)
  by_cases e : p = (x, c)
  · subst e
    simp [hf]
  · have hne : p.1 ≠ x := fun e2 => e (pair_key ha hp hm e2)
    have hb : (p.1 == x) = false := beq_eq_false_iff_ne.2 hne
    simp [hb, e]
theorem leftK_sub {ps xs : List (List Int × Value)} {f : List Int → Bool} {p : List Int × Value} (h : p ∈ leftK ps f xs) : p ∈ ps := (List.mem_filter.1 h).1
/-- Another shelf stays while a map is turned. -/
theorem ShelfAt.keepM {w U : World} {m o : Nat} {ps : List (List Int × Value)} {xs : List BlV} (h : ShelfAt w o xs) (hm : KMap Try.prog 46 w m ps) (hne : o ≠ m) (k : Keep w.heap.size (fun q => q = m) w U) : ShelfAt U o xs := by
  obtain ⟨qs, h1, h2, h3⟩ := h
  refine ⟨qs, h1.same (k.block o h1.lt hne), h2, fun i p x hp hx => ⟨(h3 i p x hp hx).1, ?_⟩⟩
  obtain ⟨y, hy1, hy2⟩ := (h3 i p x hp hx).2
  refine ⟨y, hy1, k.hold (fun e => ?_) hy2⟩
  obtain ⟨es, clock, hb, _⟩ := hm
  have e' : y = m := e
  rw [e', hb] at hy2
  cases hy2
theorem Keep.grownM {B m : Nat} {w U V : World} {row : Option Nat} (h : Keep B (fun q => q = m) w U) (hB : B ≤ U.heap.size) (hg : U.grownBy V row) (hr : ∀ r, row = some r → r = m ∨ B ≤ r) : Keep B (fun q => q = m) w V :=
  h.trans ⟨hg.os, hg.tape, hg.output, hg.size, fun k hk hx => hg.block k (by omega) (fun e => by
    rcases hr k e.symm with h1 | h1
    · exact hx h1
    · omega)⟩
set_option maxRecDepth 100000 in
set_option maxHeartbeats 4000000 in
theorem minus1_impl (o cb : Nat) (xs : List BlV) (k : List Int) (hk : IsK k) (x : BlV) (y : Nat) (w : World) (hcb : w.heap[cb]? = some (.cells #[.map (some o)] 80)) (ho : ShelfAt w o xs) :
    Calls Try.prog 85 #[.agg (ints .u8 k), .agg #[.int .u8 x.t, .slice (some ⟨y, 0, none⟩) x.n x.n], .pointer (some ⟨cb, 0, none⟩)] w fun e w' => e = .returned (.bool (inS xs k)) ∧ Below w.heap.size w w' := by
  have BX : Below w.heap.size w ((w.alloc (.cells (ints .u8 k) 46)).alloc (.cells #[.int .u8 x.t, .slice (some ⟨y, 0, none⟩) x.n x.n] 43)) := by go_grown
  have A0 := heap_alloc2_old w (.cells (ints .u8 k) 46) (.cells #[.int .u8 x.t, .slice (some ⟨y, 0, none⟩) x.n x.n] 43)
  obtain ⟨w0, hw0⟩ : ∃ w0, (w.alloc (.cells (ints .u8 k) 46)).alloc (.cells #[.int .u8 x.t, .slice (some ⟨y, 0, none⟩) x.n x.n] 43) = w0 := ⟨_, rfl⟩
  rw [hw0] at BX A0
  have HB := Lib.hid BX
  have H0 := Lib.hid A0
  have HK := Lib.hid hk
  have q0 := cell_of_row _ cb 0 _ _ _ (keep_block hcb BX)
  have HH := Lib.hid (has_impl o xs k hk w0 (ho.below BX))
  have HI : Hid (inS xs k = inS xs k) := Lib.hid rfl
  unfold inS at HI ⊢
  clear BX A0 hk ho hcb
  go_enter Try.func85, Try.ntmps85
  go_wp2_with (first
    | (refine wpList_load_row rfl 46 _ rfl w.heap.size rfl 46 (ints .u8 k) (0, 0) _ H0.out Try.underlying46 rfl (by rw [ints_size, HK.out.1]; exact sizeKey) ?_)
    | (go_at_call 80; refine HH.out.mono ?_; rintro e w1 ⟨rfl, hb⟩))
  go_ret
  exact ⟨rfl, below_call HB.out HB.out.size hb⟩
set_option maxRecDepth 100000 in
set_option maxHeartbeats 4000000 in
theorem delf_impl (m o cb : Nat) (ps : List (List Int × Value)) (xs2 : List BlV) (hmo : o ≠ m) (hcm : cb ≠ m) (w : World) (hown : KMap Try.prog 46 w m ps) (hbl : ∀ p ∈ ps, ∃ (x : BlV) (y : Nat), p.2 = blV x y) (hcb : w.heap[cb]? = some (.cells #[.map (some o)] 80)) (ho : ShelfAt w o xs2) :
    Calls Try.prog 84 #[.map (some m), .func (.func 85) #[] #[.pointer (some ⟨cb, 0, none⟩)]] w fun e w' => (∃ v, e = .returned v) ∧ KMap Try.prog 46 w' m (ps.filter (fun p => !inS xs2 p.1)) ∧ Keep w.heap.size (fun q => q = m) w w' := by
  obtain ⟨D0, hD, hDs, hD1, hD2⟩ := hown.owns kty
  have hks := hown.key
  have hap := hown.apart kty
  have Hz := Lib.hid z32_ints
  have HC := Lib.hid (fun U (hU : Keep w.heap.size (fun q => q = m) w U) => hU.hold (g := cb) hcm hcb)
  have HO := Lib.hid (fun U (hU : Keep w.heap.size (fun q => q = m) w U) => ho.keepM hown hmo hU)
  have HBL := Lib.hid hbl
  clear hcb ho hbl
  go_enter Try.func84, Try.ntmps84
  go_wp2_with (first | (at_range; refine wpList_range_own _ rfl _ 80 rfl 46 43 kty.law shelfTy hR m ps.length _ rfl hD ?_; intro w0 hrg0 hg0 hs0) | go_in)
  go_frame
  go_loopw [4] (fun _ wr => ∃ (D : DataW Value) (left : Lit → Bool) (cnt : Nat) (xs : List (List Int × Value)), wr.ranges Try.prog 46 hR m w.heap.size ps.length D left cnt ∧ Met Try.prog 46 ps left xs ∧ KMap Try.prog 46 wr m (leftK ps (inS xs2) xs) ∧ Keep w.heap.size (fun q => q = m) w wr)
    (fun _ wr => wr.rangeLeft m w.heap.size)
  case atStart =>
    exact ⟨_, _, _, [], hrg0, Met.start kty hks hD2, by rw [leftK_nil]; exact hown.kept hg0 (by simp), (Keep.refl _ _ _).grownM (Nat.le_refl _) hg0 (fun r e => by cases e)⟩
  case round =>
    obtain ⟨D, left, cnt, xs, hrg, hC, hKM, hkp⟩ := hrel
    go_wp2_with (first
      | (at_next; refine wpList_next_ranges _ rfl _ rfl 46 kty.law hR kv id (fun key kl hk => by obtain ⟨x, _, hx⟩ := kv_of_keyOf kty hk; exact ⟨x, hx⟩) (fun v _ _ => ⟨v, rfl⟩) m w.heap.size ps.length D _ _ rfl hrg ?_ ?_)
      | go_in)
    · intro hc0 hl0
      go_wp2
      have hperm := hC.perm hap hl0
      rw [leftK_all (fun p hp => hperm.symm.subset hp)] at hKM
      go_end0
      exact ⟨⟨_, rfl⟩, hKM, hkp⟩
    · intro x c kl yd yp w2 cnt2 hkey hlk hv hat hrg2 hlt hg2 hs2 hen
      have hx : IsK x := by
        obtain ⟨x', h1, h2⟩ := kv_of_keyOf kty hkey
        rw [kv_inj h2]
        exact h1
      obtain ⟨hr1, hr2⟩ := hKM.reads kty hrg.owns
      obtain ⟨p, hp, hpk⟩ := hr1 kl (Maps.has_true_of_atKey hat)
      have e1 : p.1 = x := kv_inj (kty.law.inj hpk hkey)
      have e2 : p.2 = c := by
        have h1 := hr2 p hp kl hpk .nil
        rw [hat] at h1
        have h3 : (yd, yp) = (DataW.held c, []) := (Option.some.inj hv).symm
        cases h3
        injection h1 with h1
        exact h1.symm
      obtain ⟨pa, pv⟩ := p
      dsimp only at e1 e2
      subst e1
      subst e2
      have hpm := leftK_sub hp
      have hat0 : ∀ zd, D0.atKey kl zd = yd := fun zd => by
        have h3 : (yd, yp) = (DataW.held pv, []) := (Option.some.inj hv).symm
        cases h3
        exact hD2 (pa, pv) hpm kl hkey zd
      obtain ⟨_, hC2⟩ := hC.step kty hap hD1 hD2 hkey hlk hv hat0
      obtain ⟨bx, by_, hbv⟩ := HBL.out _ hpm
      dsimp only at hbv
      have HX := Lib.hid hx
      have hK2 := hKM.kept hg2 (by simp; exact hrg.ne.symm)
      have hk2 := hkp.grownM hkp.size hg2 (fun r e => by cases e; exact .inr (Nat.le_refl _))
      subst hbv
      have hen' : (Instr.entry (.pointer (some ⟨w.heap.size, 0, none⟩))).run Try.prog w2 = .ok (.tuple #[.agg (ints .u8 pa), .agg #[.int .u8 bx.t, .slice (some ⟨by_, 0, none⟩) bx.n bx.n]]) w2 := hen
      have KM2 := Lib.hid hK2
      have KK2 := Lib.hid hk2
      have RG2 := Lib.hid hrg2
      have MC2 := Lib.hid hC2
      have HP := Lib.hid hp
      have HPM := Lib.hid hpm
      have HLT := Lib.hid hlt
      have HKEY := Lib.hid hkey
      have RG0 := Lib.hid hrg
      have HXL := Lib.hid hx.1
      have LO := Lib.hid (heap_alloc2_old w2 (.cells (ints .u8 z32) 46) (.cells #[.int .u8 0, .slice none 0 0] 43))
      clear hK2 hk2 hrg2 hC2 hp hpm hlt hkey hrg hen hx hat hat0 hr1 hr2 hpk hv hlk hKM hkp hC hg2 hs2 yd yp
      obtain ⟨xt, xa, xn, xc, xl⟩ := bx
      dsimp only at hen'
      have LN : (((w2.alloc (.cells (ints .u8 z32) 46)).alloc (.cells #[.int .u8 0, .slice none 0 0] 43)).setRow w2.heap.size (ints .u8 pa)).heap[w2.heap.size + 1]? = some (.cells #[.int .u8 0, .slice none 0 0] 43) := (setRow_other _ _ _ _ (by omega)).trans (heap_alloc2_new w2 _ _)
      have LK : (((w2.alloc (.cells (ints .u8 z32) 46)).alloc (.cells #[.int .u8 0, .slice none 0 0] 43)).setRow w2.heap.size (ints .u8 pa)).heap[w2.heap.size]? = some (.cells (ints .u8 pa) 46) := setRow_heap _ _ _ _ _ _ LO.out
      have LB : Below w2.heap.size w2 (((w2.alloc (.cells (ints .u8 z32) 46)).alloc (.cells #[.int .u8 0, .slice none 0 0] 43)).setRow w2.heap.size (ints .u8 pa)) := Below.setRow (((Below.refl w2.heap.size w2).alloc (Nat.le_refl _) _).alloc (by simp) _) (Nat.le_refl _) _
      have hN := box_set (a := .int .u8 xt) (b := .slice (some ⟨by_, 0, none⟩) xn xn) LN
      have hKk := (heap_setCell_other _ ⟨w2.heap.size + 1, 1, none⟩ w2.heap.size (.slice (some ⟨by_, 0, none⟩) xn xn) (by simp)).trans ((heap_setCell_other _ ⟨w2.heap.size + 1, 0, none⟩ w2.heap.size (.int .u8 xt) (by simp)).trans LK)
      have hB := (LB.setCell (p := ⟨w2.heap.size + 1, 0, none⟩) (by simp) (.int .u8 xt)).setCell (p := ⟨w2.heap.size + 1, 1, none⟩) (by simp) (.slice (some ⟨by_, 0, none⟩) xn xn)
      have HN3 := Lib.hid hN
      have HK3 := Lib.hid hKk
      have HB3 := Lib.hid hB
      have c0 := cell_of_row _ (w2.heap.size + 1) 0 _ _ _ LN
      have c1 := cell_of_row _ (w2.heap.size + 1) 1 _ _ _ LN
      have f0 := frozen_of_row _ (w2.heap.size + 1) 0 _ _ LN
      have f1 := frozen_of_row _ (w2.heap.size + 1) 1 _ _ LN
      clear LN LK LB hN hKk hB
      rw [Hz.out] at LO c0 c1 f0 f1 HN3 HK3 HB3
      go_upto_region 3 with (first
        | (refine wpList_store_row rfl 46 _ _ rfl w2.heap.size (ints .u8 pa) rfl rfl 46 (ints .u8 z32) (by rw [Hz.out]; exact LO.out) (by rw [ints_size, HXL.out]; exact sizeKey) (by rw [ints_size, ints_size, HXL.out]; rfl) (ints_one _ _) ?_))
      clear c0 c1 f0 f1 LO hen'
      rw [← Hz.out] at HN3 HK3 HB3 ⊢
      generalize (((((w2.alloc (.cells (ints .u8 z32) 46)).alloc (.cells #[.int .u8 0, .slice none 0 0] 43)).setRow w2.heap.size (ints .u8 pa)).setCell ⟨w2.heap.size + 1, 0, none⟩ (.int .u8 xt)).setCell ⟨w2.heap.size + 1, 1, none⟩ (.slice (some ⟨by_, 0, none⟩) xn xn)) = w3 at HN3 HK3 HB3 ⊢
      have KM3 := Lib.hid (KM2.out.later HB3.out)
      have KK3 := Lib.hid (KK2.out.trans (Keep.of _ (HB3.out.mono KK2.out.size)))
      have RG3 := Lib.hid (RG2.out.kept (grown_of_below HB3.out) (by simp) (by simp))
      have HCL := Lib.hid (minus1_impl o cb xs2 pa HX.out ⟨xt, xa, xn, xc, xl⟩ by_ w3 (HC.out _ KK3.out) (HO.out _ KK3.out))
      have p0 := cell_of_row _ _ 0 _ _ _ HN3.out
      have p1 := cell_of_row _ _ 1 _ _ _ HN3.out
      generalize w2.heap.size = gk at HK3 HB3 p0 p1 ⊢
      clear KM2 KK2 RG2 HB3 HN3
      cases hin : inS xs2 pa with
      | true =>
        rw [hin] at HCL
        have HIN := Lib.hid hin
        clear hin
        go_upto_region 4 with (first
          | (refine wpList_load_row rfl 46 _ rfl gk rfl 46 (ints .u8 pa) (0, 0) _ HK3.out Try.underlying46 rfl (by rw [ints_size, HXL.out]; exact sizeKey) ?_)
          | (go_at_call 85; refine HCL.out.mono ?_; rintro e w4 ⟨rfl, hb⟩))
        have KM4 := Lib.hid (KM3.out.later hb)
        have KK4 := Lib.hid (KK3.out.trans (Keep.of _ (hb.mono KK3.out.size)))
        have RG4 := Lib.hid (RG3.out.kept (grown_of_below hb) (by simp) (by simp))
        have HK4 := Lib.hid (keep_block HK3.out hb)
        clear hb KM3 KK3 RG3 HK3 HCL p0 p1
        go_wp2_with (first
          | (refine wpList_load_row rfl 46 _ rfl gk rfl 46 (ints .u8 pa) (0, 0) _ HK4.out Try.underlying46 rfl (by rw [ints_size, HXL.out]; exact sizeKey) ?_)
          | (refine wpList_delKR rfl _ _ rfl kty shelfTy m w.heap.size ps.length D _ cnt2 _ rfl RG4.out KM4.out pa kl HX.out HKEY.out rfl ?_; intro w5 cnt5 hrg5 hle5 hK5 hg5 hz5; rw [Maps.strike_twice] at hrg5; simp only [Act.put, List.setIfInBounds_toArray, List.set_cons_zero, List.set_cons_succ]))
        go_roundw
        case rel =>
          refine ⟨_, _, cnt5, _, hrg5, MC2.out, ?_, KK4.out.grownM KK4.out.size hg5 (fun r e => by cases e; exact .inl rfl)⟩
          rw [leftK_drop hap HPM.out HIN.out]
          exact hK5
        case measure =>
          rw [hrg5.left_eq, RG0.out.left_eq]
          have := HLT.out
          omega
      | false =>
        rw [hin] at HCL
        have HIN := Lib.hid hin
        clear hin
        go_wp2_with (first
          | (refine wpList_load_row rfl 46 _ rfl gk rfl 46 (ints .u8 pa) (0, 0) _ HK3.out Try.underlying46 rfl (by rw [ints_size, HXL.out]; exact sizeKey) ?_)
          | (go_at_call 85; refine HCL.out.mono ?_; rintro e w4 ⟨rfl, hb⟩))
        have KM4 := Lib.hid (KM3.out.later hb)
        have KK4 := Lib.hid (KK3.out.trans (Keep.of _ (hb.mono KK3.out.size)))
        have RG4 := Lib.hid (RG3.out.kept (grown_of_below hb) (by simp) (by simp))
        clear hb
        go_roundw
        case rel => exact ⟨_, _, cnt2, _, RG4.out, MC2.out, by rw [leftK_keep HIN.out]; exact KM4.out, KK4.out⟩
        case measure =>
          rw [RG4.out.left_eq, RG0.out.left_eq]
          exact HLT.out
end Go.Proofs.Ytdoelmjaongjfaa
