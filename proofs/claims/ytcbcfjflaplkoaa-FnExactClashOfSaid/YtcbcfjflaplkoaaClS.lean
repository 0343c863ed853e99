/- The clash of two lists, by the specification. Written by wip/gen/cli.py. -/
import Derived.Test.YtcbcfjflaplkoaaClE
import Derived.Test.YtcbcfjflaplkoaaPeaksI
namespace Go.Proofs.Ytcbcfjflaplkoaa
open Go.ChangeShapes Go.WideShapes Go.ChangeAt Go.RowKit
set_option linter.unusedVariables false
set_option linter.unusedSimpArgs false
theorem wpList_load_ints_g {P : Program} {ops : Array Oper} {rest : List Oper} {op : Oper} {a : Act} {w : World} {Q : Exit → Act → World → Prop} (hw : Region.wanted op (yielded ops a.tmps) = true) (ty : TypeId) (x : Operand) (ho : op.op = .load ty x)
    (b o : Nat) (hx : a.eval x = .pointer (some ⟨b, o, none⟩)) (κ : IntKind) (l : List Int) (d : TypeDesc) (hc : w.rangeAt b o (l.map (Value.int κ)))
    (hu : P.underlying ty = some d) (hd : d.isRow = true) (hi : (P.info? ty).map (·.size) = some l.length)
    (h : wpList P ops Q rest (a.put op.dst (.agg (ints κ l))) w) : wpList P ops Q (op :: rest) a w :=
  wpList_step fun _ hK => by rw [if_pos hw]; exact wp_load_mid ty x ho b o hx (l.map (Value.int κ)) d hc hu hd (by rw [List.length_map]; exact hi) (hK _ _ h)
set_option maxRecDepth 100000 in
set_option maxHeartbeats 16000000 in
theorem clash_spec (w0 : World) (aa ao ab bo N : Nat) (fl gl : List Int) (hN : N ≤ 1048576) (hra : RdK w0 (some ⟨aa, ao, none⟩) N fl) (hrb : RdK w0 (some ⟨ab, bo, none⟩) N gl) (fb : ∀ z ∈ fl, 0 ≤ z ∧ z ≤ 255) (gb : ∀ z ∈ gl, 0 ≤ z ∧ z ≤ 255) :
    ∀ (l b ca cb : Nat) (w : World), b + l ≤ N → l ≤ ca → l ≤ cb → ca ≤ maxLen → cb ≤ maxLen → clO fl gl b l → Below w0.heap.size w0 w →
    Calls Try.prog 86 #[.slice (some ⟨aa, ao + b * 32, none⟩) l ca, .slice (some ⟨ab, bo + b * 32, none⟩) l cb] w fun e w' => e = .returned (.agg (ints .u8 (clK fl gl b l))) ∧ Below w.heap.size w w' := by
  have Hz := Lib.hid z128_ints
  intro l
  induction l using Nat.strongRecOn with
  | _ l ih =>
    intro b ca cb w hbl hca hcb hma hmb hO hw0
    have HW0 := Lib.hid hw0
    have A0 := Lib.hid (heap_alloc_last w (.cells (ints .u8 z128) 38))
    have B0 := Lib.hid ((Below.refl w.heap.size w).alloc (Nat.le_refl _) (.cells (ints .u8 z128) 38))
    obtain ⟨W0, hW0⟩ : ∃ W0, w.alloc (.cells (ints .u8 z128) 38) = W0 := ⟨_, rfl⟩
    rw [hW0] at A0 B0
    rw [Hz.out] at hW0
    have h2 := clO_two hO
    have a1 := half_pos l
    have a2 := half_lt (n := l) (by omega)
    have Hhalf := Lib.hid (fun W => half_spec l (by omega) (by omega) W)
    have S1 := Lib.hid (fun U (hU : Below w.heap.size w U) => part_spec aa ao N ca b (half l) fl (by omega) (by omega) hN (by omega) hma fb U (hra.below (hw0.trans (hU.mono hw0.size))))
    have S2 := Lib.hid (fun U (hU : Below w.heap.size w U) => by
      have := part_spec aa ao N (ca - half l) (b + half l) (l - half l) fl (by omega) (by omega) hN (by omega) (by omega) fb U (hra.below (hw0.trans (hU.mono hw0.size)))
      rwa [show ao + (b + half l) * 32 = ao + b * 32 + half l * 32 by omega] at this)
    have S3 := Lib.hid (fun U (hU : Below w.heap.size w U) => part_spec ab bo N cb b (half l) gl (by omega) (by omega) hN (by omega) hmb gb U (hrb.below (hw0.trans (hU.mono hw0.size))))
    have S4 := Lib.hid (fun U (hU : Below w.heap.size w U) => by
      have := part_spec ab bo N (cb - half l) (b + half l) (l - half l) gl (by omega) (by omega) hN (by omega) (by omega) gb U (hrb.below (hw0.trans (hU.mono hw0.size)))
      rwa [show bo + (b + half l) * 32 = bo + b * 32 + half l * 32 by omega] at this)
    have T1 := Lib.hid (tkey32 (b := b) hra.1 fb (show 1 ≤ half l by omega) (by omega)).1
    have T2 := Lib.hid (tkey32 (b := b + half l) hra.1 fb (show 1 ≤ l - half l by omega) (by omega)).1
    have T3 := Lib.hid (tkey32 (b := b) hrb.1 gb (show 1 ≤ half l by omega) (by omega)).1
    have T4 := Lib.hid (tkey32 (b := b + half l) hrb.1 gb (show 1 ≤ l - half l by omega) (by omega)).1
    have HE2 := Lib.hid (fun U (hU : Below w.heap.size w U) => lists_spec (some ⟨aa, ao + b * 32, none⟩) (some ⟨ab, bo + b * 32, none⟩) (half l) (half l) ca cb (subK fl b (half l)) (subK gl b (half l)) (by omega) (by omega) U (rdk_sub (hra.below (hw0.trans (hU.mono hw0.size))) b (half l) (by omega)) (rdk_sub (hrb.below (hw0.trans (hU.mono hw0.size))) b (half l) (by omega)))
    have IL := Lib.hid (fun (ho : clO fl gl b (half l)) (he : clK fl gl b (half l) = clK fl gl b l) U (hU : Below w.heap.size w U) => by
      have := ih (half l) a2 b ca cb U (by omega) (by omega) (by omega) hma hmb ho (hw0.trans (hU.mono hw0.size))
      rwa [he] at this)
    have IR := Lib.hid (fun (ho : clO fl gl (b + half l) (l - half l)) (he : clK fl gl (b + half l) (l - half l) = clK fl gl b l) U (hU : Below w.heap.size w U) => by
      have := ih (l - half l) (by omega) (b + half l) (ca - half l) (cb - half l) U (by omega) (by omega) (by omega) (by omega) (by omega) ho (hw0.trans (hU.mono hw0.size))
      rwa [he, show ao + (b + half l) * 32 = ao + b * 32 + half l * 32 by omega, show bo + (b + half l) * 32 = bo + b * 32 + half l * 32 by omega] at this)
    have HU : Hid (clU fl gl b l → clK fl gl b l = clQ fl gl b l) := Lib.hid (fun h => clK_here h2 h)
    have HNL : Hid (¬ clU fl gl b l → ¬ subK fl b (half l) = subK gl b (half l) → clO fl gl b (half l) ∧ clK fl gl b (half l) = clK fl gl b l) := Lib.hid (fun h h' => ⟨clO_left hO h h', (clK_left h2 h h').symm⟩)
    have HNR : Hid (¬ clU fl gl b l → subK fl b (half l) = subK gl b (half l) → clO fl gl (b + half l) (l - half l) ∧ clK fl gl (b + half l) (l - half l) = clK fl gl b l) := Lib.hid (fun h h' => ⟨clO_right hO h h', (clK_right h2 h h').symm⟩)
    have HUD : Hid (clU fl gl b l ↔ ¬ (tkey (keyAt fl) b (half l) = tkey (keyAt gl) b (half l) ∧ tkey (keyAt fl) (b + half l) (l - half l) = tkey (keyAt gl) (b + half l) (l - half l))) := Lib.hid (by unfold clU; exact Classical.not_and_iff_not_or_not.symm)
    have HVL : Hid ((clK fl gl b l).length = 128) := Lib.hid (by
      obtain ⟨x, y, u, v, hc, hx, hy, hu, hv, _⟩ := clK_is hra.1 hrb.1 fb gb l b hbl hO
      rw [hc]; exact four_len hx.1 hy.1 hu.1 hv.1)
    unfold clQ at HU
    unfold maxLen at hma hmb
    clear ih hra hrb fb gb hO hw0
    generalize tkey (keyAt fl) b (half l) = x at S1 T1 HU HUD
    generalize tkey (keyAt fl) (b + half l) (l - half l) = y at S2 T2 HU HUD
    generalize tkey (keyAt gl) b (half l) = u at S3 T3 HU HUD
    generalize tkey (keyAt gl) (b + half l) (l - half l) = v at S4 T4 HU HUD
    generalize clU fl gl b l = UU at HU HNL HNR HUD
    generalize clO fl gl b (half l) = OL at IL HNL
    generalize clO fl gl (b + half l) (l - half l) = OR at IR HNR
    generalize clK fl gl b (half l) = KL at IL HNL
    generalize clK fl gl (b + half l) (l - half l) = KR at IR HNR
    generalize clK fl gl b l = CK at IL IR HU HNL HNR HVL ⊢
    generalize subK fl b (half l) = ss at HE2 HNL HNR
    generalize subK gl b (half l) = st at HE2 HNL HNR
    generalize half l = k at *
    have HC4 := Lib.hid (four_len T1.out T2.out T3.out T4.out)
    have HB := Lib.hid (built_clash x y u v T1.out T2.out T3.out T4.out)
    have Q1 := Lib.hid (fun W => eqlIn2 x u T1.out T3.out W)
    have Q2 := Lib.hid (fun W => eqlIn2 y v T2.out T4.out W)
    have HF4 : Hid (∀ (g : Nat) (U : World), U.heap[g]? = some (.cells (ints .u8 (x ++ (y ++ (u ++ v)))) 38) → U.rangeAt g 0 (x.map (Value.int .u8)) ∧ U.rangeAt g 32 (y.map (Value.int .u8)) ∧ U.rangeAt g 64 (u.map (Value.int .u8)) ∧ U.rangeAt g 96 (v.map (Value.int .u8))) := Lib.hid (fun g U h => four_rng T1.out T2.out T3.out T4.out h)
    generalize x ++ (y ++ (u ++ v)) = c4 at HU HC4 HB HF4
    have d1 : (l : Int) ≤ (ca : Int) := by omega
    have d2 : (l : Int) ≤ (cb : Int) := by omega
    have d3 : (0 : Int) ≤ (k : Int) := by omega
    have d4 : (k : Int) ≤ (ca : Int) := by omega
    have d5 : (k : Int) ≤ (cb : Int) := by omega
    have d6 : k ≤ ca := by omega
    have d7 : k ≤ cb := by omega
    have d8 : (k : Int) ≤ (l : Int) := by omega
    have d9 : k ≤ l := by omega
    have d10 : ¬ ca = k := by omega
    have d11 : ¬ cb = k := by omega
    have d12 : ¬ l < k := by omega
    have d13 : ¬ ca < k := by omega
    have d14 : ¬ cb < k := by omega
    have d15 : ¬ ca < l := by omega
    have d16 : ¬ cb < l := by omega
    have d17 : (k : Int) < (l : Int) := by omega
    have d18 : (k : Int) < (ca : Int) := by omega
    have d19 : (k : Int) < (cb : Int) := by omega
    have d20 : (l : Int) ≤ 1048576 := by omega
    go_enter Try.func86, Try.ntmps86
    go_wp2_with fail
    clear hW0
    refine (Hhalf.out _).mono ?_
    rintro e w1 ⟨rfl, rfl⟩
    go_upto_region 2 with fail
    go_cut [6] (fun s6 wx => ∃ g : Nat, s6 = .pointer (some ⟨g, 0, none⟩) ∧ W0.heap.size ≤ g ∧ wx.heap[g]? = some (.cells (ints .u8 c4) 38) ∧ Below W0.heap.size W0 wx)
    case first =>
      refine wp_region_held_drew (S := Below (W0).heap.size (W0)) (by kernel_rfl) ((Below.refl _ _).drew) (fun hS => ?_)
      refine take_at (i := 0) (v := .slice (some ⟨aa, ao + b * 32, none⟩) l ca) rfl rfl (by kernel_rfl) (by kernel_rfl) (by kernel_rfl) (fun _ _ _ h => h) (Or.inl ⟨by rfl, fun U hU => by go_simp⟩) hS ?_
      try simp only [List.setIfInBounds_toArray, List.set_cons_zero, List.set_cons_succ]
      refine take_at (i := 1) (v := .int .i64 (k : Int)) rfl rfl (by kernel_rfl) (by kernel_rfl) (by kernel_rfl) (fun _ _ _ h => h) (Or.inl ⟨by rfl, fun U hU => by go_simp⟩) hS ?_
      try simp only [List.setIfInBounds_toArray, List.set_cons_zero, List.set_cons_succ]
      refine take_at (i := 2) (v := .slice (some ⟨aa, ao + b * 32, none⟩) k ca) rfl rfl (by kernel_rfl) (by kernel_rfl) (by kernel_rfl) (fun _ _ _ h => h) (Or.inl ⟨by rfl, fun U hU => by go_simp⟩) hS ?_
      try simp only [List.setIfInBounds_toArray, List.set_cons_zero, List.set_cons_succ]
      refine take_at (i := 4) (v := .slice (some ⟨aa, ao + b * 32, none⟩) l ca) rfl rfl (by kernel_rfl) (by kernel_rfl) (by kernel_rfl) (fun _ _ _ h => h) (Or.inl ⟨by rfl, fun U hU => by go_simp⟩) hS ?_
      try simp only [List.setIfInBounds_toArray, List.set_cons_zero, List.set_cons_succ]
      refine take_at (i := 5) (v := .int .i64 (k : Int)) rfl rfl (by kernel_rfl) (by kernel_rfl) (by kernel_rfl) (fun _ _ _ h => h) (Or.inl ⟨by rfl, fun U hU => by go_simp⟩) hS ?_
      try simp only [List.setIfInBounds_toArray, List.set_cons_zero, List.set_cons_succ]
      refine take_at (i := 6) (v := .slice (some ⟨aa, ao + b * 32 + k * 32, none⟩) (l - k) (ca - k)) rfl rfl (by kernel_rfl) (by kernel_rfl) (by kernel_rfl) (fun _ _ _ h => h) (Or.inl ⟨by rfl, fun U hU => by go_simp⟩) hS ?_
      try simp only [List.setIfInBounds_toArray, List.set_cons_zero, List.set_cons_succ]
      refine take_at (i := 8) (v := .slice (some ⟨ab, bo + b * 32, none⟩) l cb) rfl rfl (by kernel_rfl) (by kernel_rfl) (by kernel_rfl) (fun _ _ _ h => h) (Or.inl ⟨by rfl, fun U hU => by go_simp⟩) hS ?_
      try simp only [List.setIfInBounds_toArray, List.set_cons_zero, List.set_cons_succ]
      refine take_at (i := 9) (v := .int .i64 (k : Int)) rfl rfl (by kernel_rfl) (by kernel_rfl) (by kernel_rfl) (fun _ _ _ h => h) (Or.inl ⟨by rfl, fun U hU => by go_simp⟩) hS ?_
      try simp only [List.setIfInBounds_toArray, List.set_cons_zero, List.set_cons_succ]
      refine take_at (i := 10) (v := .slice (some ⟨ab, bo + b * 32, none⟩) k cb) rfl rfl (by kernel_rfl) (by kernel_rfl) (by kernel_rfl) (fun _ _ _ h => h) (Or.inl ⟨by rfl, fun U hU => by go_simp⟩) hS ?_
      try simp only [List.setIfInBounds_toArray, List.set_cons_zero, List.set_cons_succ]
      refine take_at (i := 12) (v := .slice (some ⟨ab, bo + b * 32, none⟩) l cb) rfl rfl (by kernel_rfl) (by kernel_rfl) (by kernel_rfl) (fun _ _ _ h => h) (Or.inl ⟨by rfl, fun U hU => by go_simp⟩) hS ?_
      try simp only [List.setIfInBounds_toArray, List.set_cons_zero, List.set_cons_succ]
      refine take_at (i := 13) (v := .int .i64 (k : Int)) rfl rfl (by kernel_rfl) (by kernel_rfl) (by kernel_rfl) (fun _ _ _ h => h) (Or.inl ⟨by rfl, fun U hU => by go_simp⟩) hS ?_
      try simp only [List.setIfInBounds_toArray, List.set_cons_zero, List.set_cons_succ]
      refine take_at (i := 14) (v := .slice (some ⟨ab, bo + b * 32 + k * 32, none⟩) (l - k) (cb - k)) rfl rfl (by kernel_rfl) (by kernel_rfl) (by kernel_rfl) (fun _ _ _ h => h) (Or.inl ⟨by rfl, fun U hU => by go_simp⟩) hS ?_
      try simp only [List.setIfInBounds_toArray, List.set_cons_zero, List.set_cons_succ]
      refine wpAnyH_ready (rs := [3, 17]) (by kernel_rfl) (by simp) ?_
      refine AllReadyH.cons rfl (fun KQ hK => ?_) (AllReadyH.cons rfl (fun KQ hK => ?_) AllReadyH.nil)
      · rw [if_pos (by rfl)]
        go_simp
        refine (S1.out _ (B0.out.trans (hS.mono B0.out.size))).mono ?_
        rintro e u0 ⟨rfl, hb⟩
        refine hK.out _ _ (below_call hS hS.size hb) (fun hS => ?_)
        clear hb hK
        refine wpAnyH_ready (rs := [7, 17]) (by kernel_rfl) (by simp) ?_
        refine AllReadyH.cons rfl (fun KQ hK => ?_) (AllReadyH.cons rfl (fun KQ hK => ?_) AllReadyH.nil)
        · rw [if_pos (by rfl)]
          go_simp
          refine (S2.out _ (B0.out.trans (hS.mono B0.out.size))).mono ?_
          rintro e u1 ⟨rfl, hb⟩
          refine hK.out _ _ (below_call hS hS.size hb) (fun hS => ?_)
          clear hb hK
          refine wpAnyH_ready (rs := [11, 17]) (by kernel_rfl) (by simp) ?_
          refine AllReadyH.cons rfl (fun KQ hK => ?_) (AllReadyH.cons rfl (fun KQ hK => ?_) AllReadyH.nil)
          · rw [if_pos (by rfl)]
            go_simp
            refine (S3.out _ (B0.out.trans (hS.mono B0.out.size))).mono ?_
            rintro e u2 ⟨rfl, hb⟩
            refine hK.out _ _ (below_call hS hS.size hb) (fun hS => ?_)
            clear hb hK
            refine wpAnyH_ready (rs := [15, 17]) (by kernel_rfl) (by simp) ?_
            refine AllReadyH.cons rfl (fun KQ hK => ?_) (AllReadyH.cons rfl (fun KQ hK => ?_) AllReadyH.nil)
            · rw [if_pos (by rfl)]
              go_simp
              refine (S4.out _ (B0.out.trans (hS.mono B0.out.size))).mono ?_
              rintro e u3 ⟨rfl, hb⟩
              refine hK.out _ _ (below_call hS hS.size hb) (fun hS => ?_)
              clear hb hK
              refine take_at (i := 16) (v := .agg (ints .u8 (c4))) rfl rfl (by kernel_rfl) (by kernel_rfl) (by kernel_rfl) (fun _ _ _ h => h) (yields_built (by rfl) 38 _ (ints .u8 (c4)) rfl (by simp only [List.map_toArray, List.map_cons, List.map_nil]; exact HB.out)) hS ?_
              try simp only [List.setIfInBounds_toArray, List.set_cons_zero, List.set_cons_succ]
              refine wpAnyH_ready (rs := [17]) (by kernel_rfl) (by simp) ?_
              refine AllReadyH.cons rfl (fun KQ hK => ?_) AllReadyH.nil
              rw [if_pos (by rfl)]
              go_simp
              have hg := new_block (t := 38) Hz.out hS
              have hgg := hS.size
              refine hK.out _ _ (hS.alloc hS.size _) (fun hS => ?_)
              clear hK
              refine wpAnyH_ready (rs := [18]) (by kernel_rfl) (by simp) ?_
              refine AllReadyH.cons rfl (fun KQ hK => ?_) AllReadyH.nil
              rw [if_pos (by rfl)]
              refine wp_store_row (o := ⟨none, _, _, _, _, _⟩) 38 _ _ rfl _ (ints .u8 (c4)) rfl rfl 38 (ints .u8 z128) hg (by rw [ints_size, HC4.out]; exact sizeClash) (by rw [ints_size, ints_size, HC4.out]; rfl) (ints_one _ _) ?_
              simp only [Act.put]
              refine hK.out _ _ (Below.setRow hS hgg _) (fun hS => ?_)
              clear hK
              refine wpAnyH_done (by kernel_rfl) ?_ _
              go_wp2_with fail
              go_meet
              exact ⟨_, rfl, hgg, setRow_heap _ _ _ _ _ _ hg, hS⟩
            · rw [if_pos (by rfl)]
              go_simp
              have hg := new_block (t := 38) Hz.out hS
              have hgg := hS.size
              refine hK.out _ _ (hS.alloc hS.size _) (fun hS => ?_)
              clear hK
              refine wpAnyH_ready (rs := [15]) (by kernel_rfl) (by simp) ?_
              refine AllReadyH.cons rfl (fun KQ hK => ?_) AllReadyH.nil
              rw [if_pos (by rfl)]
              go_simp
              refine (S4.out _ (B0.out.trans (hS.mono B0.out.size))).mono ?_
              rintro e u3 ⟨rfl, hb⟩
              have hg := keep_block hg hb
              refine hK.out _ _ (below_call hS hS.size hb) (fun hS => ?_)
              clear hb hK
              refine take_at (i := 16) (v := .agg (ints .u8 (c4))) rfl rfl (by kernel_rfl) (by kernel_rfl) (by kernel_rfl) (fun _ _ _ h => h) (yields_built (by rfl) 38 _ (ints .u8 (c4)) rfl (by simp only [List.map_toArray, List.map_cons, List.map_nil]; exact HB.out)) hS ?_
              try simp only [List.setIfInBounds_toArray, List.set_cons_zero, List.set_cons_succ]
              refine wpAnyH_ready (rs := [18]) (by kernel_rfl) (by simp) ?_
              refine AllReadyH.cons rfl (fun KQ hK => ?_) AllReadyH.nil
              rw [if_pos (by rfl)]
              refine wp_store_row (o := ⟨none, _, _, _, _, _⟩) 38 _ _ rfl _ (ints .u8 (c4)) rfl rfl 38 (ints .u8 z128) hg (by rw [ints_size, HC4.out]; exact sizeClash) (by rw [ints_size, ints_size, HC4.out]; rfl) (ints_one _ _) ?_
              simp only [Act.put]
              refine hK.out _ _ (Below.setRow hS hgg _) (fun hS => ?_)
              clear hK
              refine wpAnyH_done (by kernel_rfl) ?_ _
              go_wp2_with fail
              go_meet
              exact ⟨_, rfl, hgg, setRow_heap _ _ _ _ _ _ hg, hS⟩
          · rw [if_pos (by rfl)]
            go_simp
            have hg := new_block (t := 38) Hz.out hS
            have hgg := hS.size
            refine hK.out _ _ (hS.alloc hS.size _) (fun hS => ?_)
            clear hK
            refine wpAnyH_ready (rs := [11]) (by kernel_rfl) (by simp) ?_
            refine AllReadyH.cons rfl (fun KQ hK => ?_) AllReadyH.nil
            rw [if_pos (by rfl)]
            go_simp
            refine (S3.out _ (B0.out.trans (hS.mono B0.out.size))).mono ?_
            rintro e u2 ⟨rfl, hb⟩
            have hg := keep_block hg hb
            refine hK.out _ _ (below_call hS hS.size hb) (fun hS => ?_)
            clear hb hK
            refine wpAnyH_ready (rs := [15]) (by kernel_rfl) (by simp) ?_
            refine AllReadyH.cons rfl (fun KQ hK => ?_) AllReadyH.nil
            rw [if_pos (by rfl)]
            go_simp
            refine (S4.out _ (B0.out.trans (hS.mono B0.out.size))).mono ?_
            rintro e u3 ⟨rfl, hb⟩
            have hg := keep_block hg hb
            refine hK.out _ _ (below_call hS hS.size hb) (fun hS => ?_)
            clear hb hK
            refine take_at (i := 16) (v := .agg (ints .u8 (c4))) rfl rfl (by kernel_rfl) (by kernel_rfl) (by kernel_rfl) (fun _ _ _ h => h) (yields_built (by rfl) 38 _ (ints .u8 (c4)) rfl (by simp only [List.map_toArray, List.map_cons, List.map_nil]; exact HB.out)) hS ?_
            try simp only [List.setIfInBounds_toArray, List.set_cons_zero, List.set_cons_succ]
            refine wpAnyH_ready (rs := [18]) (by kernel_rfl) (by simp) ?_
            refine AllReadyH.cons rfl (fun KQ hK => ?_) AllReadyH.nil
            rw [if_pos (by rfl)]
            refine wp_store_row (o := ⟨none, _, _, _, _, _⟩) 38 _ _ rfl _ (ints .u8 (c4)) rfl rfl 38 (ints .u8 z128) hg (by rw [ints_size, HC4.out]; exact sizeClash) (by rw [ints_size, ints_size, HC4.out]; rfl) (ints_one _ _) ?_
            simp only [Act.put]
            refine hK.out _ _ (Below.setRow hS hgg _) (fun hS => ?_)
            clear hK
            refine wpAnyH_done (by kernel_rfl) ?_ _
            go_wp2_with fail
            go_meet
            exact ⟨_, rfl, hgg, setRow_heap _ _ _ _ _ _ hg, hS⟩
        · rw [if_pos (by rfl)]
          go_simp
          have hg := new_block (t := 38) Hz.out hS
          have hgg := hS.size
          refine hK.out _ _ (hS.alloc hS.size _) (fun hS => ?_)
          clear hK
          refine wpAnyH_ready (rs := [7]) (by kernel_rfl) (by simp) ?_
          refine AllReadyH.cons rfl (fun KQ hK => ?_) AllReadyH.nil
          rw [if_pos (by rfl)]
          go_simp
          refine (S2.out _ (B0.out.trans (hS.mono B0.out.size))).mono ?_
          rintro e u1 ⟨rfl, hb⟩
          have hg := keep_block hg hb
          refine hK.out _ _ (below_call hS hS.size hb) (fun hS => ?_)
          clear hb hK
          refine wpAnyH_ready (rs := [11]) (by kernel_rfl) (by simp) ?_
          refine AllReadyH.cons rfl (fun KQ hK => ?_) AllReadyH.nil
          rw [if_pos (by rfl)]
          go_simp
          refine (S3.out _ (B0.out.trans (hS.mono B0.out.size))).mono ?_
          rintro e u2 ⟨rfl, hb⟩
          have hg := keep_block hg hb
          refine hK.out _ _ (below_call hS hS.size hb) (fun hS => ?_)
          clear hb hK
          refine wpAnyH_ready (rs := [15]) (by kernel_rfl) (by simp) ?_
          refine AllReadyH.cons rfl (fun KQ hK => ?_) AllReadyH.nil
          rw [if_pos (by rfl)]
          go_simp
          refine (S4.out _ (B0.out.trans (hS.mono B0.out.size))).mono ?_
          rintro e u3 ⟨rfl, hb⟩
          have hg := keep_block hg hb
          refine hK.out _ _ (below_call hS hS.size hb) (fun hS => ?_)
          clear hb hK
          refine take_at (i := 16) (v := .agg (ints .u8 (c4))) rfl rfl (by kernel_rfl) (by kernel_rfl) (by kernel_rfl) (fun _ _ _ h => h) (yields_built (by rfl) 38 _ (ints .u8 (c4)) rfl (by simp only [List.map_toArray, List.map_cons, List.map_nil]; exact HB.out)) hS ?_
          try simp only [List.setIfInBounds_toArray, List.set_cons_zero, List.set_cons_succ]
          refine wpAnyH_ready (rs := [18]) (by kernel_rfl) (by simp) ?_
          refine AllReadyH.cons rfl (fun KQ hK => ?_) AllReadyH.nil
          rw [if_pos (by rfl)]
          refine wp_store_row (o := ⟨none, _, _, _, _, _⟩) 38 _ _ rfl _ (ints .u8 (c4)) rfl rfl 38 (ints .u8 z128) hg (by rw [ints_size, HC4.out]; exact sizeClash) (by rw [ints_size, ints_size, HC4.out]; rfl) (ints_one _ _) ?_
          simp only [Act.put]
          refine hK.out _ _ (Below.setRow hS hgg _) (fun hS => ?_)
          clear hK
          refine wpAnyH_done (by kernel_rfl) ?_ _
          go_wp2_with fail
          go_meet
          exact ⟨_, rfl, hgg, setRow_heap _ _ _ _ _ _ hg, hS⟩
      · rw [if_pos (by rfl)]
        go_simp
        have hg := new_block (t := 38) Hz.out hS
        have hgg := hS.size
        refine hK.out _ _ (hS.alloc hS.size _) (fun hS => ?_)
        clear hK
        refine wpAnyH_ready (rs := [3]) (by kernel_rfl) (by simp) ?_
        refine AllReadyH.cons rfl (fun KQ hK => ?_) AllReadyH.nil
        rw [if_pos (by rfl)]
        go_simp
        refine (S1.out _ (B0.out.trans (hS.mono B0.out.size))).mono ?_
        rintro e u0 ⟨rfl, hb⟩
        have hg := keep_block hg hb
        refine hK.out _ _ (below_call hS hS.size hb) (fun hS => ?_)
        clear hb hK
        refine wpAnyH_ready (rs := [7]) (by kernel_rfl) (by simp) ?_
        refine AllReadyH.cons rfl (fun KQ hK => ?_) AllReadyH.nil
        rw [if_pos (by rfl)]
        go_simp
        refine (S2.out _ (B0.out.trans (hS.mono B0.out.size))).mono ?_
        rintro e u1 ⟨rfl, hb⟩
        have hg := keep_block hg hb
        refine hK.out _ _ (below_call hS hS.size hb) (fun hS => ?_)
        clear hb hK
        refine wpAnyH_ready (rs := [11]) (by kernel_rfl) (by simp) ?_
        refine AllReadyH.cons rfl (fun KQ hK => ?_) AllReadyH.nil
        rw [if_pos (by rfl)]
        go_simp
        refine (S3.out _ (B0.out.trans (hS.mono B0.out.size))).mono ?_
        rintro e u2 ⟨rfl, hb⟩
        have hg := keep_block hg hb
        refine hK.out _ _ (below_call hS hS.size hb) (fun hS => ?_)
        clear hb hK
        refine wpAnyH_ready (rs := [15]) (by kernel_rfl) (by simp) ?_
        refine AllReadyH.cons rfl (fun KQ hK => ?_) AllReadyH.nil
        rw [if_pos (by rfl)]
        go_simp
        refine (S4.out _ (B0.out.trans (hS.mono B0.out.size))).mono ?_
        rintro e u3 ⟨rfl, hb⟩
        have hg := keep_block hg hb
        refine hK.out _ _ (below_call hS hS.size hb) (fun hS => ?_)
        clear hb hK
        refine take_at (i := 16) (v := .agg (ints .u8 (c4))) rfl rfl (by kernel_rfl) (by kernel_rfl) (by kernel_rfl) (fun _ _ _ h => h) (yields_built (by rfl) 38 _ (ints .u8 (c4)) rfl (by simp only [List.map_toArray, List.map_cons, List.map_nil]; exact HB.out)) hS ?_
        try simp only [List.setIfInBounds_toArray, List.set_cons_zero, List.set_cons_succ]
        refine wpAnyH_ready (rs := [18]) (by kernel_rfl) (by simp) ?_
        refine AllReadyH.cons rfl (fun KQ hK => ?_) AllReadyH.nil
        rw [if_pos (by rfl)]
        refine wp_store_row (o := ⟨none, _, _, _, _, _⟩) 38 _ _ rfl _ (ints .u8 (c4)) rfl rfl 38 (ints .u8 z128) hg (by rw [ints_size, HC4.out]; exact sizeClash) (by rw [ints_size, ints_size, HC4.out]; rfl) (ints_one _ _) ?_
        simp only [Act.put]
        refine hK.out _ _ (Below.setRow hS hgg _) (fun hS => ?_)
        clear hK
        refine wpAnyH_done (by kernel_rfl) ?_ _
        go_wp2_with fail
        go_meet
        exact ⟨_, rfl, hgg, setRow_heap _ _ _ _ _ _ hg, hS⟩
    case rest =>
      obtain ⟨g, rfl, hgg, hG, hBX⟩ := hcut
      have B3 := Lib.hid (below_call B0.out B0.out.size hBX)
      have A3 := Lib.hid (keep_block A0.out hBX)
      have G3 := Lib.hid hG
      obtain ⟨r1, r2, r3, r4⟩ := HF4.out g _ hG
      have R1 := Lib.hid r1
      have R2 := Lib.hid r2
      have R3 := Lib.hid r3
      have R4 := Lib.hid r4
      clear r1 r2 r3 r4 hG hBX hgg
      by_cases e1 : x = u
      · rw [decide_eq_true e1] at Q1
        by_cases e2 : y = v
        · rw [decide_eq_true e2] at Q2
          have HN : Hid (¬ UU) := Lib.hid (fun h => HUD.out.1 h ⟨e1, e2⟩)
          have hq1 := Q1.out
          have hq2 := Q2.out
          clear e1 e2
          go_upto_region 5 with (first | (refine wpList_load_ints rfl 28 (.tmp 27) rfl g 0 rfl .u8 x _ R1.out Try.underlying28 rfl (by rw [T1.out]; exact sizeKey) ?_) | (refine wpList_load_ints rfl 28 (.tmp 29) rfl g 64 rfl .u8 u _ R3.out Try.underlying28 rfl (by rw [T3.out]; exact sizeKey) ?_) | (refine wpList_load_ints_g (by rfl) 28 (.tmp 33) rfl g 32 rfl .u8 y _ R2.out Try.underlying28 rfl (by rw [T2.out]; exact sizeKey) ?_) | (refine wpList_load_ints_g (by rfl) 28 (.tmp 35) rfl g 96 rfl .u8 v _ R4.out Try.underlying28 rfl (by rw [T4.out]; exact sizeKey) ?_))
          clear hq1 hq2
          by_cases hs : ss = st
          · rw [decide_eq_true hs] at HE2
            have HR := HNR.out HN.out hs
            have HRC := Lib.hid (fun U hU => IR.out HR.1 HR.2 U hU)
            clear hs HR
            have B4 := Lib.hid B3.out
            refine wp_region_held_drew (S := fun U => Below wc.heap.size wc U) (by kernel_rfl) ((Below.refl _ _).drew) (fun hS => ?_)
            refine take_at (i := 0) (v := .slice (some ⟨aa, ao + b * 32, none⟩) l ca) rfl rfl (by kernel_rfl) (by kernel_rfl) (by kernel_rfl) (fun _ _ _ h => h) (Or.inl ⟨by rfl, fun U hU => by go_simp⟩) hS ?_
            try simp only [List.setIfInBounds_toArray, List.set_cons_zero, List.set_cons_succ]
            refine take_at (i := 1) (v := .int .i64 (k : Int)) rfl rfl (by kernel_rfl) (by kernel_rfl) (by kernel_rfl) (fun _ _ _ h => h) (Or.inl ⟨by rfl, fun U hU => by go_simp⟩) hS ?_
            try simp only [List.setIfInBounds_toArray, List.set_cons_zero, List.set_cons_succ]
            refine take_at (i := 2) (v := .slice (some ⟨aa, ao + b * 32, none⟩) k ca) rfl rfl (by kernel_rfl) (by kernel_rfl) (by kernel_rfl) (fun _ _ _ h => h) (Or.inl ⟨by rfl, fun U hU => by go_simp⟩) hS ?_
            try simp only [List.setIfInBounds_toArray, List.set_cons_zero, List.set_cons_succ]
            refine take_at (i := 3) (v := .slice (some ⟨ab, bo + b * 32, none⟩) l cb) rfl rfl (by kernel_rfl) (by kernel_rfl) (by kernel_rfl) (fun _ _ _ h => h) (Or.inl ⟨by rfl, fun U hU => by go_simp⟩) hS ?_
            try simp only [List.setIfInBounds_toArray, List.set_cons_zero, List.set_cons_succ]
            refine take_at (i := 4) (v := .int .i64 (k : Int)) rfl rfl (by kernel_rfl) (by kernel_rfl) (by kernel_rfl) (fun _ _ _ h => h) (Or.inl ⟨by rfl, fun U hU => by go_simp⟩) hS ?_
            try simp only [List.setIfInBounds_toArray, List.set_cons_zero, List.set_cons_succ]
            refine take_at (i := 5) (v := .slice (some ⟨ab, bo + b * 32, none⟩) k cb) rfl rfl (by kernel_rfl) (by kernel_rfl) (by kernel_rfl) (fun _ _ _ h => h) (Or.inl ⟨by rfl, fun U hU => by go_simp⟩) hS ?_
            try simp only [List.setIfInBounds_toArray, List.set_cons_zero, List.set_cons_succ]
            refine wpAnyH_ready (rs := [6]) (by kernel_rfl) (by simp) ?_
            refine AllReadyH.cons rfl (fun KQ hK => ?_) AllReadyH.nil
            rw [if_pos (by rfl)]
            go_simp
            refine (HE2.out _ (B3.out.trans (hS.mono B3.out.size))).mono ?_
            rintro e u2 ⟨rfl, hb⟩
            refine hK.out _ _ (below_call hS hS.size hb) (fun hS => ?_)
            clear hb hK
            refine take_at (i := 7) (v := .bool false) rfl rfl (by kernel_rfl) (by kernel_rfl) (by kernel_rfl) (fun _ _ _ h => h) (Or.inl ⟨by rfl, fun U hU => by go_simp⟩) hS ?_
            try simp only [List.setIfInBounds_toArray, List.set_cons_zero, List.set_cons_succ]
            refine wpAnyH_done (by kernel_rfl) ?_ _
            have B5 := Lib.hid (B3.out.trans (hS.mono B3.out.size))
            have A5 := Lib.hid (keep_block A3.out hS)
            clear hS
            go_upto_region 7 with fail
            refine wp_region_held_drew (S := fun U => Below w.heap.size w U) (by kernel_rfl) B5.out.drew (fun hS => ?_)
            refine take_at (i := 0) (v := .slice (some ⟨aa, ao + b * 32, none⟩) l ca) rfl rfl (by kernel_rfl) (by kernel_rfl) (by kernel_rfl) (fun _ _ _ h => h) (Or.inl ⟨by rfl, fun U hU => by go_simp⟩) hS ?_
            try simp only [List.setIfInBounds_toArray, List.set_cons_zero, List.set_cons_succ]
            refine take_at (i := 1) (v := .int .i64 (k : Int)) rfl rfl (by kernel_rfl) (by kernel_rfl) (by kernel_rfl) (fun _ _ _ h => h) (Or.inl ⟨by rfl, fun U hU => by go_simp⟩) hS ?_
            try simp only [List.setIfInBounds_toArray, List.set_cons_zero, List.set_cons_succ]
            refine take_at (i := 2) (v := .slice (some ⟨aa, ao + b * 32 + k * 32, none⟩) (l - k) (ca - k)) rfl rfl (by kernel_rfl) (by kernel_rfl) (by kernel_rfl) (fun _ _ _ h => h) (Or.inl ⟨by rfl, fun U hU => by go_simp⟩) hS ?_
            try simp only [List.setIfInBounds_toArray, List.set_cons_zero, List.set_cons_succ]
            refine take_at (i := 3) (v := .slice (some ⟨ab, bo + b * 32, none⟩) l cb) rfl rfl (by kernel_rfl) (by kernel_rfl) (by kernel_rfl) (fun _ _ _ h => h) (Or.inl ⟨by rfl, fun U hU => by go_simp⟩) hS ?_
            try simp only [List.setIfInBounds_toArray, List.set_cons_zero, List.set_cons_succ]
            refine take_at (i := 4) (v := .int .i64 (k : Int)) rfl rfl (by kernel_rfl) (by kernel_rfl) (by kernel_rfl) (fun _ _ _ h => h) (Or.inl ⟨by rfl, fun U hU => by go_simp⟩) hS ?_
            try simp only [List.setIfInBounds_toArray, List.set_cons_zero, List.set_cons_succ]
            refine take_at (i := 5) (v := .slice (some ⟨ab, bo + b * 32 + k * 32, none⟩) (l - k) (cb - k)) rfl rfl (by kernel_rfl) (by kernel_rfl) (by kernel_rfl) (fun _ _ _ h => h) (Or.inl ⟨by rfl, fun U hU => by go_simp⟩) hS ?_
            try simp only [List.setIfInBounds_toArray, List.set_cons_zero, List.set_cons_succ]
            refine wpAnyH_ready (rs := [6]) (by kernel_rfl) (by simp) ?_
            refine AllReadyH.cons rfl (fun KQ hK => ?_) AllReadyH.nil
            rw [if_pos (by rfl)]
            go_simp
            refine (HRC.out _ hS).mono ?_
            rintro e u2 ⟨rfl, hb⟩
            have ha5 := A5.out
            have ha := keep_block (by exact ha5) hb
            refine hK.out _ _ (below_call hS hS.size hb) (fun hS => ?_)
            clear hb hK
            refine wpAnyH_ready (rs := [7]) (by kernel_rfl) (by simp) ?_
            refine AllReadyH.cons rfl (fun KQ hK => ?_) AllReadyH.nil
            rw [if_pos (by rfl)]
            refine wp_store_row (o := ⟨none, _, _, _, _, _⟩) 38 _ _ rfl _ (ints .u8 CK) rfl rfl 38 (ints .u8 z128) ha (by rw [ints_size, HVL.out]; exact sizeClash) (by rw [ints_size, ints_size, HVL.out]; rfl) (ints_one _ _) ?_
            simp only [Act.put]
            have hr3 := setRow_heap _ _ (ints .u8 z128) (ints .u8 CK) _ _ ha
            refine hK.out _ _ (Below.setRow hS (Nat.le_refl _) _) (fun hS => ?_)
            clear hK
            refine wpAnyH_done (by kernel_rfl) ?_ _
            go_wp2_with fail
            refine bodyPost_ret (results_cell_row rfl _ _ w.heap.size 38 (ints .u8 CK) (0, 0) _ rfl hr3 Try.underlying38 rfl (by rw [ints_size, HVL.out]; exact sizeClash)) rfl ⟨rfl, ?_⟩
            exact hS
          · rw [decide_eq_false hs] at HE2
            have HL := HNL.out HN.out hs
            have HRC := Lib.hid (fun U hU => IL.out HL.1 HL.2 U hU)
            clear hs HL
            have B4 := Lib.hid B3.out
            refine wp_region_held_drew (S := fun U => Below wc.heap.size wc U) (by kernel_rfl) ((Below.refl _ _).drew) (fun hS => ?_)
            refine take_at (i := 0) (v := .slice (some ⟨aa, ao + b * 32, none⟩) l ca) rfl rfl (by kernel_rfl) (by kernel_rfl) (by kernel_rfl) (fun _ _ _ h => h) (Or.inl ⟨by rfl, fun U hU => by go_simp⟩) hS ?_
            try simp only [List.setIfInBounds_toArray, List.set_cons_zero, List.set_cons_succ]
            refine take_at (i := 1) (v := .int .i64 (k : Int)) rfl rfl (by kernel_rfl) (by kernel_rfl) (by kernel_rfl) (fun _ _ _ h => h) (Or.inl ⟨by rfl, fun U hU => by go_simp⟩) hS ?_
            try simp only [List.setIfInBounds_toArray, List.set_cons_zero, List.set_cons_succ]
            refine take_at (i := 2) (v := .slice (some ⟨aa, ao + b * 32, none⟩) k ca) rfl rfl (by kernel_rfl) (by kernel_rfl) (by kernel_rfl) (fun _ _ _ h => h) (Or.inl ⟨by rfl, fun U hU => by go_simp⟩) hS ?_
            try simp only [List.setIfInBounds_toArray, List.set_cons_zero, List.set_cons_succ]
            refine take_at (i := 3) (v := .slice (some ⟨ab, bo + b * 32, none⟩) l cb) rfl rfl (by kernel_rfl) (by kernel_rfl) (by kernel_rfl) (fun _ _ _ h => h) (Or.inl ⟨by rfl, fun U hU => by go_simp⟩) hS ?_
            try simp only [List.setIfInBounds_toArray, List.set_cons_zero, List.set_cons_succ]
            refine take_at (i := 4) (v := .int .i64 (k : Int)) rfl rfl (by kernel_rfl) (by kernel_rfl) (by kernel_rfl) (fun _ _ _ h => h) (Or.inl ⟨by rfl, fun U hU => by go_simp⟩) hS ?_
            try simp only [List.setIfInBounds_toArray, List.set_cons_zero, List.set_cons_succ]
            refine take_at (i := 5) (v := .slice (some ⟨ab, bo + b * 32, none⟩) k cb) rfl rfl (by kernel_rfl) (by kernel_rfl) (by kernel_rfl) (fun _ _ _ h => h) (Or.inl ⟨by rfl, fun U hU => by go_simp⟩) hS ?_
            try simp only [List.setIfInBounds_toArray, List.set_cons_zero, List.set_cons_succ]
            refine wpAnyH_ready (rs := [6]) (by kernel_rfl) (by simp) ?_
            refine AllReadyH.cons rfl (fun KQ hK => ?_) AllReadyH.nil
            rw [if_pos (by rfl)]
            go_simp
            refine (HE2.out _ (B3.out.trans (hS.mono B3.out.size))).mono ?_
            rintro e u2 ⟨rfl, hb⟩
            refine hK.out _ _ (below_call hS hS.size hb) (fun hS => ?_)
            clear hb hK
            refine take_at (i := 7) (v := .bool true) rfl rfl (by kernel_rfl) (by kernel_rfl) (by kernel_rfl) (fun _ _ _ h => h) (Or.inl ⟨by rfl, fun U hU => by go_simp⟩) hS ?_
            try simp only [List.setIfInBounds_toArray, List.set_cons_zero, List.set_cons_succ]
            refine wpAnyH_done (by kernel_rfl) ?_ _
            have B5 := Lib.hid (B3.out.trans (hS.mono B3.out.size))
            have A5 := Lib.hid (keep_block A3.out hS)
            clear hS
            go_upto_region 6 with fail
            refine wp_region_held_drew (S := fun U => Below w.heap.size w U) (by kernel_rfl) B5.out.drew (fun hS => ?_)
            refine take_at (i := 0) (v := .slice (some ⟨aa, ao + b * 32, none⟩) l ca) rfl rfl (by kernel_rfl) (by kernel_rfl) (by kernel_rfl) (fun _ _ _ h => h) (Or.inl ⟨by rfl, fun U hU => by go_simp⟩) hS ?_
            try simp only [List.setIfInBounds_toArray, List.set_cons_zero, List.set_cons_succ]
            refine take_at (i := 1) (v := .int .i64 (k : Int)) rfl rfl (by kernel_rfl) (by kernel_rfl) (by kernel_rfl) (fun _ _ _ h => h) (Or.inl ⟨by rfl, fun U hU => by go_simp⟩) hS ?_
            try simp only [List.setIfInBounds_toArray, List.set_cons_zero, List.set_cons_succ]
            refine take_at (i := 2) (v := .slice (some ⟨aa, ao + b * 32, none⟩) k ca) rfl rfl (by kernel_rfl) (by kernel_rfl) (by kernel_rfl) (fun _ _ _ h => h) (Or.inl ⟨by rfl, fun U hU => by go_simp⟩) hS ?_
            try simp only [List.setIfInBounds_toArray, List.set_cons_zero, List.set_cons_succ]
            refine take_at (i := 3) (v := .slice (some ⟨ab, bo + b * 32, none⟩) l cb) rfl rfl (by kernel_rfl) (by kernel_rfl) (by kernel_rfl) (fun _ _ _ h => h) (Or.inl ⟨by rfl, fun U hU => by go_simp⟩) hS ?_
            try simp only [List.setIfInBounds_toArray, List.set_cons_zero, List.set_cons_succ]
            refine take_at (i := 4) (v := .int .i64 (k : Int)) rfl rfl (by kernel_rfl) (by kernel_rfl) (by kernel_rfl) (fun _ _ _ h => h) (Or.inl ⟨by rfl, fun U hU => by go_simp⟩) hS ?_
            try simp only [List.setIfInBounds_toArray, List.set_cons_zero, List.set_cons_succ]
            refine take_at (i := 5) (v := .slice (some ⟨ab, bo + b * 32, none⟩) k cb) rfl rfl (by kernel_rfl) (by kernel_rfl) (by kernel_rfl) (fun _ _ _ h => h) (Or.inl ⟨by rfl, fun U hU => by go_simp⟩) hS ?_
            try simp only [List.setIfInBounds_toArray, List.set_cons_zero, List.set_cons_succ]
            refine wpAnyH_ready (rs := [6]) (by kernel_rfl) (by simp) ?_
            refine AllReadyH.cons rfl (fun KQ hK => ?_) AllReadyH.nil
            rw [if_pos (by rfl)]
            go_simp
            refine (HRC.out _ hS).mono ?_
            rintro e u2 ⟨rfl, hb⟩
            have ha5 := A5.out
            have ha := keep_block (by exact ha5) hb
            refine hK.out _ _ (below_call hS hS.size hb) (fun hS => ?_)
            clear hb hK
            refine wpAnyH_ready (rs := [7]) (by kernel_rfl) (by simp) ?_
            refine AllReadyH.cons rfl (fun KQ hK => ?_) AllReadyH.nil
            rw [if_pos (by rfl)]
            refine wp_store_row (o := ⟨none, _, _, _, _, _⟩) 38 _ _ rfl _ (ints .u8 CK) rfl rfl 38 (ints .u8 z128) ha (by rw [ints_size, HVL.out]; exact sizeClash) (by rw [ints_size, ints_size, HVL.out]; rfl) (ints_one _ _) ?_
            simp only [Act.put]
            have hr3 := setRow_heap _ _ (ints .u8 z128) (ints .u8 CK) _ _ ha
            refine hK.out _ _ (Below.setRow hS (Nat.le_refl _) _) (fun hS => ?_)
            clear hK
            refine wpAnyH_done (by kernel_rfl) ?_ _
            go_wp2_with fail
            refine bodyPost_ret (results_cell_row rfl _ _ w.heap.size 38 (ints .u8 CK) (0, 0) _ rfl hr3 Try.underlying38 rfl (by rw [ints_size, HVL.out]; exact sizeClash)) rfl ⟨rfl, ?_⟩
            exact hS
        · rw [decide_eq_false e2] at Q2
          have HF : Hid (CK = c4) := Lib.hid (HU.out (HUD.out.2 (fun h => e2 h.2)))
          have hq1 := Q1.out
          have hq2 := Q2.out
          clear e1 e2
          go_wp2_with (first | (refine wpList_load_ints rfl 28 (.tmp 27) rfl g 0 rfl .u8 x _ R1.out Try.underlying28 rfl (by rw [T1.out]; exact sizeKey) ?_) | (refine wpList_load_ints rfl 28 (.tmp 29) rfl g 64 rfl .u8 u _ R3.out Try.underlying28 rfl (by rw [T3.out]; exact sizeKey) ?_) | (refine wpList_load_ints_g (by rfl) 28 (.tmp 33) rfl g 32 rfl .u8 y _ R2.out Try.underlying28 rfl (by rw [T2.out]; exact sizeKey) ?_) | (refine wpList_load_ints_g (by rfl) 28 (.tmp 35) rfl g 96 rfl .u8 v _ R4.out Try.underlying28 rfl (by rw [T4.out]; exact sizeKey) ?_) | (refine wpList_load_row rfl 38 (.tmp 6) rfl g rfl 38 (ints .u8 c4) (0, 0) _ G3.out Try.underlying38 rfl (by rw [ints_size, HC4.out]; exact sizeClash) ?_) | (refine wpList_store_row rfl 38 _ _ rfl w.heap.size (ints .u8 c4) rfl rfl 38 (ints .u8 z128) A3.out (by rw [ints_size, HC4.out]; exact sizeClash) (by rw [ints_size, ints_size, HC4.out]; rfl) (ints_one _ _) ?_))
          refine bodyPost_ret (results_cell_row rfl _ _ w.heap.size 38 (ints .u8 c4) (0, 0) _ rfl (setRow_heap _ _ (ints .u8 z128) _ _ _ A3.out) Try.underlying38 rfl (by rw [ints_size, HC4.out]; exact sizeClash)) rfl ⟨by rw [HF.out], ?_⟩
          exact Below.setRow B3.out (Nat.le_refl _) _
      · rw [decide_eq_false e1] at Q1
        have HF : Hid (CK = c4) := Lib.hid (HU.out (HUD.out.2 (fun h => e1 h.1)))
        have hq1 := Q1.out
        clear e1
        go_wp2_with (first | (refine wpList_load_ints rfl 28 (.tmp 27) rfl g 0 rfl .u8 x _ R1.out Try.underlying28 rfl (by rw [T1.out]; exact sizeKey) ?_) | (refine wpList_load_ints rfl 28 (.tmp 29) rfl g 64 rfl .u8 u _ R3.out Try.underlying28 rfl (by rw [T3.out]; exact sizeKey) ?_) | (refine wpList_load_row rfl 38 (.tmp 6) rfl g rfl 38 (ints .u8 c4) (0, 0) _ G3.out Try.underlying38 rfl (by rw [ints_size, HC4.out]; exact sizeClash) ?_) | (refine wpList_store_row rfl 38 _ _ rfl w.heap.size (ints .u8 c4) rfl rfl 38 (ints .u8 z128) A3.out (by rw [ints_size, HC4.out]; exact sizeClash) (by rw [ints_size, ints_size, HC4.out]; rfl) (ints_one _ _) ?_))
        refine bodyPost_ret (results_cell_row rfl _ _ w.heap.size 38 (ints .u8 c4) (0, 0) _ rfl (setRow_heap _ _ (ints .u8 z128) _ _ _ A3.out) Try.underlying38 rfl (by rw [ints_size, HC4.out]; exact sizeClash)) rfl ⟨by rw [HF.out], ?_⟩
        exact Below.setRow B3.out (Nat.le_refl _) _
end Go.Proofs.Ytcbcfjflaplkoaa
