/- PutEntry, by the program. Written by wip/gen/put2.py. -/
import Derived.Test.YtmkddiconpacnaaPutJ
import Derived.Test.YtmkddiconpacnaaTk
namespace Go.Proofs.Ytmkddiconpacnaa
open Go.ChangeShapes Go.WideShapes Go.ChangeAt Go.RowKit
set_option linter.unusedVariables false
set_option linter.unusedSimpArgs false
set_option maxRecDepth 100000 in
set_option maxHeartbeats 4000000 in
theorem pt_impl (a : Option Addr) (n cap : Nat) (es : List ByteArray) (nm vl : ByteArray) (hn : n ≤ 65536) (hm : ∀ s ∈ es, s.size ≤ maxLen) (hz : nm.size ≤ maxLen) (hy : vl.size ≤ maxLen) (w : World) (hr : RdE w a n es) :
    Calls Try.prog 20 #[.slice a n cap, .agg #[.string nm, .string vl]] w fun e w' => ∃ v, e = .returned (.tuple #[v, .int .i64 (ptE es n nm vl)]) ∧ w'.ownsRow w.heap.size 31 2 v (ptN es n nm vl) ((ptV es n nm vl).map Value.string) ∧ Below w.heap.size w w' := by
  have A0 := heap_alloc_last w (.cells #[.string nm, .string vl] 31)
  have B0' := (Below.refl w.heap.size w).alloc (Nat.le_refl _) (.cells #[.string nm, .string vl] 31)
  obtain ⟨W0, hW0⟩ : ∃ W0, w.alloc (.cells #[.string nm, .string vl] 31) = W0 := ⟨_, rfl⟩
  rw [hW0] at A0 B0'
  have B0 := Lib.hid B0'
  have X0 := Lib.hid A0
  have HR := Lib.hid hr
  have HLN := hr.1
  have HOK := Lib.hid (fun (U : World) (hU : Below w.heap.size w U) => ok_impl a n cap es (by omega) hm U (hr.below hU))
  have HEN := Lib.hid (fun (U : World) => entry_impl nm vl hz hy U)
  have HC := Lib.hid (fun U (hU : Below w.heap.size w U) => clone_ents a n cap es (by omega) U (HR.out.below hU))
  unfold ptE ptN ptV
  clear hr hm hz hy A0 B0'
  by_cases hok : okE es n
  · rw [decide_eq_true hok] at HOK
    cases hv : entB nm vl with
    | true =>
      rw [hv] at HEN
      have hc : okE es n ∧ true = true := ⟨hok, rfl⟩
      rw [if_pos hc, if_pos hc, if_pos hc]
      clear hc hv
      have hup := hok.up
      have hn64 := hok.1
      cases hf : fdE es n nm with
      | true =>
        obtain ⟨hA, hB⟩ := puA_found vl hup hf
        rw [if_neg (by rw [hB]; omega), if_neg (by rw [hB]; omega), if_neg (by rw [hB]; omega)]
        have h0 : 0 < n := by unfold fdE at hf; have := (of_decide_eq_true hf).1; omega
        have HD := Lib.hid (fun (B : Nat) (v : Value) (U : World) (hbU : B ≤ U.heap.size) (hU : U.ownsRow B 31 2 v n (es.map Value.string)) => (show Calls Try.prog 73 #[v, .agg #[.string nm, .string vl]] U fun e w' => ∃ v, e = .returned (.tuple #[v, .int .i64 0]) ∧ w'.ownsRow B 31 2 v (puB es n nm) ((puA es n nm vl).map Value.string) ∧ Below B U w' from by
          rcases hU.2 with ⟨rfl, e0⟩ | ⟨g, c, cur, rfl, _⟩
          · have := hU.1; rw [e0] at this; simp at this; omega
          · exact put_found g c n B es nm vl hn64 hup hf HLN U hbU hU))
        clear hA hB hf hup h0 hok HLN hn64
        generalize puB es n nm = b at HD ⊢
        generalize puA es n nm vl = l at HD ⊢
        go_enter Try.func20, Try.ntmps20
        go_wp2_with fail
        clear hW0
        refine (HOK.out _ B0.out).mono ?_
        rintro e w1 ⟨rfl, hb⟩
        have B1 := Lib.hid (below_call B0.out B0.out.size hb)
        have X1 := Lib.hid (keep_block X0.out hb)
        clear hb
        have q0 := cell_of_row _ w.heap.size 0 _ _ _ X1.out
        have q1 := cell_of_row _ w.heap.size 1 _ _ _ X1.out
        go_wp2_with fail
        clear q0 q1
        refine (HEN.out _).mono ?_
        rintro e w2 ⟨rfl, hb⟩
        have B2 := Lib.hid (below_call B1.out B1.out.size hb)
        have X2 := Lib.hid (keep_block X1.out hb)
        clear hb
        go_upto_region 3 with fail
        refine wp_region_held_drew (S := Below (w2).heap.size (w2)) (by kernel_rfl) ((Below.refl _ _).drew) (fun hS => ?_)
        refine takeS (i := 0) (v := .slice a n cap) rfl rfl (by kernel_rfl) (by kernel_rfl) (by kernel_rfl) (fun _ _ _ h => h) (Or.inl ⟨by rfl, fun U hU => by go_simp⟩) hS ?_
        try simp only [List.setIfInBounds_toArray, List.set_cons_zero, List.set_cons_succ]
        refine takeS (i := 2) (v := .agg #[.string nm, .string vl]) rfl rfl (by kernel_rfl) (by kernel_rfl) (by kernel_rfl) (fun _ _ _ h => h) (Or.inl ⟨by rfl, fun U hU => by have q0 := cell_of_row _ w.heap.size 0 _ _ _ (keep_block X2.out hU); have q1 := cell_of_row _ w.heap.size 1 _ _ _ (keep_block X2.out hU); go_simp⟩) hS ?_
        try simp only [List.setIfInBounds_toArray, List.set_cons_zero, List.set_cons_succ]
        refine wpAnyH_ready (rs := [1]) (by kernel_rfl) (by simp) ?_
        refine AllReadyH.cons rfl (fun KQ hK => ?_) AllReadyH.nil
        rw [if_pos (by rfl)]
        go_simp
        refine (HC.out _ (B2.out.trans (hS.mono B2.out.size))).mono ?_
        rintro e w3 ⟨v, rfl, ho, hb⟩
        have B3 := Lib.hid (below_call B2.out B2.out.size (below_call hS hS.size hb))
        have O3 := Lib.hid (ownsE_base hS.size ho)
        clear ho
        refine hK.out _ _ (below_call hS hS.size hb) (fun hS => ?_)
        clear hb hK
        refine wpAnyH_ready (rs := [3]) (by kernel_rfl) (by simp) ?_
        refine AllReadyH.cons rfl (fun KQ hK => ?_) AllReadyH.nil
        rw [if_pos (by rfl)]
        go_simp
        refine (HD.out _ v _ hS.size O3.out).mono ?_
        rintro e w4 ⟨v4, rfl, ho, hb⟩
        have O4 := Lib.hid (ownsE_base B2.out.size ho)
        have B4 := Lib.hid (B3.out.trans (hb.mono B2.out.size))
        refine hK.out _ _ (hS.trans hb) (fun hS => ?_)
        clear hb hK ho
        refine takeS (i := 4) (v := v4) rfl rfl (by kernel_rfl) (by kernel_rfl) (by kernel_rfl) (fun _ _ _ h => h) (Or.inl ⟨by rfl, fun U hU => by go_simp⟩) hS ?_
        try simp only [List.setIfInBounds_toArray, List.set_cons_zero, List.set_cons_succ]
        refine takeS (i := 5) (v := .int .i64 0) rfl rfl (by kernel_rfl) (by kernel_rfl) (by kernel_rfl) (fun _ _ _ h => h) (Or.inl ⟨by rfl, fun U hU => by go_simp⟩) hS ?_
        try simp only [List.setIfInBounds_toArray, List.set_cons_zero, List.set_cons_succ]
        refine takeS (i := 6) (v := v4) rfl rfl (by kernel_rfl) (by kernel_rfl) (by kernel_rfl) (fun _ _ _ h => h) (Or.inl ⟨by rfl, fun U hU => by go_simp⟩) hS ?_
        try simp only [List.setIfInBounds_toArray, List.set_cons_zero, List.set_cons_succ]
        refine takeS (i := 7) (v := .int .i64 0) rfl rfl (by kernel_rfl) (by kernel_rfl) (by kernel_rfl) (fun _ _ _ h => h) (Or.inl ⟨by rfl, fun U hU => by go_simp⟩) hS ?_
        try simp only [List.setIfInBounds_toArray, List.set_cons_zero, List.set_cons_succ]
        refine wpAnyH_done (by kernel_rfl) ?_ _
        go_wp2_with fail
        go_ret2
        exact ⟨_, rfl, O4.out, B4.out⟩
      | false =>
        obtain ⟨hA, hB⟩ := puA_new vl hup hf
        by_cases hlt : n < 64
        · rw [if_neg (by rw [hB]; omega), if_neg (by rw [hB]; omega), if_neg (by rw [hB]; omega)]
          have HD := Lib.hid (fun (B : Nat) (v : Value) (U : World) (hbU : B ≤ U.heap.size) (hU : U.ownsRow B 31 2 v n (es.map Value.string)) => put_new v n B es nm vl hlt hup hf HLN U hbU hU)
          clear hA hB hf hup hok HLN hn64 hlt
          generalize puB es n nm = b at HD ⊢
          generalize puA es n nm vl = l at HD ⊢
          go_enter Try.func20, Try.ntmps20
          go_wp2_with fail
          clear hW0
          refine (HOK.out _ B0.out).mono ?_
          rintro e w1 ⟨rfl, hb⟩
          have B1 := Lib.hid (below_call B0.out B0.out.size hb)
          have X1 := Lib.hid (keep_block X0.out hb)
          clear hb
          have q0 := cell_of_row _ w.heap.size 0 _ _ _ X1.out
          have q1 := cell_of_row _ w.heap.size 1 _ _ _ X1.out
          go_wp2_with fail
          clear q0 q1
          refine (HEN.out _).mono ?_
          rintro e w2 ⟨rfl, hb⟩
          have B2 := Lib.hid (below_call B1.out B1.out.size hb)
          have X2 := Lib.hid (keep_block X1.out hb)
          clear hb
          go_upto_region 3 with fail
          refine wp_region_held_drew (S := Below (w2).heap.size (w2)) (by kernel_rfl) ((Below.refl _ _).drew) (fun hS => ?_)
          refine takeS (i := 0) (v := .slice a n cap) rfl rfl (by kernel_rfl) (by kernel_rfl) (by kernel_rfl) (fun _ _ _ h => h) (Or.inl ⟨by rfl, fun U hU => by go_simp⟩) hS ?_
          try simp only [List.setIfInBounds_toArray, List.set_cons_zero, List.set_cons_succ]
          refine takeS (i := 2) (v := .agg #[.string nm, .string vl]) rfl rfl (by kernel_rfl) (by kernel_rfl) (by kernel_rfl) (fun _ _ _ h => h) (Or.inl ⟨by rfl, fun U hU => by have q0 := cell_of_row _ w.heap.size 0 _ _ _ (keep_block X2.out hU); have q1 := cell_of_row _ w.heap.size 1 _ _ _ (keep_block X2.out hU); go_simp⟩) hS ?_
          try simp only [List.setIfInBounds_toArray, List.set_cons_zero, List.set_cons_succ]
          refine wpAnyH_ready (rs := [1]) (by kernel_rfl) (by simp) ?_
          refine AllReadyH.cons rfl (fun KQ hK => ?_) AllReadyH.nil
          rw [if_pos (by rfl)]
          go_simp
          refine (HC.out _ (B2.out.trans (hS.mono B2.out.size))).mono ?_
          rintro e w3 ⟨v, rfl, ho, hb⟩
          have B3 := Lib.hid (below_call B2.out B2.out.size (below_call hS hS.size hb))
          have O3 := Lib.hid (ownsE_base hS.size ho)
          clear ho
          refine hK.out _ _ (below_call hS hS.size hb) (fun hS => ?_)
          clear hb hK
          refine wpAnyH_ready (rs := [3]) (by kernel_rfl) (by simp) ?_
          refine AllReadyH.cons rfl (fun KQ hK => ?_) AllReadyH.nil
          rw [if_pos (by rfl)]
          go_simp
          refine (HD.out _ v _ hS.size O3.out).mono ?_
          rintro e w4 ⟨v4, rfl, ho, hb⟩
          have O4 := Lib.hid (ownsE_base B2.out.size ho)
          have B4 := Lib.hid (B3.out.trans (hb.mono B2.out.size))
          refine hK.out _ _ (hS.trans hb) (fun hS => ?_)
          clear hb hK ho
          refine takeS (i := 4) (v := v4) rfl rfl (by kernel_rfl) (by kernel_rfl) (by kernel_rfl) (fun _ _ _ h => h) (Or.inl ⟨by rfl, fun U hU => by go_simp⟩) hS ?_
          try simp only [List.setIfInBounds_toArray, List.set_cons_zero, List.set_cons_succ]
          refine takeS (i := 5) (v := .int .i64 0) rfl rfl (by kernel_rfl) (by kernel_rfl) (by kernel_rfl) (fun _ _ _ h => h) (Or.inl ⟨by rfl, fun U hU => by go_simp⟩) hS ?_
          try simp only [List.setIfInBounds_toArray, List.set_cons_zero, List.set_cons_succ]
          refine takeS (i := 6) (v := v4) rfl rfl (by kernel_rfl) (by kernel_rfl) (by kernel_rfl) (fun _ _ _ h => h) (Or.inl ⟨by rfl, fun U hU => by go_simp⟩) hS ?_
          try simp only [List.setIfInBounds_toArray, List.set_cons_zero, List.set_cons_succ]
          refine takeS (i := 7) (v := .int .i64 0) rfl rfl (by kernel_rfl) (by kernel_rfl) (by kernel_rfl) (fun _ _ _ h => h) (Or.inl ⟨by rfl, fun U hU => by go_simp⟩) hS ?_
          try simp only [List.setIfInBounds_toArray, List.set_cons_zero, List.set_cons_succ]
          refine wpAnyH_done (by kernel_rfl) ?_ _
          go_wp2_with fail
          go_ret2
          exact ⟨_, rfl, O4.out, B4.out⟩
        · obtain rfl : n = 64 := by omega
          rw [if_pos (by rw [hB]; omega), if_pos (by rw [hB]; omega), if_pos (by rw [hB]; omega)]
          have HD := Lib.hid (fun (B : Nat) (v : Value) (U : World) (hU : U.ownsRow B 31 2 v 64 (es.map Value.string)) => put_full v B es nm vl hup hf HLN U hU)
          clear hA hB hf hup hok HLN hn64 hlt
          go_enter Try.func20, Try.ntmps20
          go_wp2_with fail
          clear hW0
          refine (HOK.out _ B0.out).mono ?_
          rintro e w1 ⟨rfl, hb⟩
          have B1 := Lib.hid (below_call B0.out B0.out.size hb)
          have X1 := Lib.hid (keep_block X0.out hb)
          clear hb
          have q0 := cell_of_row _ w.heap.size 0 _ _ _ X1.out
          have q1 := cell_of_row _ w.heap.size 1 _ _ _ X1.out
          go_wp2_with fail
          clear q0 q1
          refine (HEN.out _).mono ?_
          rintro e w2 ⟨rfl, hb⟩
          have B2 := Lib.hid (below_call B1.out B1.out.size hb)
          have X2 := Lib.hid (keep_block X1.out hb)
          clear hb
          go_upto_region 3 with fail
          refine wp_region_held_drew (S := Below (w2).heap.size (w2)) (by kernel_rfl) ((Below.refl _ _).drew) (fun hS => ?_)
          refine takeS (i := 0) (v := .slice a 64 cap) rfl rfl (by kernel_rfl) (by kernel_rfl) (by kernel_rfl) (fun _ _ _ h => h) (Or.inl ⟨by rfl, fun U hU => by go_simp⟩) hS ?_
          try simp only [List.setIfInBounds_toArray, List.set_cons_zero, List.set_cons_succ]
          refine takeS (i := 2) (v := .agg #[.string nm, .string vl]) rfl rfl (by kernel_rfl) (by kernel_rfl) (by kernel_rfl) (fun _ _ _ h => h) (Or.inl ⟨by rfl, fun U hU => by have q0 := cell_of_row _ w.heap.size 0 _ _ _ (keep_block X2.out hU); have q1 := cell_of_row _ w.heap.size 1 _ _ _ (keep_block X2.out hU); go_simp⟩) hS ?_
          try simp only [List.setIfInBounds_toArray, List.set_cons_zero, List.set_cons_succ]
          refine wpAnyH_ready (rs := [1]) (by kernel_rfl) (by simp) ?_
          refine AllReadyH.cons rfl (fun KQ hK => ?_) AllReadyH.nil
          rw [if_pos (by rfl)]
          go_simp
          refine (HC.out _ (B2.out.trans (hS.mono B2.out.size))).mono ?_
          rintro e w3 ⟨v, rfl, ho, hb⟩
          have B3 := Lib.hid (below_call B2.out B2.out.size (below_call hS hS.size hb))
          have O3 := Lib.hid (ownsE_base hS.size ho)
          clear ho
          refine hK.out _ _ (below_call hS hS.size hb) (fun hS => ?_)
          clear hb hK
          refine wpAnyH_ready (rs := [3]) (by kernel_rfl) (by simp) ?_
          refine AllReadyH.cons rfl (fun KQ hK => ?_) AllReadyH.nil
          rw [if_pos (by rfl)]
          go_simp
          refine (HD.out _ v _ O3.out).mono ?_
          rintro e w4 ⟨rfl, hb⟩
          have B4 := Lib.hid (below_call B3.out B3.out.size hb)
          refine hK.out _ _ (below_call hS hS.size hb) (fun hS => ?_)
          clear hb hK
          refine takeS (i := 4) (v := .slice none 0 0) rfl rfl (by kernel_rfl) (by kernel_rfl) (by kernel_rfl) (fun _ _ _ h => h) (Or.inl ⟨by rfl, fun U hU => by go_simp⟩) hS ?_
          try simp only [List.setIfInBounds_toArray, List.set_cons_zero, List.set_cons_succ]
          refine takeS (i := 5) (v := .int .i64 3) rfl rfl (by kernel_rfl) (by kernel_rfl) (by kernel_rfl) (fun _ _ _ h => h) (Or.inl ⟨by rfl, fun U hU => by go_simp⟩) hS ?_
          try simp only [List.setIfInBounds_toArray, List.set_cons_zero, List.set_cons_succ]
          refine takeS (i := 6) (v := .slice none 0 0) rfl rfl (by kernel_rfl) (by kernel_rfl) (by kernel_rfl) (fun _ _ _ h => h) (Or.inl ⟨by rfl, fun U hU => by go_simp⟩) hS ?_
          try simp only [List.setIfInBounds_toArray, List.set_cons_zero, List.set_cons_succ]
          refine takeS (i := 7) (v := .int .i64 3) rfl rfl (by kernel_rfl) (by kernel_rfl) (by kernel_rfl) (fun _ _ _ h => h) (Or.inl ⟨by rfl, fun U hU => by go_simp⟩) hS ?_
          try simp only [List.setIfInBounds_toArray, List.set_cons_zero, List.set_cons_succ]
          refine wpAnyH_done (by kernel_rfl) ?_ _
          go_wp2_with fail
          go_ret2
          exact ⟨_, rfl, ⟨rfl, Or.inl ⟨rfl, rfl⟩⟩, B4.out⟩
    | false =>
      rw [hv] at HEN
      rw [if_neg (fun h => by simp at h), if_neg (fun h => by simp at h), if_neg (fun h => by simp at h)]
      clear hok hv
      go_enter Try.func20, Try.ntmps20
      go_wp2_with fail
      clear hW0
      refine (HOK.out _ B0.out).mono ?_
      rintro e w1 ⟨rfl, hb⟩
      have B1 := Lib.hid (below_call B0.out B0.out.size hb)
      have X1 := Lib.hid (keep_block X0.out hb)
      clear hb
      have q0 := cell_of_row _ w.heap.size 0 _ _ _ X1.out
      have q1 := cell_of_row _ w.heap.size 1 _ _ _ X1.out
      go_wp2_with fail
      clear q0 q1
      refine (HEN.out _).mono ?_
      rintro e w2 ⟨rfl, hb⟩
      have B2 := Lib.hid (below_call B1.out B1.out.size hb)
      have X2 := Lib.hid (keep_block X1.out hb)
      clear hb
      go_wp2_with fail
      go_ret2
      exact ⟨_, rfl, ⟨rfl, Or.inl ⟨rfl, rfl⟩⟩, B2.out⟩
  · rw [decide_eq_false hok] at HOK
    rw [if_neg (fun h => hok h.1), if_neg (fun h => hok h.1), if_neg (fun h => hok h.1)]
    clear hok
    go_enter Try.func20, Try.ntmps20
    go_wp2_with fail
    clear hW0
    refine (HOK.out _ B0.out).mono ?_
    rintro e w1 ⟨rfl, hb⟩
    have B1 := Lib.hid (below_call B0.out B0.out.size hb)
    clear hb
    go_wp2_with fail
    go_ret2
    exact ⟨_, rfl, ⟨rfl, Or.inl ⟨rfl, rfl⟩⟩, B1.out⟩
end Go.Proofs.Ytmkddiconpacnaa
