/- Whether lists of entries are equal. Written by wip/gen/same1.py. -/
import Derived.Test.YtmkddiconpacnaaEnt
namespace Go.Proofs.Ytmkddiconpacnaa
open Go.ChangeShapes Go.WideShapes Go.ChangeAt Go.RowKit
set_option linter.unusedVariables false
set_option linter.unusedSimpArgs false
theorem toList_inj {a b : ByteArray} (h : a.toList = b.toList) : a = b := by
  have h1 : a.data.toList = b.data.toList := by rw [← ByteArray.toList_eq, ← ByteArray.toList_eq]; exact h
  cases a; cases b
  simpa using h1
theorem ents_ext {es fs : List ByteArray} (hl : es.length = fs.length) (h : ∀ j, j < es.length → tx es j = tx fs j) : es = fs := by
  apply List.ext_getElem? 
  intro i
  by_cases hi : i < es.length
  · rw [tx_lt hi, tx_lt (by omega), h i hi]
  · rw [List.getElem?_eq_none (by omega), List.getElem?_eq_none (by omega)]
set_option maxRecDepth 100000 in
set_option maxHeartbeats 4000000 in
theorem same_s (a b : Option Addr) (n m ca cb : Nat) (es fs : List ByteArray) (hn : n ≤ 1048576) (hm : m ≤ 1048576) (w : World) (hr : RdE w a n es) (hs : RdE w b m fs) :
    Calls Try.prog 115 #[.slice a n ca, .slice b m cb] w fun e w' => e = .returned (.bool (decide (es = fs))) ∧ Below w.heap.size w w' := by
  obtain ⟨V, hV⟩ : ∃ V, decide (es = fs) = V := ⟨_, rfl⟩
  rw [hV]
  have HV := Lib.hid hV
  clear hV
  have HR := Lib.hid hr
  have HS := Lib.hid hs
  clear hr hs
  by_cases hne : n = m
  · subst hne
    have HL := Lib.hid (show es.length = fs.length by rw [HR.out.1, HS.out.1])
    go_enter Try.func115, Try.ntmps115
    go_wp2_with fail
    go_loopw [5] (fun i wr => ∃ k : Nat, k ≤ n ∧ i = .int .i64 k ∧ (∀ j, j < 2 * k → tx es j = tx fs j) ∧ Below w.heap.size w wr) (fun i _ => n - (intOf i).toNat)
    case atStart => exact ⟨0, by omega, rfl, fun j hj => by omega, Below.refl _ _⟩
    case round =>
      obtain ⟨k, hk, rfl, hj, hb⟩ := hrel
      have HB := Lib.hid hb
      have HJ := Lib.hid hj
      clear hb hj
      by_cases hlt : k < n
      · have b0 : (0 : Int) ≤ (k : Int) := by omega
        have b1 : (k : Int) < (n : Int) := by omega
        have HR1 := Lib.hid (HR.out.below HB.out)
        have HS1 := Lib.hid (HS.out.below HB.out)
        have hl1 := HR.out.1
        obtain ⟨b', off, rfl⟩ := HR.out.form (by omega)
        obtain ⟨b2, off2, rfl⟩ := HS.out.form (by omega)
        have C1 := Lib.hid (fun U (hU : Below wr.heap.size wr U) => (HR1.out.below hU).at hlt)
        have C2 := Lib.hid (fun U (hU : Below wr.heap.size wr U) => (HS1.out.below hU).at hlt)
        clear HR1 HS1
        by_cases h0 : tx es (2 * k) = tx fs (2 * k)
        · by_cases h1 : tx es (2 * k + 1) = tx fs (2 * k + 1)
          · have HJ' := Lib.hid (show ∀ j, j < 2 * (k + 1) → tx es j = tx fs j from fun j hj => by
              rcases (show j < 2 * k ∨ j = 2 * k ∨ j = 2 * k + 1 by omega) with h | h | h
              · exact HJ.out j h
              · rw [h]; exact h0
              · rw [h]; exact h1)
            rw [← h0, ← h1] at C2
            clear h0 h1
            generalize tx es (2 * k) = nm at C1 C2
            generalize tx es (2 * k + 1) = vl at C1 C2
            go_wp2_with fail
            refine wp_region_held_drew (S := Below (wr).heap.size (wr)) (by kernel_rfl) ((Below.refl _ _).drew) (fun hS => ?_)
            refine takeS (i := 0) (v := .slice (some ⟨b', off, none⟩) n ca) rfl rfl (by kernel_rfl) (by kernel_rfl) (by kernel_rfl) (fun _ _ _ h => h) (Or.inl ⟨by rfl, fun U hU => by go_simp⟩) hS ?_
            try simp only [List.setIfInBounds_toArray, List.set_cons_zero, List.set_cons_succ]
            refine takeS (i := 1) (v := .int .i64 (k : Int)) rfl rfl (by kernel_rfl) (by kernel_rfl) (by kernel_rfl) (fun _ _ _ h => h) (Or.inl ⟨by rfl, fun U hU => by go_simp⟩) hS ?_
            try simp only [List.setIfInBounds_toArray, List.set_cons_zero, List.set_cons_succ]
            refine takeS (i := 2) (v := .pointer (some ⟨b', off + k * 2, none⟩)) rfl rfl (by kernel_rfl) (by kernel_rfl) (by kernel_rfl) (fun _ _ _ h => h) (Or.inl ⟨by rfl, fun U hU => by go_simp⟩) hS ?_
            try simp only [List.setIfInBounds_toArray, List.set_cons_zero, List.set_cons_succ]
            refine takeS (i := 3) (v := .agg #[.string nm, .string vl]) rfl rfl (by kernel_rfl) (by kernel_rfl) (by kernel_rfl) (fun _ _ _ h => h) (Or.inl ⟨by rfl, fun U hU => by obtain ⟨c0, c1⟩ := C1.out U hU; go_simp⟩) hS ?_
            try simp only [List.setIfInBounds_toArray, List.set_cons_zero, List.set_cons_succ]
            refine takeS (i := 4) (v := .slice (some ⟨b2, off2, none⟩) n cb) rfl rfl (by kernel_rfl) (by kernel_rfl) (by kernel_rfl) (fun _ _ _ h => h) (Or.inl ⟨by rfl, fun U hU => by go_simp⟩) hS ?_
            try simp only [List.setIfInBounds_toArray, List.set_cons_zero, List.set_cons_succ]
            refine takeS (i := 5) (v := .int .i64 (k : Int)) rfl rfl (by kernel_rfl) (by kernel_rfl) (by kernel_rfl) (fun _ _ _ h => h) (Or.inl ⟨by rfl, fun U hU => by go_simp⟩) hS ?_
            try simp only [List.setIfInBounds_toArray, List.set_cons_zero, List.set_cons_succ]
            refine takeS (i := 6) (v := .pointer (some ⟨b2, off2 + k * 2, none⟩)) rfl rfl (by kernel_rfl) (by kernel_rfl) (by kernel_rfl) (fun _ _ _ h => h) (Or.inl ⟨by rfl, fun U hU => by go_simp⟩) hS ?_
            try simp only [List.setIfInBounds_toArray, List.set_cons_zero, List.set_cons_succ]
            refine takeS (i := 7) (v := .agg #[.string nm, .string vl]) rfl rfl (by kernel_rfl) (by kernel_rfl) (by kernel_rfl) (fun _ _ _ h => h) (Or.inl ⟨by rfl, fun U hU => by obtain ⟨c0, c1⟩ := C2.out U hU; go_simp⟩) hS ?_
            try simp only [List.setIfInBounds_toArray, List.set_cons_zero, List.set_cons_succ]
            refine takeS (i := 8) (v := .bool false) rfl rfl (by kernel_rfl) (by kernel_rfl) (by kernel_rfl) (fun _ _ _ h => h) (Or.inl ⟨by rfl, fun U hU => by go_simp⟩) hS ?_
            try simp only [List.setIfInBounds_toArray, List.set_cons_zero, List.set_cons_succ]
            refine wpAnyH_done (by kernel_rfl) ?_ _
            have HB1 := Lib.hid (HB.out.trans (hS.mono HB.out.size))
            clear hS
            go_wp2_with fail
            go_roundw
            case rel => exact ⟨k + 1, by omega, by go_num, HJ'.out, HB1.out⟩
            case measure => simp [intOf]; omega
          · have HF : V = false := by rw [← HV.out]; exact decide_eq_false (fun h => h1 (by rw [h]))
            subst HF
            rw [← h0] at C2
            have hq : ¬ (tx es (2 * k + 1)).toList = (tx fs (2 * k + 1)).toList := fun h => h1 (toList_inj h)
            clear h0 h1 HV
            generalize tx es (2 * k) = nm at C1 C2
            generalize tx es (2 * k + 1) = vl at C1 hq
            generalize tx fs (2 * k + 1) = vl2 at C2 hq
            go_wp2_with fail
            refine wp_region_held_drew (S := Below (wr).heap.size (wr)) (by kernel_rfl) ((Below.refl _ _).drew) (fun hS => ?_)
            refine takeS (i := 0) (v := .slice (some ⟨b', off, none⟩) n ca) rfl rfl (by kernel_rfl) (by kernel_rfl) (by kernel_rfl) (fun _ _ _ h => h) (Or.inl ⟨by rfl, fun U hU => by go_simp⟩) hS ?_
            try simp only [List.setIfInBounds_toArray, List.set_cons_zero, List.set_cons_succ]
            refine takeS (i := 1) (v := .int .i64 (k : Int)) rfl rfl (by kernel_rfl) (by kernel_rfl) (by kernel_rfl) (fun _ _ _ h => h) (Or.inl ⟨by rfl, fun U hU => by go_simp⟩) hS ?_
            try simp only [List.setIfInBounds_toArray, List.set_cons_zero, List.set_cons_succ]
            refine takeS (i := 2) (v := .pointer (some ⟨b', off + k * 2, none⟩)) rfl rfl (by kernel_rfl) (by kernel_rfl) (by kernel_rfl) (fun _ _ _ h => h) (Or.inl ⟨by rfl, fun U hU => by go_simp⟩) hS ?_
            try simp only [List.setIfInBounds_toArray, List.set_cons_zero, List.set_cons_succ]
            refine takeS (i := 3) (v := .agg #[.string nm, .string vl]) rfl rfl (by kernel_rfl) (by kernel_rfl) (by kernel_rfl) (fun _ _ _ h => h) (Or.inl ⟨by rfl, fun U hU => by obtain ⟨c0, c1⟩ := C1.out U hU; go_simp⟩) hS ?_
            try simp only [List.setIfInBounds_toArray, List.set_cons_zero, List.set_cons_succ]
            refine takeS (i := 4) (v := .slice (some ⟨b2, off2, none⟩) n cb) rfl rfl (by kernel_rfl) (by kernel_rfl) (by kernel_rfl) (fun _ _ _ h => h) (Or.inl ⟨by rfl, fun U hU => by go_simp⟩) hS ?_
            try simp only [List.setIfInBounds_toArray, List.set_cons_zero, List.set_cons_succ]
            refine takeS (i := 5) (v := .int .i64 (k : Int)) rfl rfl (by kernel_rfl) (by kernel_rfl) (by kernel_rfl) (fun _ _ _ h => h) (Or.inl ⟨by rfl, fun U hU => by go_simp⟩) hS ?_
            try simp only [List.setIfInBounds_toArray, List.set_cons_zero, List.set_cons_succ]
            refine takeS (i := 6) (v := .pointer (some ⟨b2, off2 + k * 2, none⟩)) rfl rfl (by kernel_rfl) (by kernel_rfl) (by kernel_rfl) (fun _ _ _ h => h) (Or.inl ⟨by rfl, fun U hU => by go_simp⟩) hS ?_
            try simp only [List.setIfInBounds_toArray, List.set_cons_zero, List.set_cons_succ]
            refine takeS (i := 7) (v := .agg #[.string nm, .string vl2]) rfl rfl (by kernel_rfl) (by kernel_rfl) (by kernel_rfl) (fun _ _ _ h => h) (Or.inl ⟨by rfl, fun U hU => by obtain ⟨c0, c1⟩ := C2.out U hU; go_simp⟩) hS ?_
            try simp only [List.setIfInBounds_toArray, List.set_cons_zero, List.set_cons_succ]
            refine takeS (i := 8) (v := .bool true) rfl rfl (by kernel_rfl) (by kernel_rfl) (by kernel_rfl) (fun _ _ _ h => h) (Or.inl ⟨by rfl, fun U hU => by go_simp⟩) hS ?_
            try simp only [List.setIfInBounds_toArray, List.set_cons_zero, List.set_cons_succ]
            refine wpAnyH_done (by kernel_rfl) ?_ _
            have HB1 := Lib.hid (HB.out.trans (hS.mono HB.out.size))
            clear hS
            go_wp2
            go_ret
            exact ⟨rfl, HB1.out⟩
        · have HF : V = false := by rw [← HV.out]; exact decide_eq_false (fun h => h0 (by rw [h]))
          subst HF
          have hq : ¬ (tx es (2 * k)).toList = (tx fs (2 * k)).toList := fun h => h0 (toList_inj h)
          clear h0 HV
          generalize tx es (2 * k) = nm at C1 hq
          generalize tx fs (2 * k) = nm2 at C2 hq
          generalize tx es (2 * k + 1) = vl at C1
          generalize tx fs (2 * k + 1) = vl2 at C2
          go_wp2_with fail
          refine wp_region_held_drew (S := Below (wr).heap.size (wr)) (by kernel_rfl) ((Below.refl _ _).drew) (fun hS => ?_)
          refine takeS (i := 0) (v := .slice (some ⟨b', off, none⟩) n ca) rfl rfl (by kernel_rfl) (by kernel_rfl) (by kernel_rfl) (fun _ _ _ h => h) (Or.inl ⟨by rfl, fun U hU => by go_simp⟩) hS ?_
          try simp only [List.setIfInBounds_toArray, List.set_cons_zero, List.set_cons_succ]
          refine takeS (i := 1) (v := .int .i64 (k : Int)) rfl rfl (by kernel_rfl) (by kernel_rfl) (by kernel_rfl) (fun _ _ _ h => h) (Or.inl ⟨by rfl, fun U hU => by go_simp⟩) hS ?_
          try simp only [List.setIfInBounds_toArray, List.set_cons_zero, List.set_cons_succ]
          refine takeS (i := 2) (v := .pointer (some ⟨b', off + k * 2, none⟩)) rfl rfl (by kernel_rfl) (by kernel_rfl) (by kernel_rfl) (fun _ _ _ h => h) (Or.inl ⟨by rfl, fun U hU => by go_simp⟩) hS ?_
          try simp only [List.setIfInBounds_toArray, List.set_cons_zero, List.set_cons_succ]
          refine takeS (i := 3) (v := .agg #[.string nm, .string vl]) rfl rfl (by kernel_rfl) (by kernel_rfl) (by kernel_rfl) (fun _ _ _ h => h) (Or.inl ⟨by rfl, fun U hU => by obtain ⟨c0, c1⟩ := C1.out U hU; go_simp⟩) hS ?_
          try simp only [List.setIfInBounds_toArray, List.set_cons_zero, List.set_cons_succ]
          refine takeS (i := 4) (v := .slice (some ⟨b2, off2, none⟩) n cb) rfl rfl (by kernel_rfl) (by kernel_rfl) (by kernel_rfl) (fun _ _ _ h => h) (Or.inl ⟨by rfl, fun U hU => by go_simp⟩) hS ?_
          try simp only [List.setIfInBounds_toArray, List.set_cons_zero, List.set_cons_succ]
          refine takeS (i := 5) (v := .int .i64 (k : Int)) rfl rfl (by kernel_rfl) (by kernel_rfl) (by kernel_rfl) (fun _ _ _ h => h) (Or.inl ⟨by rfl, fun U hU => by go_simp⟩) hS ?_
          try simp only [List.setIfInBounds_toArray, List.set_cons_zero, List.set_cons_succ]
          refine takeS (i := 6) (v := .pointer (some ⟨b2, off2 + k * 2, none⟩)) rfl rfl (by kernel_rfl) (by kernel_rfl) (by kernel_rfl) (fun _ _ _ h => h) (Or.inl ⟨by rfl, fun U hU => by go_simp⟩) hS ?_
          try simp only [List.setIfInBounds_toArray, List.set_cons_zero, List.set_cons_succ]
          refine takeS (i := 7) (v := .agg #[.string nm2, .string vl2]) rfl rfl (by kernel_rfl) (by kernel_rfl) (by kernel_rfl) (fun _ _ _ h => h) (Or.inl ⟨by rfl, fun U hU => by obtain ⟨c0, c1⟩ := C2.out U hU; go_simp⟩) hS ?_
          try simp only [List.setIfInBounds_toArray, List.set_cons_zero, List.set_cons_succ]
          refine takeS (i := 8) (v := .bool true) rfl rfl (by kernel_rfl) (by kernel_rfl) (by kernel_rfl) (fun _ _ _ h => h) (Or.inl ⟨by rfl, fun U hU => by go_simp⟩) hS ?_
          try simp only [List.setIfInBounds_toArray, List.set_cons_zero, List.set_cons_succ]
          refine wpAnyH_done (by kernel_rfl) ?_ _
          have HB1 := Lib.hid (HB.out.trans (hS.mono HB.out.size))
          clear hS
          go_wp2
          go_ret
          exact ⟨rfl, HB1.out⟩
      · obtain rfl : k = n := by omega
        have HF : V = true := by rw [← HV.out]; exact decide_eq_true (ents_ext HL.out (fun j hj => HJ.out j (by rw [HR.out.1] at hj; exact hj)))
        subst HF
        go_wp2
        go_ret
        exact ⟨rfl, HB.out⟩
  · have HF : V = false := by rw [← HV.out]; exact decide_eq_false (fun h => hne (by have h1 := HR.out.1; have h2 := HS.out.1; rw [h] at h1; omega))
    subst HF
    have hq : ¬ (n : Int) = (m : Int) := by omega
    go_enter Try.func115, Try.ntmps115
    go_wp2
    go_ret
    exact ⟨rfl, Below.refl _ _⟩
theorem same_spec (a b : Option Addr) (n m ca cb : Nat) (es fs : List ByteArray) (hn : n ≤ 1048576) (hm : m ≤ 1048576) (w : World) (hr : RdE w a n es) (hs : RdE w b m fs) :
    Calls Try.prog 67 #[.slice a n ca, .slice b m cb] w fun e w' => e = .returned (.bool (decide (es = fs))) ∧ Below w.heap.size w w' := by
  have H := Lib.hid (same_s a b n m ca cb es fs hn hm w hr hs)
  generalize decide (es = fs) = V at H ⊢
  go_enter Try.func67, Try.ntmps67
  go_wp2_with fail
  refine H.out.mono ?_
  rintro e w1 ⟨rfl, hb⟩
  have HB := Lib.hid hb
  clear hb
  go_wp2_with fail
  go_ret
  exact ⟨rfl, HB.out⟩
end Go.Proofs.Ytmkddiconpacnaa
