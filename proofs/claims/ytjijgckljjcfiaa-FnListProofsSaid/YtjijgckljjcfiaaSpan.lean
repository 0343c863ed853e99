/- Parts of trees, by the program. Written by wip/gen/span.py. -/
import Derived.Test.YtjijgckljjcfiaaTree
import Derived.Test.YtjijgckljjcfiaaShelf
import Derived.Test.YtjijgckljjcfiaaMixBs
namespace Go.Proofs.Ytjijgckljjcfiaa
open Go.ChangeShapes Go.WideShapes Go.ChangeAt Go.RowKit
set_option linter.unusedVariables false
theorem sizeSpan : (Try.prog.info? 96).map (·.size) = some 2 := by kernel_rfl
theorem bitLen_log : ∀ (f n : Nat), 0 < n → n < 2 ^ f → Lib.bitLenAux f n = Nat.log2 n + 1
  | 0, n, h0, h => by simp at h; omega
  | f + 1, n, h0, h => by
    rw [Lib.bitLenAux, if_neg (by omega)]
    by_cases h1 : n = 1
    · subst h1
      have : Lib.bitLenAux f (1 / 2) = 0 := by cases f <;> simp [Lib.bitLenAux]
      rw [this]
      rfl
    · rw [bitLen_log f (n / 2) (by omega) (by rw [Nat.pow_succ] at h; omega)]
      have : Nat.log2 n = Nat.log2 (n / 2) + 1 := by
        rw [Nat.log2_eq_iff (by omega)]
        have a := Nat.log2_self_le (n := n / 2) (by omega)
        have b := Nat.lt_log2_self (n := n / 2)
        rw [Nat.pow_succ] at b
        rw [Nat.pow_succ, Nat.pow_succ]
        omega
      omega
theorem bitLen_eq (n : Nat) (h0 : 0 < n) (h : n ≤ 1048576) : Lib.bitLen n = Nat.log2 n + 1 := bitLen_log 64 n h0 (by omega)
set_option maxHeartbeats 1000000 in
theorem count_impl (b e : Nat) (he : e ≤ 1048576) (hb : b ≤ e) (w : World) :
    Calls Try.prog 73 #[.agg #[.int .i64 (b : Int), .int .i64 (e : Int)]] w fun x w' => x = .returned (.int .i64 ((e - b : Nat) : Int)) ∧ Below w.heap.size w w' := by
  have hd : ((e - b : Nat) : Int) = (e : Int) - (b : Int) := by omega
  have HD := Lib.hid hd
  clear hd
  have h0 : (0 : Int) ≤ (b : Int) := by omega
  have h1 : (e : Int) ≤ 1048576 := by omega
  have h2 : (b : Int) ≤ (e : Int) := by omega
  go_enter Try.func73, Try.ntmps73
  go_wp2
  go_ret
  exact ⟨by rw [HD.out]; rfl, (Below.refl _ _).alloc (Nat.le_refl _) _⟩
theorem len64 (n : Nat) (h : n ≤ 1048576) (w : World) : Calls Try.prog 132 #[.int .u64 (n : Int)] w fun e w' => e = .returned (.int .i64 (Lib.bitLen n : Nat)) ∧ w = w' :=
  (Try.bits_Len64 n w (by omega) (by omega)).mono fun e w' ⟨h1, h2⟩ => ⟨by rw [h1, Int.toNat_natCast], h2.symm⟩
set_option maxHeartbeats 1000000 in
theorem power_impl (n : Nat) (h0 : 0 < n) (h : n ≤ 1048576) (w : World) :
    Calls Try.prog 115 #[.int .i64 (n : Int)] w fun x w' => x = .returned (.int .i64 ((half (n + 1) : Nat) : Int)) ∧ w = w' := by
  have hl := len64 n h w
  have hp : half (n + 1) = 2 ^ Nat.log2 n := rfl
  rw [bitLen_eq n h0 h] at hl
  have hk : Nat.log2 n ≤ 20 := by
    have := (Nat.log2_lt (n := n) (k := 21) (by omega)).2 (by omega)
    omega
  generalize Nat.log2 n = k at hl hp hk
  have HL := Lib.hid hl
  have HP := Lib.hid hp
  have HW : Hid (wrap64 ((2 : Int) ^ k) = ((2 ^ k : Nat) : Int)) := Lib.hid (by
    have hb : (2 : Nat) ^ k ≤ 2 ^ 20 := Nat.pow_le_pow_right (by omega) hk
    rw [show ((2 : Int) ^ k) = ((2 ^ k : Nat) : Int) by push_cast; rfl]
    generalize (2 : Nat) ^ k = p at hb
    unfold wrap64
    omega)
  clear hl hp
  have hw : IntKind.u64.wrap (n : Int) = n := by rw [IntKind.wrap_u64]; omega
  have hs : ((k + 1 : Nat) : Int) - 1 = (k : Int) := by omega
  have HS := Lib.hid hs
  clear hs
  have hz : (0 : Int) < (n : Int) := by omega
  have hz2 : (n : Int) ≤ 1048576 := by omega
  go_enter Try.func115, Try.ntmps115
  go_wp2_with fail
  refine HL.out.mono ?_
  rintro x w1 ⟨rfl, rfl⟩
  go_wp2_with fail
  go_ret
  exact ⟨by rw [HP.out, ← HW.out]; rfl, rfl⟩
/-- Two results, both of them rows that lie in blocks. -/
theorem results_row_row {P : Program} {fn : Func} {p q : Tmp} {ty : TypeId} (h : fn.results = #[.cell p ty, .cell q ty]) (tmps : Array Value) (w : World) (g k : Nat) (t : TypeId) (cs ds : Array Value) (fr fs : Nat × Nat) (d : TypeDesc)
    (hp : tmps.getD p undef = .pointer (some ⟨g, 0, none⟩)) (hg : w.heap[g]? = some (.cells cs t fr)) (hq : tmps.getD q undef = .pointer (some ⟨k, 0, none⟩)) (hk : w.heap[k]? = some (.cells ds t fs))
    (hu : P.underlying ty = some d) (hd : (match d with | .struct _ | .array _ _ => true | _ => false) = true) (hi : (P.info? ty).map (·.size) = some cs.size) (hj : (P.info? ty).map (·.size) = some ds.size) :
    (results fn tmps).run P w = .ok (.tuple #[.agg cs, .agg ds]) w := by
  have hp' : tmps[p]?.getD undef = .pointer (some ⟨g, 0, none⟩) := by simpa using hp
  have hq' : tmps[q]?.getD undef = .pointer (some ⟨k, 0, none⟩) := by simpa using hq
  simp [results, h, hp', hq', asAddr, run_loadVar_row w g t ty cs fr d hg hu hd hi, run_loadVar_row w k t ty ds fs d hk hu hd hj]
def spanA (b e : Nat) : Array Value := #[.int .i64 (b : Int), .int .i64 (e : Int)]
theorem spanA_size (b e : Nat) : (spanA b e).size = 2 := rfl
theorem spanA_one (b e : Nat) : (spanA b e).all (·.oneCell') = true := by simp [spanA, Value.oneCell']
set_option maxRecDepth 100000 in
set_option maxHeartbeats 2000000 in
theorem parts_impl (b e : Nat) (he : e ≤ 1048576) (hb : b + 2 ≤ e) (w : World) :
    Calls Try.prog 74 #[.agg #[.int .i64 (b : Int), .int .i64 (e : Int)]] w fun x w' => x = .returned (.tuple #[.agg (spanA b (b + half (e - b))), .agg (spanA (b + half (e - b)) e)]) ∧ Below w.heap.size w w' := by
  have hm1 := half_pos (e - b)
  have hm2 := half_lt (n := e - b) (by omega)
  have Hcnt := Lib.hid (fun W => count_impl b e he (by omega) W)
  have Hpow := Lib.hid (fun W => power_impl (e - b - 1) (by omega) (by omega) W)
  rw [show e - b - 1 + 1 = e - b by omega] at Hpow
  generalize half (e - b) = m at hm1 hm2 Hpow
  have c0 : (0 : Int) ≤ (b : Int) := by omega
  have c1 : (b : Int) + 2 ≤ (e : Int) := by omega
  have c2 : (e : Int) ≤ 1048576 := by omega
  have c3 : (0 : Int) < (m : Int) := by omega
  have c4 : (m : Int) < (e : Int) - (b : Int) := by omega
  have hsub : IntKind.i64.wrap (((e - b : Nat) : Int) - 1) = ((e - b - 1 : Nat) : Int) := by rw [IntKind.wrap_i64]; omega
  have hadd : IntKind.i64.wrap ((b : Int) + (m : Int)) = ((b + m : Nat) : Int) := by rw [IntKind.wrap_i64]; omega
  have HSUB := Lib.hid hsub
  have HADD := Lib.hid hadd
  clear hsub hadd
  have B3 := Lib.hid ((((Below.refl w.heap.size w).alloc (by simp) (.cells #[.int .i64 (b : Int), .int .i64 (e : Int)] 96)).alloc (by simp) (.cells #[.int .i64 0, .int .i64 0] 96)).alloc (by simp; omega) (.cells #[.int .i64 0, .int .i64 0] 96))
  have X0 := Lib.hid (heap3_0 w (.cells #[.int .i64 (b : Int), .int .i64 (e : Int)] 96) (.cells #[.int .i64 0, .int .i64 0] 96) (.cells #[.int .i64 0, .int .i64 0] 96))
  have X1 := Lib.hid (heap3_1 w (.cells #[.int .i64 (b : Int), .int .i64 (e : Int)] 96) (.cells #[.int .i64 0, .int .i64 0] 96) (.cells #[.int .i64 0, .int .i64 0] 96))
  have X2 := Lib.hid (heap3_2 w (.cells #[.int .i64 (b : Int), .int .i64 (e : Int)] 96) (.cells #[.int .i64 0, .int .i64 0] 96) (.cells #[.int .i64 0, .int .i64 0] 96))
  go_enter Try.func74, Try.ntmps74
  go_wp2_with fail
  obtain ⟨W1, hW1⟩ : ∃ W1, ((w.alloc (.cells #[.int .i64 (b : Int), .int .i64 (e : Int)] 96)).alloc (.cells #[.int .i64 0, .int .i64 0] 96)).alloc (.cells #[.int .i64 0, .int .i64 0] 96) = W1 := ⟨_, rfl⟩
  rw [hW1] at B3 X0 X1 X2 ⊢
  have HSZ : Hid (W1.heap.size = w.heap.size + 1 + 1 + 1) := Lib.hid (by rw [← hW1]; simp)
  clear hW1
  refine wp_region_held_drew (S := Below W1.heap.size W1) (by kernel_rfl) ((Below.refl _ _).drew) (fun hS => ?_)
  refine take_at (i := 0) (v := .pointer (some ⟨w.heap.size, 0, none⟩)) rfl rfl (by kernel_rfl) (by kernel_rfl) (by kernel_rfl) (fun _ _ _ h => h) (Or.inl ⟨by rfl, fun W hW => by go_simp⟩) hS ?_
  refine take_at (i := 1) (v := .int .i64 (b : Int)) rfl rfl (by kernel_rfl) (by kernel_rfl) (by kernel_rfl) (fun _ _ _ h => h) (Or.inl ⟨by rfl, fun W hW => by
    have hc := cell_of_row W w.heap.size 0 _ _ _ ((hW.block w.heap.size (by have := HSZ.out; omega)).trans X0.out)
    have hc' : W.cell? ⟨w.heap.size, 0, none⟩ = some (.int .i64 (b : Int)) := hc
    go_simp⟩) hS ?_
  refine take_at (i := 2) (v := .agg #[.int .i64 (b : Int), .int .i64 (e : Int)]) rfl rfl (by kernel_rfl) (by kernel_rfl) (by kernel_rfl) (fun _ _ _ h => h) (yields_box (by rfl) 96 _ rfl w.heap.size rfl _ 96 _ X0.out Try.underlying96 rfl sizeSpan) hS ?_
  simp only [List.setIfInBounds_toArray, List.set_cons_zero, List.set_cons_succ]
  refine wpAnyH_ready (rs := [3]) (by kernel_rfl) (by simp) ?_
  refine AllReadyH.cons rfl (fun K hK => ?_) AllReadyH.nil
  rw [if_pos (by rfl)]
  go_simp
  refine (Hcnt.out _).mono ?_
  rintro x u1 ⟨rfl, hb'⟩
  refine hK.out _ _ (below_call hS hS.size hb') (fun hS => ?_)
  clear hb' hK
  refine take_at (i := 4) (v := .int .i64 ((e - b - 1 : Nat) : Int)) rfl rfl (by kernel_rfl) (by kernel_rfl) (by kernel_rfl) (fun _ _ _ h => h) (Or.inl ⟨by rfl, fun W hW => by (go_simp; rw [HSUB.out])⟩) hS ?_
  simp only [List.setIfInBounds_toArray, List.set_cons_zero, List.set_cons_succ]
  refine wpAnyH_ready (rs := [5]) (by kernel_rfl) (by simp) ?_
  refine AllReadyH.cons rfl (fun K hK => ?_) AllReadyH.nil
  rw [if_pos (by rfl)]
  go_simp
  refine (Hpow.out _).mono ?_
  rintro x u2 ⟨rfl, rfl⟩
  refine hK.out _ _ hS (fun hS => ?_)
  clear hK
  refine take_at (i := 6) (v := .int .i64 ((b + m : Nat) : Int)) rfl rfl (by kernel_rfl) (by kernel_rfl) (by kernel_rfl) (fun _ _ _ h => h) (Or.inl ⟨by rfl, fun W hW => by (go_simp; rw [HADD.out]; omega)⟩) hS ?_
  refine take_at (i := 7) (v := .int .i64 ((b + m : Nat) : Int)) rfl rfl (by kernel_rfl) (by kernel_rfl) (by kernel_rfl) (fun _ _ _ h => h) (Or.inl ⟨by rfl, fun W hW => by go_simp⟩) hS ?_
  refine wpAnyH_done (by kernel_rfl) ?_ _
  simp only [List.setIfInBounds_toArray, List.set_cons_zero, List.set_cons_succ]
  have D2 := Lib.hid hS
  clear hS
  have X20 := Lib.hid ((D2.out.block w.heap.size (by have := HSZ.out; omega)).trans X0.out)
  have X21 := Lib.hid ((D2.out.block (w.heap.size + 1) (by have := HSZ.out; omega)).trans X1.out)
  have X22 := Lib.hid ((D2.out.block (w.heap.size + 1 + 1) (by have := HSZ.out; omega)).trans X2.out)
  have B4 := Lib.hid (B3.out.trans (D2.out.mono B3.out.size))
  clear X0 X1 X2 D2 HSZ
  go_wp2_with fail
  refine wp_region_held_drew (S := fun W => W.heap[w.heap.size]? = some (.cells #[.int .i64 (b : Int), .int .i64 (e : Int)] 96)) (by kernel_rfl) X20.out (fun hS => ?_)
  refine take_at (i := 0) (v := .pointer (some ⟨w.heap.size, 0, none⟩)) rfl rfl (by kernel_rfl) (by kernel_rfl) (by kernel_rfl) (fun _ _ _ h => h) (Or.inl ⟨by rfl, fun W hW => by go_simp⟩) hS ?_
  refine take_at (i := 1) (v := .int .i64 (b : Int)) rfl rfl (by kernel_rfl) (by kernel_rfl) (by kernel_rfl) (fun _ _ _ h => h) (Or.inl ⟨by rfl, fun W hW => by
    have hc := cell_of_row W w.heap.size 0 _ _ _ hW
    have hc' : W.cell? ⟨w.heap.size, 0, none⟩ = some (.int .i64 (b : Int)) := hc
    go_simp⟩) hS ?_
  refine take_at (i := 2) (v := .int .i64 ((b + m : Nat) : Int)) rfl rfl (by kernel_rfl) (by kernel_rfl) (by kernel_rfl) (fun _ _ _ h => h) (Or.inl ⟨by rfl, fun W hW => by go_simp⟩) hS ?_
  simp only [List.setIfInBounds_toArray, List.set_cons_zero, List.set_cons_succ]
  refine take_at (i := 3) (v := .agg (spanA b (b + m))) rfl rfl (by kernel_rfl) (by kernel_rfl) (by kernel_rfl) (fun _ _ _ h => h) (Or.inl ⟨by rfl, fun W hW => by (go_simp; rfl)⟩) hS ?_
  refine take_at (i := 4) (v := .int .i64 ((b + m : Nat) : Int)) rfl rfl (by kernel_rfl) (by kernel_rfl) (by kernel_rfl) (fun _ _ _ h => h) (Or.inl ⟨by rfl, fun W hW => by go_simp⟩) hS ?_
  refine take_at (i := 5) (v := .pointer (some ⟨w.heap.size, 1, none⟩)) rfl rfl (by kernel_rfl) (by kernel_rfl) (by kernel_rfl) (fun _ _ _ h => h) (Or.inl ⟨by rfl, fun W hW => by go_simp⟩) hS ?_
  simp only [List.setIfInBounds_toArray, List.set_cons_zero, List.set_cons_succ]
  refine take_at (i := 6) (v := .int .i64 (e : Int)) rfl rfl (by kernel_rfl) (by kernel_rfl) (by kernel_rfl) (fun _ _ _ h => h) (Or.inl ⟨by rfl, fun W hW => by
    have hc := cell_of_row W w.heap.size 1 _ _ _ hW
    have hc' : W.cell? ⟨w.heap.size, 1, none⟩ = some (.int .i64 (e : Int)) := hc
    go_simp⟩) hS ?_
  simp only [List.setIfInBounds_toArray, List.set_cons_zero, List.set_cons_succ]
  refine take_at (i := 7) (v := .agg (spanA (b + m) e)) rfl rfl (by kernel_rfl) (by kernel_rfl) (by kernel_rfl) (fun _ _ _ h => h) (Or.inl ⟨by rfl, fun W hW => by (go_simp; rfl)⟩) hS ?_
  simp only [List.setIfInBounds_toArray, List.set_cons_zero, List.set_cons_succ]
  refine wpAnyH_ready (rs := [8]) (by kernel_rfl) (by simp) ?_
  refine AllReadyH.cons rfl (fun K hK => ?_) AllReadyH.nil
  rw [if_pos (by rfl)]
  refine wp_store_row (o := ⟨none, _, _, _, _, _⟩) 96 _ _ rfl _ (spanA b (b + m)) rfl rfl 96 _ (X21.out) sizeSpan rfl (spanA_one _ _) ?_
  simp only [Act.put]
  refine hK.out _ _ ((setRow_other _ _ _ _ (by omega)).trans hS) (fun hS => ?_)
  clear hK
  refine wpAnyH_ready (rs := [9]) (by kernel_rfl) (by simp) ?_
  refine AllReadyH.cons rfl (fun K hK => ?_) AllReadyH.nil
  rw [if_pos (by rfl)]
  refine wp_store_row (o := ⟨none, _, _, _, _, _⟩) 96 _ _ rfl _ (spanA (b + m) e) rfl rfl 96 _ ((setRow_other _ _ _ _ (by omega)).trans X22.out) sizeSpan rfl (spanA_one _ _) ?_
  simp only [Act.put]
  refine hK.out _ _ ((setRow_other _ _ _ _ (by omega)).trans hS) (fun hS => ?_)
  clear hK
  refine wpAnyH_done (by kernel_rfl) ?_ _
  go_wp2_with fail
  refine bodyPost_ret (results_row_row rfl _ _ (w.heap.size + 1) (w.heap.size + 1 + 1) 96 (spanA b (b + m)) (spanA (b + m) e) (0, 0) (0, 0) _ rfl ((setRow_other _ _ _ _ (by omega)).trans (setRow_heap _ _ _ _ _ _ X21.out)) rfl (setRow_heap _ _ _ _ _ _ ((setRow_other _ _ _ _ (by omega)).trans X22.out)) Try.underlying96 rfl sizeSpan sizeSpan) rfl ⟨rfl, ?_⟩
  exact Below.setRow (g := w.heap.size + 1 + 1) (Below.setRow (g := w.heap.size + 1) B4.out.drew (by omega) _) (by omega) _
end Go.Proofs.Ytjijgckljjcfiaa
