/- CheckGrowth, by the specification. Written by wip/gen/cgs.py. -/
import Derived.Test.YtgpabgemkighhaaGrownS
import Derived.Test.YtgpabgemkighhaaCgI
import Derived.Test.YtgpabgemkighhaaPeakS
namespace Go.Proofs.Ytgpabgemkighhaa
open Go.ChangeShapes Go.WideShapes Go.ChangeAt Go.RowKit
set_option linter.unusedVariables false
set_option linter.unusedSimpArgs false
/-- What a tree that has grown is found to be, in one form. -/
def GrP (now K : List Int) (Q : Bool) (x : Ending) : Prop :=
  ∃ k A' a C' B' b D' ok, L32 k ∧ x = .returned (.tuple #[.agg (ints .u8 k), .slice A' a C', .slice B' b D', .bool ok]) ∧ (ok && decide (a = 0) && decide (b = 0) && decide (k = now)) = (Q && decide (K = now))
theorem GrownP.form {now K : List Int} {nP nO pq oq pp po K0 pb q0 : Nat} {x : Ending} (h : GrownP K nP nO pq oq pp po K0 pb q0 x) : GrP now K (decide (pq = nP) && decide (oq = nO)) x := by
  rcases h with ⟨h1, h2, A', C', B', D', rfl, hK, _⟩ | ⟨hlt, k, A', m', C', B', m2, D', hK, rfl⟩
  · refine ⟨K, A', _, C', B', _, D', true, hK, rfl, ?_⟩
    by_cases e1 : pq = nP
    · by_cases e2 : oq = nO
      · simp [e1, e2]
      · have : ¬ oq - nO = 0 := by omega
        simp [e1, e2, this]
    · have : ¬ pq - nP = 0 := by omega
      simp [e1, this]
  · refine ⟨k, A', _, C', B', _, D', false, hK, rfl, ?_⟩
    by_cases e1 : pq = nP
    · have : ¬ oq = nO := by omega
      simp [this]
    · simp [e1]
theorem cg_sum {m n P : Nat} {fl now : List Int} (h1 : 1 ≤ m) (h2 : m ≤ n) (h3 : n ≤ 256) (hk : ones m ≤ P) :
    ((decide (ones m = needP m n 0) && decide (P - ones m = needO m n 0)) && decide (kg2 m (ones m) (keyAt fl) n 0 0 0 = now)) = (decide (P = need (kdG m) n 0) && decide (kgen (kdG m) lfG (keyAt fl) n 0 0 = now)) := by
  have e1 : needP m n 0 = ones m := by rw [needP_ones n 0 (by omega) h3, Nat.sub_zero, Nat.min_eq_left h2]
  have e2 := need_PO m n 0 (by omega)
  have e3 := kg2_kgen (m := m) (K := ones m) (kf := keyAt fl) n 0 0 0 0 (by omega) (fun h => by omega) (fun _ => ⟨rfl, rfl⟩) (fun _ _ => by rw [Nat.zero_add]; exact e1)
  rw [e3, e2, e1]
  by_cases h : P = ones m + needO m n 0
  · have h4 : P - ones m = needO m n 0 := by omega
    rw [decide_eq_true h, decide_eq_true h4, decide_eq_true rfl, Bool.true_and]
  · have h4 : ¬ P - ones m = needO m n 0 := by omega
    rw [decide_eq_false h, decide_eq_false h4, Bool.and_false]
set_option maxRecDepth 100000 in
set_option maxHeartbeats 8000000 in
theorem cg_spec (old now : List Int) (ap : Option Addr) (P cp : Nat) (m n : Int) (fl : List Int) (hO : old.length = 32) (hN : now.length = 32) (hP : P ≤ 1048576) (hpc : P ≤ cp) (hm : cp ≤ maxLen) (fbp : ∀ z ∈ fl, 0 ≤ z ∧ z ≤ 255) (w : World) (hp : RdK w ap P fl) :
    Calls Try.prog 36 #[.agg (ints .u8 old), .int .i64 m, .agg (ints .u8 now), .int .i64 n, .slice ap P cp] w fun x w' => x = .returned (.tuple #[.bool (cgV old now m n P fl), .int .i64 (cgE m n P)]) ∧ Below w.heap.size w w' := by
  unfold cgV cgE
  have Hz := Lib.hid z32_ints
  have A0 := Lib.hid (heap_alloc2_old w (.cells (ints .u8 old) 23) (.cells (ints .u8 now) 23))
  have A1 := Lib.hid (heap_alloc2_new w (.cells (ints .u8 old) 23) (.cells (ints .u8 now) 23))
  have B3 := Lib.hid (((Below.refl w.heap.size w).alloc (Nat.le_refl _) (.cells (ints .u8 old) 23)).alloc (by simp) (.cells (ints .u8 now) 23))
  obtain ⟨W3, hW3⟩ : ∃ W3, (w.alloc (.cells (ints .u8 old) 23)).alloc (.cells (ints .u8 now) 23) = W3 := ⟨_, rfl⟩
  have HSZ : Hid (W3.heap.size = w.heap.size + 1 + 1) := Lib.hid (by rw [← hW3]; simp)
  rw [hW3] at A0 A1 B3
  by_cases h : 256 < P
  · rw [if_pos h, if_pos h]
    have k1 : (256 : Int) < (P : Int) := by omega
    go_enter Try.func36, Try.ntmps36
    go_wp2_with fail
    go_ret2
    exact ⟨rfl, B3.out⟩
  · rw [if_neg h, if_neg h]
    have k1 : ¬ (256 : Int) < (P : Int) := by omega
    by_cases h1 : 1 ≤ n ∧ n ≤ 256
    · have Ha := Lib.hid (fun U => in_true n 1 256 h1.1 h1.2 U)
      by_cases h2 : 1 ≤ m ∧ m ≤ n
      · have hC : cgC m n := ⟨h2.1, h2.2, h1.2⟩
        rw [if_pos hC, if_pos hC]
        have Hb := Lib.hid (fun U => in_true m 1 n h2.1 h2.2 U)
        have g1 := h2.1
        have g2 := h2.2
        have g3 := h1.2
        obtain ⟨m', rfl⟩ := Int.eq_ofNat_of_zero_le (show 0 ≤ m by omega)
        obtain ⟨n', rfl⟩ := Int.eq_ofNat_of_zero_le (show 0 ≤ n by omega)
        rw [Int.toNat_natCast, Int.toNat_natCast]
        have Hon := Lib.hid (fun U => ones_spec m' (by omega) U)
        have g2N : m' ≤ n' := by omega
        have g3N : n' ≤ 256 := by omega
        clear hC h1 h2
        by_cases h2 : P < ones m'
        · have e : cgB old now m' n' P fl = false := by unfold cgB; simp [show ¬ ones m' ≤ P by omega]
          rw [e]
          have k2 : (P : Int) < ((ones m' : Nat) : Int) := by omega
          generalize ones m' = K at Hon k2
          go_enter Try.func36, Try.ntmps36
          go_wp2_with fail
          refine (Ha.out _).mono ?_
          rintro x w5 ⟨rfl, rfl⟩
          go_wp2_with fail
          refine (Hb.out _).mono ?_
          rintro x w5 ⟨rfl, rfl⟩
          go_wp2_with fail
          refine (Hon.out _).mono ?_
          rintro x w5 ⟨rfl, rfl⟩
          go_upto_region 6 with fail
          refine wp_region_held_drew (S := Below (W3).heap.size (W3)) (by kernel_rfl) ((Below.refl _ _).drew) (fun hS => ?_)
          refine take_at (i := 0) (v := .slice ap P cp) rfl rfl (by kernel_rfl) (by kernel_rfl) (by kernel_rfl) (fun _ _ _ h => h) (Or.inl ⟨by rfl, fun U hU => by go_simp⟩) hS ?_
          try simp only [List.setIfInBounds_toArray, List.set_cons_zero, List.set_cons_succ]
          refine take_at (i := 1) (v := .int .i64 (P : Int)) rfl rfl (by kernel_rfl) (by kernel_rfl) (by kernel_rfl) (fun _ _ _ h => h) (Or.inl ⟨by rfl, fun U hU => by go_simp⟩) hS ?_
          try simp only [List.setIfInBounds_toArray, List.set_cons_zero, List.set_cons_succ]
          refine take_at (i := 2) (v := .int .i64 (K : Int)) rfl rfl (by kernel_rfl) (by kernel_rfl) (by kernel_rfl) (fun _ _ _ h => h) (Or.inl ⟨by rfl, fun U hU => by go_simp⟩) hS ?_
          try simp only [List.setIfInBounds_toArray, List.set_cons_zero, List.set_cons_succ]
          refine take_at (i := 3) (v := .bool true) rfl rfl (by kernel_rfl) (by kernel_rfl) (by kernel_rfl) (fun _ _ _ h => h) (Or.inl ⟨by rfl, fun U hU => by go_simp⟩) hS ?_
          try simp only [List.setIfInBounds_toArray, List.set_cons_zero, List.set_cons_succ]
          refine take_at (i := 4) (v := .bool true) rfl rfl (by kernel_rfl) (by kernel_rfl) (by kernel_rfl) (fun _ _ _ h => h) (Or.inl ⟨by rfl, fun U hU => by go_simp⟩) hS ?_
          try simp only [List.setIfInBounds_toArray, List.set_cons_zero, List.set_cons_succ]
          refine take_at (i := 5) (v := undef) rfl rfl (by kernel_rfl) (by kernel_rfl) (by kernel_rfl) (fun _ _ _ h => h) (Or.inr ⟨by rfl, rfl⟩) hS ?_
          try simp only [List.setIfInBounds_toArray, List.set_cons_zero, List.set_cons_succ]
          refine take_at (i := 6) (v := undef) rfl rfl (by kernel_rfl) (by kernel_rfl) (by kernel_rfl) (fun _ _ _ h => h) (Or.inr ⟨by rfl, rfl⟩) hS ?_
          try simp only [List.setIfInBounds_toArray, List.set_cons_zero, List.set_cons_succ]
          refine take_at (i := 7) (v := undef) rfl rfl (by kernel_rfl) (by kernel_rfl) (by kernel_rfl) (fun _ _ _ h => h) (Or.inr ⟨by rfl, rfl⟩) hS ?_
          try simp only [List.setIfInBounds_toArray, List.set_cons_zero, List.set_cons_succ]
          refine take_at (i := 8) (v := undef) rfl rfl (by kernel_rfl) (by kernel_rfl) (by kernel_rfl) (fun _ _ _ h => h) (Or.inr ⟨by rfl, rfl⟩) hS ?_
          try simp only [List.setIfInBounds_toArray, List.set_cons_zero, List.set_cons_succ]
          refine take_at (i := 9) (v := undef) rfl rfl (by kernel_rfl) (by kernel_rfl) (by kernel_rfl) (fun _ _ _ h => h) (Or.inr ⟨by rfl, rfl⟩) hS ?_
          try simp only [List.setIfInBounds_toArray, List.set_cons_zero, List.set_cons_succ]
          refine take_at (i := 10) (v := undef) rfl rfl (by kernel_rfl) (by kernel_rfl) (by kernel_rfl) (fun _ _ _ h => h) (Or.inr ⟨by rfl, rfl⟩) hS ?_
          try simp only [List.setIfInBounds_toArray, List.set_cons_zero, List.set_cons_succ]
          refine take_at (i := 11) (v := .bool true) rfl rfl (by kernel_rfl) (by kernel_rfl) (by kernel_rfl) (fun _ _ _ h => h) (Or.inl ⟨by rfl, fun U hU => by go_simp⟩) hS ?_
          try simp only [List.setIfInBounds_toArray, List.set_cons_zero, List.set_cons_succ]
          refine wpAnyH_done (by kernel_rfl) ?_ _
          go_wp2_with fail
          go_ret2
          exact ⟨rfl, B3.out.trans (hS.mono B3.out.size)⟩
        · have hK1 : 0 < ones m' := ones_pos m' (by omega) (by omega)
          obtain ⟨pb, po, rfl⟩ := hp.form (show 0 < P by omega)
          have Hof := Lib.hid (fun (U : World) (hU : Below w.heap.size w U) => of_spec pb po (ones m') cp (fl.take (32 * ones m')) hK1 (by omega) (fun z hz => fbp z (List.mem_of_mem_take hz)) U ((hp.below hU).take (by omega)))
          have HL := Lib.hid (ofR_good (fl := fl.take (32 * ones m')) (n := ones m') (by rw [List.length_take, hp.1]; omega) (fun z hz => fbp z (List.mem_of_mem_take hz)) hK1 (ones m' - 1)).1
          have e : cgB old now m' n' P fl = (decide (ofR (fl.take (32 * ones m')) (ones m') (ones m' - 1) = old) && (decide (P = need (kdG m') n' 0) && decide (kgen (kdG m') lfG (keyAt fl) n' 0 0 = now))) := by unfold cgB; rw [decide_eq_true (show ones m' ≤ P by omega), Bool.true_and]
          rw [e]
          clear e
          have k2 : ¬ (P : Int) < ((ones m' : Nat) : Int) := by omega
          have k3 : ((ones m' : Nat) : Int) ≤ (P : Int) := by omega
          have k4 : ((ones m' : Nat) : Int) ≤ (cp : Int) := by omega
          have k5 : ones m' ≤ cp := by omega
          have k6 : ¬ cp < ones m' := by omega
          have k7 : (0 : Int) ≤ ((ones m' : Nat) : Int) := by omega
          have k8 : ones m' ≤ P := by omega
          have k9 : (P : Int) ≤ (cp : Int) := by omega
          have hmm : mm m' 0 n' = (m' : Int) := by
            unfold mm
            split <;> omega
          have HG := Lib.hid (fun (U : World) (hU : Below w.heap.size w U) (B : Option Addr) (D : Nat) (h1 : 0 < P - ones m' → B = some ⟨pb, po + (ones m' + 0) * 32, none⟩) (h2 : P - ones m' ≤ D) (h3 : D ≤ maxLen) => by
            have := grown_spec w m' pb po P (ones m') n' fl g3N g2N k8 hP hp fbp n' 0 0 (ones m') 0 (P - ones m') cp D (some ⟨pb, po, none⟩) B U (by omega) (by omega) (by omega) (by omega) (fun _ => by rw [Nat.zero_mul, Nat.add_zero]) k5 hm h1 h2 h3 hU
            rw [hmm] at this
            exact this.mono (fun x w' h => (⟨h.1, h.2.form (now := now)⟩ : Below U.heap.size U w' ∧ GrP now (kg2 m' (ones m') (keyAt fl) n' 0 0 0) (decide (ones m' = needP m' n' 0) && decide (P - ones m' = needO m' n' 0)) x)))
          have HE := Lib.hid (cg_sum (now := now) (fl := fl) (P := P) (m := m') (n := n') (by omega) (by omega) (by omega) k8)
          have HOl := Lib.hid hO
          have HNl := Lib.hid hN
          have HPb := Lib.hid hP
          have Hm := Lib.hid hm
          have Hpc := Lib.hid hpc
          clear hp fbp hmm g3N g2N
          generalize (decide (P = need (kdG m') n' 0) && decide (kgen (kdG m') lfG (keyAt fl) n' 0 0 = now)) = V at HE ⊢
          generalize ofR (fl.take (32 * ones m')) (ones m') (ones m' - 1) = key at Hof HL ⊢
          generalize kg2 m' (ones m') (keyAt fl) n' 0 0 0 = KK at HG HE
          generalize (decide (ones m' = needP m' n' 0) && decide (P - ones m' = needO m' n' 0)) = QQ at HG HE
          generalize ones m' = K at Hon Hof HG k2 k3 k4 k5 k6 k7 k8 hK1 h2 ⊢
          go_enter Try.func36, Try.ntmps36
          go_wp2_with fail
          refine (Ha.out _).mono ?_
          rintro x w5 ⟨rfl, rfl⟩
          go_wp2_with fail
          refine (Hb.out _).mono ?_
          rintro x w5 ⟨rfl, rfl⟩
          go_wp2_with fail
          refine (Hon.out _).mono ?_
          rintro x w5 ⟨rfl, rfl⟩
          go_upto_region 6 with fail
          go_cut [42] (fun s42 wx => s42 = .bool (!decide (key = old)) ∧ Below W3.heap.size W3 wx)
          case first =>
            refine wp_region_held_drew (S := Below (W3).heap.size (W3)) (by kernel_rfl) ((Below.refl _ _).drew) (fun hS => ?_)
            refine take_at (i := 0) (v := .slice (some ⟨pb, po, none⟩) P cp) rfl rfl (by kernel_rfl) (by kernel_rfl) (by kernel_rfl) (fun _ _ _ h => h) (Or.inl ⟨by rfl, fun U hU => by go_simp⟩) hS ?_
            try simp only [List.setIfInBounds_toArray, List.set_cons_zero, List.set_cons_succ]
            refine take_at (i := 1) (v := .int .i64 (P : Int)) rfl rfl (by kernel_rfl) (by kernel_rfl) (by kernel_rfl) (fun _ _ _ h => h) (Or.inl ⟨by rfl, fun U hU => by go_simp⟩) hS ?_
            try simp only [List.setIfInBounds_toArray, List.set_cons_zero, List.set_cons_succ]
            refine take_at (i := 2) (v := .int .i64 (K : Int)) rfl rfl (by kernel_rfl) (by kernel_rfl) (by kernel_rfl) (fun _ _ _ h => h) (Or.inl ⟨by rfl, fun U hU => by go_simp⟩) hS ?_
            try simp only [List.setIfInBounds_toArray, List.set_cons_zero, List.set_cons_succ]
            refine take_at (i := 3) (v := .bool false) rfl rfl (by kernel_rfl) (by kernel_rfl) (by kernel_rfl) (fun _ _ _ h => h) (Or.inl ⟨by rfl, fun U hU => by go_simp⟩) hS ?_
            try simp only [List.setIfInBounds_toArray, List.set_cons_zero, List.set_cons_succ]
            refine take_at (i := 4) (v := .bool false) rfl rfl (by kernel_rfl) (by kernel_rfl) (by kernel_rfl) (fun _ _ _ h => h) (Or.inl ⟨by rfl, fun U hU => by go_simp⟩) hS ?_
            try simp only [List.setIfInBounds_toArray, List.set_cons_zero, List.set_cons_succ]
            refine take_at (i := 5) (v := .slice (some ⟨pb, po, none⟩) P cp) rfl rfl (by kernel_rfl) (by kernel_rfl) (by kernel_rfl) (fun _ _ _ h => h) (Or.inl ⟨by rfl, fun U hU => by go_simp⟩) hS ?_
            try simp only [List.setIfInBounds_toArray, List.set_cons_zero, List.set_cons_succ]
            refine take_at (i := 6) (v := .int .i64 (K : Int)) rfl rfl (by kernel_rfl) (by kernel_rfl) (by kernel_rfl) (fun _ _ _ h => h) (Or.inl ⟨by rfl, fun U hU => by go_simp⟩) hS ?_
            try simp only [List.setIfInBounds_toArray, List.set_cons_zero, List.set_cons_succ]
            refine take_at (i := 7) (v := .slice (some ⟨pb, po, none⟩) K cp) rfl rfl (by kernel_rfl) (by kernel_rfl) (by kernel_rfl) (fun _ _ _ h => h) (Or.inl ⟨by rfl, fun U hU => by go_simp⟩) hS ?_
            try simp only [List.setIfInBounds_toArray, List.set_cons_zero, List.set_cons_succ]
            refine take_at (i := 9) (v := .agg (ints .u8 old)) rfl rfl (by kernel_rfl) (by kernel_rfl) (by kernel_rfl) (fun _ _ _ h => h) (yields_box (by rfl) 23 _ rfl (w.heap.size) rfl _ 23 _ A0.out Try.underlying23 rfl (by rw [ints_size, HOl.out]; exact sizeKey)) hS ?_
            try simp only [List.setIfInBounds_toArray, List.set_cons_zero, List.set_cons_succ]
            refine wpAnyH_ready (rs := [8]) (by kernel_rfl) (by simp) ?_
            refine AllReadyH.cons rfl (fun KQ hK => ?_) AllReadyH.nil
            rw [if_pos (by rfl)]
            go_simp
            refine (Hof.out _ (B3.out.trans (hS.mono B3.out.size))).mono ?_
            rintro x w6 ⟨rfl, hb⟩
            refine hK.out _ _ (below_call hS hS.size hb) (fun hS => ?_)
            clear hb hK
            have hk0 := fun U => neqlKey key old HL.out HOl.out U
            refine take_at (i := 10) (v := .bool (!decide (key = old))) rfl rfl (by kernel_rfl) (by kernel_rfl) (by kernel_rfl) (fun _ _ _ h => h) (Or.inl ⟨by rfl, fun U hU => by go_simp⟩) hS ?_
            try simp only [List.setIfInBounds_toArray, List.set_cons_zero, List.set_cons_succ]
            refine take_at (i := 11) (v := .bool (!decide (key = old))) rfl rfl (by kernel_rfl) (by kernel_rfl) (by kernel_rfl) (fun _ _ _ h => h) (Or.inl ⟨by rfl, fun U hU => by go_simp⟩) hS ?_
            try simp only [List.setIfInBounds_toArray, List.set_cons_zero, List.set_cons_succ]
            refine wpAnyH_done (by kernel_rfl) ?_ _
            go_wp2_with fail
            go_meet
            exact ⟨rfl, hS⟩
          case rest =>
            obtain ⟨rfl, hbc⟩ := hcut
            have BC := Lib.hid hbc
            have BWC := Lib.hid (B3.out.trans (hbc.mono B3.out.size))
            have C1 := Lib.hid (keep_block A1.out hbc)
            clear hbc hW3
            by_cases hko : key = old
            · have HKO := Lib.hid hko
              have e2 : (!decide (key = old)) = false := by rw [decide_eq_true hko]; rfl
              rw [e2]
              clear e2 hko
              by_cases hcK : cp = K
              · subst hcK
                obtain rfl : P = cp := by have := Hpc.out; omega
                simp only [Nat.sub_self] at HG
                go_upto_region 8 with fail
                go_cut [13, 14, 15, 16] (fun s13 s14 s15 s16 wx => ∃ k A' a C' B' b D' ok g, s13 = .pointer (some ⟨g, 0, none⟩) ∧ s14 = .slice A' a C' ∧ s15 = .slice B' b D' ∧ s16 = .bool ok ∧ L32 k ∧ (ok && decide (a = 0) && decide (b = 0) && decide (k = now)) = (QQ && decide (KK = now)) ∧ wx.heap[g]? = some (.cells (ints .u8 k) 23) ∧ wc.heap.size ≤ g ∧ Below wc.heap.size wc wx)
                case first =>
                  refine wp_region_held_drew (S := Below (wc).heap.size (wc)) (by kernel_rfl) ((Below.refl _ _).drew) (fun hS => ?_)
                  refine take_at (i := 0) (v := .int .i64 (n' : Int)) rfl rfl (by kernel_rfl) (by kernel_rfl) (by kernel_rfl) (fun _ _ _ h => h) (Or.inl ⟨by rfl, fun U hU => by go_simp⟩) hS ?_
                  try simp only [List.setIfInBounds_toArray, List.set_cons_zero, List.set_cons_succ]
                  refine take_at (i := 1) (v := .int .i64 (m' : Int)) rfl rfl (by kernel_rfl) (by kernel_rfl) (by kernel_rfl) (fun _ _ _ h => h) (Or.inl ⟨by rfl, fun U hU => by go_simp⟩) hS ?_
                  try simp only [List.setIfInBounds_toArray, List.set_cons_zero, List.set_cons_succ]
                  refine take_at (i := 2) (v := .slice (some ⟨pb, po, none⟩) P P) rfl rfl (by kernel_rfl) (by kernel_rfl) (by kernel_rfl) (fun _ _ _ h => h) (Or.inl ⟨by rfl, fun U hU => by go_simp⟩) hS ?_
                  try simp only [List.setIfInBounds_toArray, List.set_cons_zero, List.set_cons_succ]
                  refine take_at (i := 3) (v := .int .i64 (P : Int)) rfl rfl (by kernel_rfl) (by kernel_rfl) (by kernel_rfl) (fun _ _ _ h => h) (Or.inl ⟨by rfl, fun U hU => by go_simp⟩) hS ?_
                  try simp only [List.setIfInBounds_toArray, List.set_cons_zero, List.set_cons_succ]
                  refine take_at (i := 4) (v := .slice (some ⟨pb, po, none⟩) P P) rfl rfl (by kernel_rfl) (by kernel_rfl) (by kernel_rfl) (fun _ _ _ h => h) (Or.inl ⟨by rfl, fun U hU => by go_simp⟩) hS ?_
                  try simp only [List.setIfInBounds_toArray, List.set_cons_zero, List.set_cons_succ]
                  refine take_at (i := 5) (v := .slice (some ⟨pb, po, none⟩) P P) rfl rfl (by kernel_rfl) (by kernel_rfl) (by kernel_rfl) (fun _ _ _ h => h) (Or.inl ⟨by rfl, fun U hU => by go_simp⟩) hS ?_
                  try simp only [List.setIfInBounds_toArray, List.set_cons_zero, List.set_cons_succ]
                  refine take_at (i := 6) (v := .int .i64 (P : Int)) rfl rfl (by kernel_rfl) (by kernel_rfl) (by kernel_rfl) (fun _ _ _ h => h) (Or.inl ⟨by rfl, fun U hU => by go_simp⟩) hS ?_
                  try simp only [List.setIfInBounds_toArray, List.set_cons_zero, List.set_cons_succ]
                  refine take_at (i := 7) (v := .slice (some ⟨pb, po, none⟩) 0 0) rfl rfl (by kernel_rfl) (by kernel_rfl) (by kernel_rfl) (fun _ _ _ h => h) (Or.inl ⟨by rfl, fun U hU => by go_simp⟩) hS ?_
                  try simp only [List.setIfInBounds_toArray, List.set_cons_zero, List.set_cons_succ]
                  refine wpAnyH_ready (rs := [8, 14]) (by kernel_rfl) (by simp) ?_
                  refine AllReadyH.cons rfl (fun KQ hK => ?_) (AllReadyH.cons rfl (fun KQ hK => ?_) AllReadyH.nil)
                  · rw [if_pos (by rfl)]
                    go_simp
                    refine (HG.out _ (BWC.out.trans (hS.mono BWC.out.size)) (some ⟨pb, po, none⟩) 0 (fun h => absurd h (by omega)) (by omega) (by unfold maxLen; omega)).mono ?_
                    rintro x w6 ⟨hb, k, A', a, C', B', b, D', ok, hk, rfl, hE⟩
                    have HKk := Lib.hid hk
                    have HEE := Lib.hid hE
                    clear hk hE
                    refine hK.out _ _ (below_call hS hS.size hb) (fun hS => ?_)
                    clear hb hK
                    refine take_at (i := 9) (v := .tuple #[.agg (ints .u8 k), .slice A' a C', .slice B' b D', .bool ok]) rfl rfl (by kernel_rfl) (by kernel_rfl) (by kernel_rfl) (fun _ _ _ h => h) (Or.inl ⟨by rfl, fun U hU => by go_simp⟩) hS ?_
                    try simp only [List.setIfInBounds_toArray, List.set_cons_zero, List.set_cons_succ]
                    refine take_at (i := 10) (v := .agg (ints .u8 k)) rfl rfl (by kernel_rfl) (by kernel_rfl) (by kernel_rfl) (fun _ _ _ h => h) (Or.inl ⟨by rfl, fun U hU => by go_simp⟩) hS ?_
                    try simp only [List.setIfInBounds_toArray, List.set_cons_zero, List.set_cons_succ]
                    refine take_at (i := 11) (v := .slice A' a C') rfl rfl (by kernel_rfl) (by kernel_rfl) (by kernel_rfl) (fun _ _ _ h => h) (Or.inl ⟨by rfl, fun U hU => by go_simp⟩) hS ?_
                    try simp only [List.setIfInBounds_toArray, List.set_cons_zero, List.set_cons_succ]
                    refine take_at (i := 12) (v := .slice B' b D') rfl rfl (by kernel_rfl) (by kernel_rfl) (by kernel_rfl) (fun _ _ _ h => h) (Or.inl ⟨by rfl, fun U hU => by go_simp⟩) hS ?_
                    try simp only [List.setIfInBounds_toArray, List.set_cons_zero, List.set_cons_succ]
                    refine take_at (i := 13) (v := .bool ok) rfl rfl (by kernel_rfl) (by kernel_rfl) (by kernel_rfl) (fun _ _ _ h => h) (Or.inl ⟨by rfl, fun U hU => by go_simp⟩) hS ?_
                    try simp only [List.setIfInBounds_toArray, List.set_cons_zero, List.set_cons_succ]
                    refine wpAnyH_ready (rs := [14]) (by kernel_rfl) (by simp) ?_
                    refine AllReadyH.cons rfl (fun KQ hK => ?_) AllReadyH.nil
                    rw [if_pos (by rfl)]
                    go_simp
                    have hg1 := new_block (t := 23) Hz.out hS
                    have hgg := hS.size
                    refine hK.out _ _ (hS.alloc hS.size _) (fun hS => ?_)
                    clear hK
                    refine wpAnyH_ready (rs := [15]) (by kernel_rfl) (by simp) ?_
                    refine AllReadyH.cons rfl (fun KQ hK => ?_) AllReadyH.nil
                    rw [if_pos (by rfl)]
                    refine wp_store_row (o := ⟨none, _, _, _, _, _⟩) 23 _ _ rfl _ (ints .u8 k) rfl rfl 23 _ hg1 (by rw [ints_size, HKk.out.1]; exact sizeKey) (by rw [ints_size, ints_size, HKk.out.1]; rfl) (ints_one _ _) ?_
                    simp only [Act.put]
                    refine hK.out _ _ (Below.setRow hS hgg _) (fun hS => ?_)
                    clear hK
                    refine take_at (i := 16) (v := .slice A' a C') rfl rfl (by kernel_rfl) (by kernel_rfl) (by kernel_rfl) (fun _ _ _ h => h) (Or.inl ⟨by rfl, fun U hU => by go_simp⟩) hS ?_
                    try simp only [List.setIfInBounds_toArray, List.set_cons_zero, List.set_cons_succ]
                    refine take_at (i := 17) (v := .slice B' b D') rfl rfl (by kernel_rfl) (by kernel_rfl) (by kernel_rfl) (fun _ _ _ h => h) (Or.inl ⟨by rfl, fun U hU => by go_simp⟩) hS ?_
                    try simp only [List.setIfInBounds_toArray, List.set_cons_zero, List.set_cons_succ]
                    refine take_at (i := 18) (v := .bool ok) rfl rfl (by kernel_rfl) (by kernel_rfl) (by kernel_rfl) (fun _ _ _ h => h) (Or.inl ⟨by rfl, fun U hU => by go_simp⟩) hS ?_
                    try simp only [List.setIfInBounds_toArray, List.set_cons_zero, List.set_cons_succ]
                    refine wpAnyH_done (by kernel_rfl) ?_ _
                    go_wp2_with fail
                    go_meet
                    exact ⟨k, A', a, C', B', b, D', ok, _, rfl, rfl, rfl, rfl, HKk.out, HEE.out, setRow_heap _ _ _ _ _ _ hg1, hgg, hS⟩
                  · rw [if_pos (by rfl)]
                    go_simp
                    have hg0 := new_block (t := 23) Hz.out hS
                    have hgg := hS.size
                    refine hK.out _ _ (hS.alloc hS.size _) (fun hS => ?_)
                    clear hK
                    refine wpAnyH_ready (rs := [8]) (by kernel_rfl) (by simp) ?_
                    refine AllReadyH.cons rfl (fun KQ hK => ?_) AllReadyH.nil
                    rw [if_pos (by rfl)]
                    go_simp
                    refine (HG.out _ (BWC.out.trans (hS.mono BWC.out.size)) (some ⟨pb, po, none⟩) 0 (fun h => absurd h (by omega)) (by omega) (by unfold maxLen; omega)).mono ?_
                    rintro x w6 ⟨hb, k, A', a, C', B', b, D', ok, hk, rfl, hE⟩
                    have HKk := Lib.hid hk
                    have HEE := Lib.hid hE
                    clear hk hE
                    have hg1 := keep_block hg0 hb
                    refine hK.out _ _ (below_call hS hS.size hb) (fun hS => ?_)
                    clear hb hK
                    refine take_at (i := 9) (v := .tuple #[.agg (ints .u8 k), .slice A' a C', .slice B' b D', .bool ok]) rfl rfl (by kernel_rfl) (by kernel_rfl) (by kernel_rfl) (fun _ _ _ h => h) (Or.inl ⟨by rfl, fun U hU => by go_simp⟩) hS ?_
                    try simp only [List.setIfInBounds_toArray, List.set_cons_zero, List.set_cons_succ]
                    refine take_at (i := 10) (v := .agg (ints .u8 k)) rfl rfl (by kernel_rfl) (by kernel_rfl) (by kernel_rfl) (fun _ _ _ h => h) (Or.inl ⟨by rfl, fun U hU => by go_simp⟩) hS ?_
                    try simp only [List.setIfInBounds_toArray, List.set_cons_zero, List.set_cons_succ]
                    refine take_at (i := 11) (v := .slice A' a C') rfl rfl (by kernel_rfl) (by kernel_rfl) (by kernel_rfl) (fun _ _ _ h => h) (Or.inl ⟨by rfl, fun U hU => by go_simp⟩) hS ?_
                    try simp only [List.setIfInBounds_toArray, List.set_cons_zero, List.set_cons_succ]
                    refine take_at (i := 12) (v := .slice B' b D') rfl rfl (by kernel_rfl) (by kernel_rfl) (by kernel_rfl) (fun _ _ _ h => h) (Or.inl ⟨by rfl, fun U hU => by go_simp⟩) hS ?_
                    try simp only [List.setIfInBounds_toArray, List.set_cons_zero, List.set_cons_succ]
                    refine take_at (i := 13) (v := .bool ok) rfl rfl (by kernel_rfl) (by kernel_rfl) (by kernel_rfl) (fun _ _ _ h => h) (Or.inl ⟨by rfl, fun U hU => by go_simp⟩) hS ?_
                    try simp only [List.setIfInBounds_toArray, List.set_cons_zero, List.set_cons_succ]
                    refine wpAnyH_ready (rs := [15]) (by kernel_rfl) (by simp) ?_
                    refine AllReadyH.cons rfl (fun KQ hK => ?_) AllReadyH.nil
                    rw [if_pos (by rfl)]
                    refine wp_store_row (o := ⟨none, _, _, _, _, _⟩) 23 _ _ rfl _ (ints .u8 k) rfl rfl 23 _ hg1 (by rw [ints_size, HKk.out.1]; exact sizeKey) (by rw [ints_size, ints_size, HKk.out.1]; rfl) (ints_one _ _) ?_
                    simp only [Act.put]
                    refine hK.out _ _ (Below.setRow hS hgg _) (fun hS => ?_)
                    clear hK
                    refine take_at (i := 16) (v := .slice A' a C') rfl rfl (by kernel_rfl) (by kernel_rfl) (by kernel_rfl) (fun _ _ _ h => h) (Or.inl ⟨by rfl, fun U hU => by go_simp⟩) hS ?_
                    try simp only [List.setIfInBounds_toArray, List.set_cons_zero, List.set_cons_succ]
                    refine take_at (i := 17) (v := .slice B' b D') rfl rfl (by kernel_rfl) (by kernel_rfl) (by kernel_rfl) (fun _ _ _ h => h) (Or.inl ⟨by rfl, fun U hU => by go_simp⟩) hS ?_
                    try simp only [List.setIfInBounds_toArray, List.set_cons_zero, List.set_cons_succ]
                    refine take_at (i := 18) (v := .bool ok) rfl rfl (by kernel_rfl) (by kernel_rfl) (by kernel_rfl) (fun _ _ _ h => h) (Or.inl ⟨by rfl, fun U hU => by go_simp⟩) hS ?_
                    try simp only [List.setIfInBounds_toArray, List.set_cons_zero, List.set_cons_succ]
                    refine wpAnyH_done (by kernel_rfl) ?_ _
                    go_wp2_with fail
                    go_meet
                    exact ⟨k, A', a, C', B', b, D', ok, _, rfl, rfl, rfl, rfl, HKk.out, HEE.out, setRow_heap _ _ _ _ _ _ hg1, hgg, hS⟩
                case rest =>
                  obtain ⟨k, A', a, C', B', b, D', ok, g, rfl, rfl, rfl, rfl, hk, hE, hkg, hgg, hb2⟩ := hcut
                  have BF := Lib.hid (BWC.out.trans (hb2.mono BWC.out.size))
                  have KG := Lib.hid hkg
                  have C1' := Lib.hid (keep_block C1.out hb2)
                  have hq := fun U => eqlKey k now hk.1 HNl.out U
                  have HV := Lib.hid (show V = (ok && decide (a = 0) && decide (b = 0) && decide (k = now)) by rw [hE, HE.out])
                  clear hkg hb2 hE HE
                  cases ok with
                  | false =>
                    go_wp2_with fail
                    go_ret2
                    exact ⟨by rw [HV.out]; simp [HKO.out], BF.out⟩
                  | true =>
                    by_cases ha : a = 0
                    · subst ha
                      by_cases hb0 : b = 0
                      · subst hb0
                        go_wp2_with (first | (refine wpList_load_row_g1 (by rfl) 23 (.tmp 13) rfl g rfl 23 (ints .u8 k) (0, 0) _ KG.out Try.underlying23 rfl (by rw [ints_size, hk.1]; exact sizeKey) ?_) | (refine wpList_load_row_g1 (by rfl) 23 (.tmp 7) rfl (w.heap.size + 1) rfl 23 (ints .u8 now) (0, 0) _ C1'.out Try.underlying23 rfl (by rw [ints_size, HNl.out]; exact sizeKey) ?_))
                        go_ret2
                        exact ⟨by rw [HV.out]; simp [HKO.out], BF.out⟩
                      · have hb1 : ((b : Int) == 0) = false := by rw [beq_eq_false_iff_ne]; omega
                        go_wp2_with fail
                        go_ret2
                        exact ⟨by rw [HV.out]; simp [HKO.out, hb0], BF.out⟩
                    · have ha1 : ((a : Int) == 0) = false := by rw [beq_eq_false_iff_ne]; omega
                      go_wp2_with fail
                      go_ret2
                      exact ⟨by rw [HV.out]; simp [HKO.out, ha], BF.out⟩
              · have kC : ¬ cp = K := hcK
                go_upto_region 8 with fail
                go_cut [13, 14, 15, 16] (fun s13 s14 s15 s16 wx => ∃ k A' a C' B' b D' ok g, s13 = .pointer (some ⟨g, 0, none⟩) ∧ s14 = .slice A' a C' ∧ s15 = .slice B' b D' ∧ s16 = .bool ok ∧ L32 k ∧ (ok && decide (a = 0) && decide (b = 0) && decide (k = now)) = (QQ && decide (KK = now)) ∧ wx.heap[g]? = some (.cells (ints .u8 k) 23) ∧ wc.heap.size ≤ g ∧ Below wc.heap.size wc wx)
                case first =>
                  refine wp_region_held_drew (S := Below (wc).heap.size (wc)) (by kernel_rfl) ((Below.refl _ _).drew) (fun hS => ?_)
                  refine take_at (i := 0) (v := .int .i64 (n' : Int)) rfl rfl (by kernel_rfl) (by kernel_rfl) (by kernel_rfl) (fun _ _ _ h => h) (Or.inl ⟨by rfl, fun U hU => by go_simp⟩) hS ?_
                  try simp only [List.setIfInBounds_toArray, List.set_cons_zero, List.set_cons_succ]
                  refine take_at (i := 1) (v := .int .i64 (m' : Int)) rfl rfl (by kernel_rfl) (by kernel_rfl) (by kernel_rfl) (fun _ _ _ h => h) (Or.inl ⟨by rfl, fun U hU => by go_simp⟩) hS ?_
                  try simp only [List.setIfInBounds_toArray, List.set_cons_zero, List.set_cons_succ]
                  refine take_at (i := 2) (v := .slice (some ⟨pb, po, none⟩) P cp) rfl rfl (by kernel_rfl) (by kernel_rfl) (by kernel_rfl) (fun _ _ _ h => h) (Or.inl ⟨by rfl, fun U hU => by go_simp⟩) hS ?_
                  try simp only [List.setIfInBounds_toArray, List.set_cons_zero, List.set_cons_succ]
                  refine take_at (i := 3) (v := .int .i64 (K : Int)) rfl rfl (by kernel_rfl) (by kernel_rfl) (by kernel_rfl) (fun _ _ _ h => h) (Or.inl ⟨by rfl, fun U hU => by go_simp⟩) hS ?_
                  try simp only [List.setIfInBounds_toArray, List.set_cons_zero, List.set_cons_succ]
                  refine take_at (i := 4) (v := .slice (some ⟨pb, po, none⟩) K cp) rfl rfl (by kernel_rfl) (by kernel_rfl) (by kernel_rfl) (fun _ _ _ h => h) (Or.inl ⟨by rfl, fun U hU => by go_simp⟩) hS ?_
                  try simp only [List.setIfInBounds_toArray, List.set_cons_zero, List.set_cons_succ]
                  refine take_at (i := 5) (v := .slice (some ⟨pb, po, none⟩) P cp) rfl rfl (by kernel_rfl) (by kernel_rfl) (by kernel_rfl) (fun _ _ _ h => h) (Or.inl ⟨by rfl, fun U hU => by go_simp⟩) hS ?_
                  try simp only [List.setIfInBounds_toArray, List.set_cons_zero, List.set_cons_succ]
                  refine take_at (i := 6) (v := .int .i64 (K : Int)) rfl rfl (by kernel_rfl) (by kernel_rfl) (by kernel_rfl) (fun _ _ _ h => h) (Or.inl ⟨by rfl, fun U hU => by go_simp⟩) hS ?_
                  try simp only [List.setIfInBounds_toArray, List.set_cons_zero, List.set_cons_succ]
                  refine take_at (i := 7) (v := .slice (some ⟨pb, po + K * 32, none⟩) (P - K) (cp - K)) rfl rfl (by kernel_rfl) (by kernel_rfl) (by kernel_rfl) (fun _ _ _ h => h) (Or.inl ⟨by rfl, fun U hU => by go_simp⟩) hS ?_
                  try simp only [List.setIfInBounds_toArray, List.set_cons_zero, List.set_cons_succ]
                  refine wpAnyH_ready (rs := [8, 14]) (by kernel_rfl) (by simp) ?_
                  refine AllReadyH.cons rfl (fun KQ hK => ?_) (AllReadyH.cons rfl (fun KQ hK => ?_) AllReadyH.nil)
                  · rw [if_pos (by rfl)]
                    go_simp
                    refine (HG.out _ (BWC.out.trans (hS.mono BWC.out.size)) (some ⟨pb, po + K * 32, none⟩) (cp - K) (fun _ => rfl) (by have := Hpc.out; omega) (by have := Hm.out; omega)).mono ?_
                    rintro x w6 ⟨hb, k, A', a, C', B', b, D', ok, hk, rfl, hE⟩
                    have HKk := Lib.hid hk
                    have HEE := Lib.hid hE
                    clear hk hE
                    refine hK.out _ _ (below_call hS hS.size hb) (fun hS => ?_)
                    clear hb hK
                    refine take_at (i := 9) (v := .tuple #[.agg (ints .u8 k), .slice A' a C', .slice B' b D', .bool ok]) rfl rfl (by kernel_rfl) (by kernel_rfl) (by kernel_rfl) (fun _ _ _ h => h) (Or.inl ⟨by rfl, fun U hU => by go_simp⟩) hS ?_
                    try simp only [List.setIfInBounds_toArray, List.set_cons_zero, List.set_cons_succ]
                    refine take_at (i := 10) (v := .agg (ints .u8 k)) rfl rfl (by kernel_rfl) (by kernel_rfl) (by kernel_rfl) (fun _ _ _ h => h) (Or.inl ⟨by rfl, fun U hU => by go_simp⟩) hS ?_
                    try simp only [List.setIfInBounds_toArray, List.set_cons_zero, List.set_cons_succ]
                    refine take_at (i := 11) (v := .slice A' a C') rfl rfl (by kernel_rfl) (by kernel_rfl) (by kernel_rfl) (fun _ _ _ h => h) (Or.inl ⟨by rfl, fun U hU => by go_simp⟩) hS ?_
                    try simp only [List.setIfInBounds_toArray, List.set_cons_zero, List.set_cons_succ]
                    refine take_at (i := 12) (v := .slice B' b D') rfl rfl (by kernel_rfl) (by kernel_rfl) (by kernel_rfl) (fun _ _ _ h => h) (Or.inl ⟨by rfl, fun U hU => by go_simp⟩) hS ?_
                    try simp only [List.setIfInBounds_toArray, List.set_cons_zero, List.set_cons_succ]
                    refine take_at (i := 13) (v := .bool ok) rfl rfl (by kernel_rfl) (by kernel_rfl) (by kernel_rfl) (fun _ _ _ h => h) (Or.inl ⟨by rfl, fun U hU => by go_simp⟩) hS ?_
                    try simp only [List.setIfInBounds_toArray, List.set_cons_zero, List.set_cons_succ]
                    refine wpAnyH_ready (rs := [14]) (by kernel_rfl) (by simp) ?_
                    refine AllReadyH.cons rfl (fun KQ hK => ?_) AllReadyH.nil
                    rw [if_pos (by rfl)]
                    go_simp
                    have hg1 := new_block (t := 23) Hz.out hS
                    have hgg := hS.size
                    refine hK.out _ _ (hS.alloc hS.size _) (fun hS => ?_)
                    clear hK
                    refine wpAnyH_ready (rs := [15]) (by kernel_rfl) (by simp) ?_
                    refine AllReadyH.cons rfl (fun KQ hK => ?_) AllReadyH.nil
                    rw [if_pos (by rfl)]
                    refine wp_store_row (o := ⟨none, _, _, _, _, _⟩) 23 _ _ rfl _ (ints .u8 k) rfl rfl 23 _ hg1 (by rw [ints_size, HKk.out.1]; exact sizeKey) (by rw [ints_size, ints_size, HKk.out.1]; rfl) (ints_one _ _) ?_
                    simp only [Act.put]
                    refine hK.out _ _ (Below.setRow hS hgg _) (fun hS => ?_)
                    clear hK
                    refine take_at (i := 16) (v := .slice A' a C') rfl rfl (by kernel_rfl) (by kernel_rfl) (by kernel_rfl) (fun _ _ _ h => h) (Or.inl ⟨by rfl, fun U hU => by go_simp⟩) hS ?_
                    try simp only [List.setIfInBounds_toArray, List.set_cons_zero, List.set_cons_succ]
                    refine take_at (i := 17) (v := .slice B' b D') rfl rfl (by kernel_rfl) (by kernel_rfl) (by kernel_rfl) (fun _ _ _ h => h) (Or.inl ⟨by rfl, fun U hU => by go_simp⟩) hS ?_
                    try simp only [List.setIfInBounds_toArray, List.set_cons_zero, List.set_cons_succ]
                    refine take_at (i := 18) (v := .bool ok) rfl rfl (by kernel_rfl) (by kernel_rfl) (by kernel_rfl) (fun _ _ _ h => h) (Or.inl ⟨by rfl, fun U hU => by go_simp⟩) hS ?_
                    try simp only [List.setIfInBounds_toArray, List.set_cons_zero, List.set_cons_succ]
                    refine wpAnyH_done (by kernel_rfl) ?_ _
                    go_wp2_with fail
                    go_meet
                    exact ⟨k, A', a, C', B', b, D', ok, _, rfl, rfl, rfl, rfl, HKk.out, HEE.out, setRow_heap _ _ _ _ _ _ hg1, hgg, hS⟩
                  · rw [if_pos (by rfl)]
                    go_simp
                    have hg0 := new_block (t := 23) Hz.out hS
                    have hgg := hS.size
                    refine hK.out _ _ (hS.alloc hS.size _) (fun hS => ?_)
                    clear hK
                    refine wpAnyH_ready (rs := [8]) (by kernel_rfl) (by simp) ?_
                    refine AllReadyH.cons rfl (fun KQ hK => ?_) AllReadyH.nil
                    rw [if_pos (by rfl)]
                    go_simp
                    refine (HG.out _ (BWC.out.trans (hS.mono BWC.out.size)) (some ⟨pb, po + K * 32, none⟩) (cp - K) (fun _ => rfl) (by have := Hpc.out; omega) (by have := Hm.out; omega)).mono ?_
                    rintro x w6 ⟨hb, k, A', a, C', B', b, D', ok, hk, rfl, hE⟩
                    have HKk := Lib.hid hk
                    have HEE := Lib.hid hE
                    clear hk hE
                    have hg1 := keep_block hg0 hb
                    refine hK.out _ _ (below_call hS hS.size hb) (fun hS => ?_)
                    clear hb hK
                    refine take_at (i := 9) (v := .tuple #[.agg (ints .u8 k), .slice A' a C', .slice B' b D', .bool ok]) rfl rfl (by kernel_rfl) (by kernel_rfl) (by kernel_rfl) (fun _ _ _ h => h) (Or.inl ⟨by rfl, fun U hU => by go_simp⟩) hS ?_
                    try simp only [List.setIfInBounds_toArray, List.set_cons_zero, List.set_cons_succ]
                    refine take_at (i := 10) (v := .agg (ints .u8 k)) rfl rfl (by kernel_rfl) (by kernel_rfl) (by kernel_rfl) (fun _ _ _ h => h) (Or.inl ⟨by rfl, fun U hU => by go_simp⟩) hS ?_
                    try simp only [List.setIfInBounds_toArray, List.set_cons_zero, List.set_cons_succ]
                    refine take_at (i := 11) (v := .slice A' a C') rfl rfl (by kernel_rfl) (by kernel_rfl) (by kernel_rfl) (fun _ _ _ h => h) (Or.inl ⟨by rfl, fun U hU => by go_simp⟩) hS ?_
                    try simp only [List.setIfInBounds_toArray, List.set_cons_zero, List.set_cons_succ]
                    refine take_at (i := 12) (v := .slice B' b D') rfl rfl (by kernel_rfl) (by kernel_rfl) (by kernel_rfl) (fun _ _ _ h => h) (Or.inl ⟨by rfl, fun U hU => by go_simp⟩) hS ?_
                    try simp only [List.setIfInBounds_toArray, List.set_cons_zero, List.set_cons_succ]
                    refine take_at (i := 13) (v := .bool ok) rfl rfl (by kernel_rfl) (by kernel_rfl) (by kernel_rfl) (fun _ _ _ h => h) (Or.inl ⟨by rfl, fun U hU => by go_simp⟩) hS ?_
                    try simp only [List.setIfInBounds_toArray, List.set_cons_zero, List.set_cons_succ]
                    refine wpAnyH_ready (rs := [15]) (by kernel_rfl) (by simp) ?_
                    refine AllReadyH.cons rfl (fun KQ hK => ?_) AllReadyH.nil
                    rw [if_pos (by rfl)]
                    refine wp_store_row (o := ⟨none, _, _, _, _, _⟩) 23 _ _ rfl _ (ints .u8 k) rfl rfl 23 _ hg1 (by rw [ints_size, HKk.out.1]; exact sizeKey) (by rw [ints_size, ints_size, HKk.out.1]; rfl) (ints_one _ _) ?_
                    simp only [Act.put]
                    refine hK.out _ _ (Below.setRow hS hgg _) (fun hS => ?_)
                    clear hK
                    refine take_at (i := 16) (v := .slice A' a C') rfl rfl (by kernel_rfl) (by kernel_rfl) (by kernel_rfl) (fun _ _ _ h => h) (Or.inl ⟨by rfl, fun U hU => by go_simp⟩) hS ?_
                    try simp only [List.setIfInBounds_toArray, List.set_cons_zero, List.set_cons_succ]
                    refine take_at (i := 17) (v := .slice B' b D') rfl rfl (by kernel_rfl) (by kernel_rfl) (by kernel_rfl) (fun _ _ _ h => h) (Or.inl ⟨by rfl, fun U hU => by go_simp⟩) hS ?_
                    try simp only [List.setIfInBounds_toArray, List.set_cons_zero, List.set_cons_succ]
                    refine take_at (i := 18) (v := .bool ok) rfl rfl (by kernel_rfl) (by kernel_rfl) (by kernel_rfl) (fun _ _ _ h => h) (Or.inl ⟨by rfl, fun U hU => by go_simp⟩) hS ?_
                    try simp only [List.setIfInBounds_toArray, List.set_cons_zero, List.set_cons_succ]
                    refine wpAnyH_done (by kernel_rfl) ?_ _
                    go_wp2_with fail
                    go_meet
                    exact ⟨k, A', a, C', B', b, D', ok, _, rfl, rfl, rfl, rfl, HKk.out, HEE.out, setRow_heap _ _ _ _ _ _ hg1, hgg, hS⟩
                case rest =>
                  obtain ⟨k, A', a, C', B', b, D', ok, g, rfl, rfl, rfl, rfl, hk, hE, hkg, hgg, hb2⟩ := hcut
                  have BF := Lib.hid (BWC.out.trans (hb2.mono BWC.out.size))
                  have KG := Lib.hid hkg
                  have C1' := Lib.hid (keep_block C1.out hb2)
                  have hq := fun U => eqlKey k now hk.1 HNl.out U
                  have HV := Lib.hid (show V = (ok && decide (a = 0) && decide (b = 0) && decide (k = now)) by rw [hE, HE.out])
                  clear hkg hb2 hE HE
                  cases ok with
                  | false =>
                    go_wp2_with fail
                    go_ret2
                    exact ⟨by rw [HV.out]; simp [HKO.out], BF.out⟩
                  | true =>
                    by_cases ha : a = 0
                    · subst ha
                      by_cases hb0 : b = 0
                      · subst hb0
                        go_wp2_with (first | (refine wpList_load_row_g1 (by rfl) 23 (.tmp 13) rfl g rfl 23 (ints .u8 k) (0, 0) _ KG.out Try.underlying23 rfl (by rw [ints_size, hk.1]; exact sizeKey) ?_) | (refine wpList_load_row_g1 (by rfl) 23 (.tmp 7) rfl (w.heap.size + 1) rfl 23 (ints .u8 now) (0, 0) _ C1'.out Try.underlying23 rfl (by rw [ints_size, HNl.out]; exact sizeKey) ?_))
                        go_ret2
                        exact ⟨by rw [HV.out]; simp [HKO.out], BF.out⟩
                      · have hb1 : ((b : Int) == 0) = false := by rw [beq_eq_false_iff_ne]; omega
                        go_wp2_with fail
                        go_ret2
                        exact ⟨by rw [HV.out]; simp [HKO.out, hb0], BF.out⟩
                    · have ha1 : ((a : Int) == 0) = false := by rw [beq_eq_false_iff_ne]; omega
                      go_wp2_with fail
                      go_ret2
                      exact ⟨by rw [HV.out]; simp [HKO.out, ha], BF.out⟩
            · have HKO := Lib.hid hko
              have e2 : (!decide (key = old)) = true := by rw [decide_eq_false hko]; rfl
              rw [e2]
              clear e2 hko
              go_wp2_with fail
              go_ret2
              exact ⟨by simp [HKO.out], BWC.out⟩
      · have hC : ¬ cgC m n := fun hh => h2 ⟨hh.1, hh.2.1⟩
        rw [if_neg hC, if_neg hC]
        have Hb := Lib.hid (fun U => in_false m 1 n h2 U)
        go_enter Try.func36, Try.ntmps36
        go_wp2_with fail
        refine (Ha.out _).mono ?_
        rintro x w5 ⟨rfl, rfl⟩
        go_wp2_with fail
        refine (Hb.out _).mono ?_
        rintro x w5 ⟨rfl, rfl⟩
        go_wp2_with fail
        go_ret2
        exact ⟨rfl, B3.out⟩
    · have hC : ¬ cgC m n := fun hh => h1 ⟨by have := hh.1; have := hh.2.1; omega, hh.2.2⟩
      rw [if_neg hC, if_neg hC]
      have Ha := Lib.hid (fun U => in_false n 1 256 h1 U)
      go_enter Try.func36, Try.ntmps36
      go_wp2_with fail
      refine (Ha.out _).mono ?_
      rintro x w5 ⟨rfl, rfl⟩
      go_wp2_with fail
      go_ret2
      exact ⟨rfl, B3.out⟩
end Go.Proofs.Ytgpabgemkighhaa
