/- Whether a cutter is valid: the program. -/
import Derived.Test.YtdamgodfgoackaaCuts
import Derived.Maps.AppendAt
import Derived.RangeFuncBox
namespace Go.Proofs.Ytdamgodfgoackaa
open Go.ChangeShapes Go.WideShapes Go.ChangeAt Go.RowKit Go.Shelf
set_option linter.unusedVariables false
attribute [local go_sem] Oper.semAt_some
set_option maxRecDepth 100000 in
set_option maxHeartbeats 1000000 in
theorem chunksf_impl (g N cap : Nat) (a : Option Addr) (w : World) :
    Calls Try.prog 109 #[.pointer (some ⟨g, 0, none⟩), .slice a N cap] w fun e w' => e = .returned (.func (.func 131) #[] #[.pointer (some ⟨w.heap.size + 1, 0, none⟩), .pointer (some ⟨w.heap.size, 0, none⟩)]) ∧ w' = (w.alloc (.cells #[.pointer (some ⟨g, 0, none⟩)] 112)).alloc (.cells #[.slice a N cap] 22) := by
  go_enter Try.func109, Try.ntmps109
  go_wp2
  go_ret
  exact ⟨rfl, rfl⟩
theorem cuts_stops (n : Nat) (hn : 1 ≤ n) (Bd Bk g b n0 : Nat) (a : Option Addr) (off N cap : Nat) (lo mo bi : Int) (L : List Int) (hL : L.length = N) (fl : ∀ z ∈ L, 0 ≤ z ∧ z ≤ 255) (hN : N ≤ 1048576) (ha : N = 0 ∨ a = some ⟨b, off, none⟩) (hcap : N ≤ cap) (hcap2 : cap ≤ maxLen) (b0 : 0 ≤ bi) (b1 : bi ≤ 8) (w : World)
    (hBd : w.heap[Bd]? = some (.cells #[.slice a N cap] 22)) (hBk : w.heap[Bk]? = some (.cells #[.pointer (some ⟨g, 0, none⟩)] 112)) (hg : w.heap[g]? = some (.cells (#[.int .i64 lo, .int .i64 mo, .int .i64 bi] ++ ints .u32 rollT) 145)) (hb : b < w.heap.size) (hc : ∀ j, j < N → w.cell? ⟨b, off + j, none⟩ = some (.int .u8 (L[j]?.getD 0))) :
    SeqStopsK Fence.wide n Try.prog 131 #[.pointer (some ⟨Bd, 0, none⟩), .pointer (some ⟨Bk, 0, none⟩)] (fun x : Nat × Nat × Bool => #[chunkV b off N x.1 x.2.1, Value.bool x.2.2]) (KeepD n0 Bd Bk g b) (fun ys => ys = cutAll lo mo bi L) (fun pre => pre <+: cutAll lo mo bi L) (N + 1) w := fun l J Jx W hW _ _ hY h0 =>
  cuts1_in n hn l Bd Bk g b n0 a off N cap lo mo bi L hL fl hN ha hcap hcap2 b0 b1 J Jx hY W ((hW.block Bd (Array.getElem?_eq_some_iff.1 hBd).1).trans hBd) ((hW.block Bk (Array.getElem?_eq_some_iff.1 hBk).1).trans hBk) ((hW.block g (Array.getElem?_eq_some_iff.1 hg).1).trans hg) (fun j hj => (hW.cell (p := ⟨b, off + j, none⟩) hb).trans (hc j hj)) h0
theorem region_calm {F : Fence} {n : Nat} {P : Program} {c : Code} {a : Act} {w : World} {Q : Exit → Act → World → Prop} (h : c.wpIn F n P (fun e a w => match e with | .normal => Q .normal a w | _ => False) a w) : c.wpIn F n P Q a w :=
  wpIn_mono h (fun e a w h => by cases e <;> first | exact h | exact h.elim)
theorem take_on {P : Program} {ops : Array Oper} {Q : Exit → Act → World → Prop} {md : Region.Mode} {S : World → Prop} {i : Nat} {d : Tmp} {oi : Oper} {v : Value} {fuel : Nat} {listed : Array Bool} {ts : Array Value} {ds : List Deferred} {w : World}
    (hi : ops[i]? = some oi) (hd : oi.dst = some d) (hs : Region.noSelect ops = true) (hf : Region.free md ops listed i = true) (hr : (Region.ready md ops listed).contains i = true)
    (hQ : ∀ c a w, Q (.panic c) (a.put oi.dst v) w → Q (.panic c) a w) (hy : YieldsIf P ops S oi v ⟨ts, ds⟩) (hS : S w)
    (h : wpAnyH P md ops Q S fuel (listed.setIfInBounds i true) ⟨ts.setIfInBounds d v, ds⟩ w) : wpAnyH P md ops Q S (fuel + 1) listed ⟨ts, ds⟩ w :=
  wpAnyH_take hi hs hf hr hQ hy hS (by rw [hd]; exact h)
theorem head3 {W : World} {g : Nat} {x y z u v : Value} {t : TypeId} {fr : Nat × Nat} (h : W.heap[g]? = some (.cells #[x, y, z, u, v] t fr)) : W.rangeAt g 0 [x, y, z] := fun j k hk => by
  rw [Nat.zero_add, cell_of_row W g j _ _ _ h]
  match j, hk with
  | 0, hk => exact hk
  | 1, hk => exact hk
  | 2, hk => exact hk
  | i + 3, hk => simp at hk
/-- Whether a cutter is valid. -/
def fitP (lo mo bi q : Int) (L : List Int) : Bool := vR lo mo bi && (decide (q = accR rollW L 0 L.length) && (cutS lo mo bi L L.length).2.2.isEmpty)
theorem vR_bits {lo mo bi : Int} (h : vR lo mo bi = true) : 0 ≤ bi ∧ bi ≤ 8 := by unfold vR at h; simp at h; omega
theorem cut_true (lo mo bi : Int) (L : List Int) : ∀ k, ∀ x ∈ (cutS lo mo bi L k).2.2, x.2.2 = true
  | 0, x, hx => by simp [cutS] at hx
  | k + 1, x, hx => by
    rw [cutS] at hx
    split at hx
    · rcases List.mem_append.1 hx with h | h
      · exact cut_true lo mo bi L k x h
      · rw [List.mem_singleton.1 h]
    · exact cut_true lo mo bi L k x hx
theorem none_ended {lo mo bi : Int} {L : List Int} (h : ∀ x ∈ cutAll lo mo bi L, x.2.2 = false) : (cutS lo mo bi L L.length).2.2.isEmpty = true := by
  cases ho : (cutS lo mo bi L L.length).2.2 with
  | nil => rfl
  | cons x r =>
    have h1 := cut_true lo mo bi L L.length x (by rw [ho]; exact List.mem_cons_self)
    have h2 := h x (by unfold cutAll; rw [ho]; simp)
    rw [h1] at h2
    cases h2
theorem some_ended {lo mo bi : Int} {L : List Int} {x : Nat × Nat × Bool} (h : x ∈ cutAll lo mo bi L) (hx : x.2.2 = true) : (cutS lo mo bi L L.length).2.2.isEmpty = false := by
  cases ho : (cutS lo mo bi L L.length).2.2 with
  | cons y r => rfl
  | nil =>
    unfold cutAll at h
    rw [ho] at h
    split at h
    · simp at h
      rw [h] at hx
      cases hx
    · simp at h
set_option maxRecDepth 100000 in
set_option maxHeartbeats 4000000 in
theorem fits_in (n g b : Nat) (hn : 4 ≤ n) (a : Option Addr) (off N cap : Nat) (lo mo bi q : Int) (L : List Int) (hL : L.length = N) (fl : ∀ z ∈ L, 0 ≤ z ∧ z ≤ 255) (hN : N ≤ 1048576) (ha : N = 0 ∨ a = some ⟨b, off, none⟩) (hcap : N ≤ cap) (hcap2 : cap ≤ maxLen) (w : World)
    (hg : w.heap[g]? = some (.cells (#[.int .i64 lo, .int .i64 mo, .int .i64 bi] ++ ints .u32 rollT) 145)) (hb : b < w.heap.size) (hc : ∀ j, j < N → w.cell? ⟨b, off + j, none⟩ = some (.int .u8 (L[j]?.getD 0))) (hrd : Rd .u8 w a N L) :
    CallsIn Fence.wide n Try.prog 89 #[.pointer (some ⟨g, 0, none⟩), .agg #[.int .i64 lo, .int .i64 mo, .int .i64 bi, .int .u32 q, .slice a N cap]] w fun e w' => e = .returned (.bool (fitP lo mo bi q L)) ∧ Below w.heap.size w w' := by
  have h1 : 1 ≤ n := by omega
  have hF : Fence.wide.fn 89 := trivial
  have hro : Fence.wide.round = none := rfl
  have HV := Lib.hid (fun W => validR_impl lo mo bi W)
  have HRO := Lib.hid (fun W h1 h2 => rollof_knife g #[.int .i64 lo, .int .i64 mo, .int .i64 bi] a N cap L hN fl W h1 rfl h2)
  have HG := Lib.hid hg
  have HRD := Lib.hid hrd
  have HC := Lib.hid hc
  have G1 := Lib.hid (heap_alloc2_old w (.cells #[.int .i64 lo, .int .i64 mo, .int .i64 bi, .int .u32 q, .slice a N cap] 64) (.cells #[.bool false] 4))
  have G2 := Lib.hid (heap_alloc2_new w (.cells #[.int .i64 lo, .int .i64 mo, .int .i64 bi, .int .u32 q, .slice a N cap] 64) (.cells #[.bool false] 4))
  have HB := Lib.hid (((Below.refl w.heap.size w).alloc (Nat.le_refl _) (.cells #[.int .i64 lo, .int .i64 mo, .int .i64 bi, .int .u32 q, .slice a N cap] 64)).alloc (by simp) (.cells #[.bool false] 4))
  have e0 := cell_of_row _ _ 0 _ _ _ G1.out
  have e1 := cell_of_row _ _ 1 _ _ _ G1.out
  have e2 := cell_of_row _ _ 2 _ _ _ G1.out
  clear hg hrd hc
  refine callsIn_of_wp_marks Try.func89 rfl hF ?_ hro
  simp only [Try.ntmps89, List.size_toArray, List.length_cons, List.length_nil, Nat.reduceAdd, Nat.reduceSub, Array.replicate_succ, Array.replicate_zero, List.push_toArray, List.append_toArray, List.nil_append, List.cons_append]
  obtain ⟨W0, hW0⟩ : ∃ W0, (w.alloc (.cells #[.int .i64 lo, .int .i64 mo, .int .i64 bi, .int .u32 q, .slice a N cap] 64)).alloc (.cells #[.bool false] 4) = W0 := ⟨_, rfl⟩
  have HSZ : Hid (W0.heap.size = w.heap.size + 2) := Lib.hid (by rw [← hW0]; simp)
  rw [hW0] at G1 G2 HB e0 e1 e2
  have f0 : W0.cell? ⟨w.heap.size, 0, none⟩ = some (.int .i64 lo) := e0
  have f1 : W0.cell? ⟨w.heap.size, 1, none⟩ = some (.int .i64 mo) := e1
  have f2 : W0.cell? ⟨w.heap.size, 2, none⟩ = some (.int .i64 bi) := e2
  clear e0 e1 e2
  cases hv : vR lo mo bi
  · have HP : Hid (fitP lo mo bi q L = false) := Lib.hid (by unfold fitP; rw [hv]; rfl)
    rw [hv] at HV
    clear hv
    gi_wp2
    refine region_calm ?_
    refine wpIn_wide.2 ?_
    refine wp_region_held_drew (S := Below W0.heap.size W0) (by kernel_rfl) ((Below.refl _ _).drew) (fun hS => ?_)
    refine take_on (i := 0) (v := .pointer (some ⟨w.heap.size, 0, none⟩)) rfl rfl (by kernel_rfl) (by kernel_rfl) (by kernel_rfl) (fun _ _ _ h => h) (Or.inl ⟨by rfl, fun W hW => by go_simp⟩) hS ?_
    refine take_on (i := 1) (v := .agg #[.int .i64 lo, .int .i64 mo, .int .i64 bi]) rfl rfl (by kernel_rfl) (by kernel_rfl) (by kernel_rfl) (fun _ _ _ h => h) (yieldsIf_load_mid (by rfl) 62 _ rfl w.heap.size 0 rfl [.int .i64 lo, .int .i64 mo, .int .i64 bi] _ (fun W hW => rangeAt_below (head3 G1.out) hW) Try.underlying62 rfl sizeRi) hS ?_
    simp only [List.setIfInBounds_toArray, List.set_cons_zero, List.set_cons_succ]
    refine wpAnyH_ready (rs := [2]) (by kernel_rfl) (by simp) ?_
    refine AllReadyH.cons rfl (fun K hK => ?_) AllReadyH.nil
    rw [if_pos (by rfl)]
    go_simp
    refine (HV.out _).mono ?_
    rintro e u1 ⟨rfl, hb1⟩
    refine hK.out _ _ (below_call hS hS.size hb1) (fun hS => ?_)
    clear hb1 hK
    refine take_on (i := 3) (v := .bool true) rfl rfl (by kernel_rfl) (by kernel_rfl) (by kernel_rfl) (fun _ _ _ h => h) (Or.inl ⟨by rfl, fun W hW => by go_simp⟩) hS ?_
    refine take_on (i := 4) (v := .bool true) rfl rfl (by kernel_rfl) (by kernel_rfl) (by kernel_rfl) (fun _ _ _ h => h) (Or.inl ⟨by rfl, fun W hW => by go_simp⟩) hS ?_
    simp only [List.setIfInBounds_toArray, List.set_cons_zero, List.set_cons_succ]
    refine take_on (i := 5) (v := undef) rfl rfl (by kernel_rfl) (by kernel_rfl) (by kernel_rfl) (fun _ _ _ h => h) (Or.inr ⟨by rfl, rfl⟩) hS ?_
    refine take_on (i := 6) (v := undef) rfl rfl (by kernel_rfl) (by kernel_rfl) (by kernel_rfl) (fun _ _ _ h => h) (Or.inr ⟨by rfl, rfl⟩) hS ?_
    refine take_on (i := 7) (v := undef) rfl rfl (by kernel_rfl) (by kernel_rfl) (by kernel_rfl) (fun _ _ _ h => h) (Or.inr ⟨by rfl, rfl⟩) hS ?_
    refine take_on (i := 8) (v := undef) rfl rfl (by kernel_rfl) (by kernel_rfl) (by kernel_rfl) (fun _ _ _ h => h) (Or.inr ⟨by rfl, rfl⟩) hS ?_
    refine take_on (i := 9) (v := undef) rfl rfl (by kernel_rfl) (by kernel_rfl) (by kernel_rfl) (fun _ _ _ h => h) (Or.inr ⟨by rfl, rfl⟩) hS ?_
    refine take_on (i := 10) (v := undef) rfl rfl (by kernel_rfl) (by kernel_rfl) (by kernel_rfl) (fun _ _ _ h => h) (Or.inr ⟨by rfl, rfl⟩) hS ?_
    refine take_on (i := 11) (v := undef) rfl rfl (by kernel_rfl) (by kernel_rfl) (by kernel_rfl) (fun _ _ _ h => h) (Or.inr ⟨by rfl, rfl⟩) hS ?_
    simp only [List.setIfInBounds_toArray, List.set_cons_zero, List.set_cons_succ]
    refine take_on (i := 12) (v := .bool true) rfl rfl (by kernel_rfl) (by kernel_rfl) (by kernel_rfl) (fun _ _ _ h => h) (Or.inl ⟨by rfl, fun W hW => by go_simp⟩) hS ?_
    refine wpAnyH_done (by kernel_rfl) ?_ _
    simp only [List.setIfInBounds_toArray, List.set_cons_zero, List.set_cons_succ]
    have G3 := Lib.hid ((hS.block (w.heap.size + 1) (by have := HSZ.out; omega)).trans G2.out)
    have B3 := Lib.hid (HB.out.trans (hS.mono HB.out.size))
    have c4 : u1.cell? ⟨w.heap.size + 1, 0, none⟩ = some (.bool false) := cell_of_row _ _ 0 _ _ _ G3.out
    have q4 : u1.frozen? ⟨w.heap.size + 1, 0, none⟩ = false := frozen_of_row _ _ 0 _ _ G3.out
    clear hS
    show Exit.then _ _ .normal _ _
    gi_wp2
    have hc5 := World.cell?_setCell_same' u1 ⟨w.heap.size + 1, 0, none⟩ (.bool false) (by rw [c4]; rfl)
    refine ⟨.bool false, ?_, by rw [HP.out], B3.out.setCell (p := ⟨w.heap.size + 1, 0, none⟩) (by simp) _⟩
    simp [results, Try.f89, go_sem, hc5]
  · obtain ⟨b0, b1⟩ := vR_bits hv
    have HP' : Hid (fitP lo mo bi q L = (decide (q = accR rollW L 0 N) && (cutS lo mo bi L N).2.2.isEmpty)) := Lib.hid (by unfold fitP; rw [hv, hL]; rfl)
    have HST := Lib.hid (fun (W : World) h1 h2 h3 h4 h5 => cuts_stops (n - 1) (by omega) (W.heap.size + 1) W.heap.size g b w.heap.size a off N cap lo mo bi L hL fl hN ha hcap hcap2 b0 b1 ((W.alloc (.cells #[.pointer (some ⟨g, 0, none⟩)] 112)).alloc (.cells #[.slice a N cap] 22)) h1 h2 h3 h4 h5)
    have HNE := Lib.hid (fun h => none_ended (lo := lo) (mo := mo) (bi := bi) (L := L) h)
    have HSE := Lib.hid (fun x h h2 => some_ended (lo := lo) (mo := mo) (bi := bi) (L := L) (x := x) h h2)
    rw [hL] at HNE HSE
    rw [hv] at HV
    clear hv fl hL
    generalize cutAll lo mo bi L = CA at HST HNE HSE
    generalize (cutS lo mo bi L N).2.2.isEmpty = IE at HP' HNE HSE
    generalize accR rollW L 0 N = A at HP' HRO
    by_cases hq : q = A
    · have HP : Hid (fitP lo mo bi q L = IE) := Lib.hid (by rw [HP'.out, decide_eq_true hq, Bool.true_and])
      have hne : (q != A) = false := by simp [hq]
      clear HP' hq
      gi_wp2
      refine region_calm ?_
      refine wpIn_wide.2 ?_
      refine wp_region_held_drew (S := Below W0.heap.size W0) (by kernel_rfl) ((Below.refl _ _).drew) (fun hS => ?_)
      refine take_on (i := 0) (v := .pointer (some ⟨w.heap.size, 0, none⟩)) rfl rfl (by kernel_rfl) (by kernel_rfl) (by kernel_rfl) (fun _ _ _ h => h) (Or.inl ⟨by rfl, fun W hW => by go_simp⟩) hS ?_
      refine take_on (i := 1) (v := .agg #[.int .i64 lo, .int .i64 mo, .int .i64 bi]) rfl rfl (by kernel_rfl) (by kernel_rfl) (by kernel_rfl) (fun _ _ _ h => h) (yieldsIf_load_mid (by rfl) 62 _ rfl w.heap.size 0 rfl [.int .i64 lo, .int .i64 mo, .int .i64 bi] _ (fun W hW => rangeAt_below (head3 G1.out) hW) Try.underlying62 rfl sizeRi) hS ?_
      simp only [List.setIfInBounds_toArray, List.set_cons_zero, List.set_cons_succ]
      refine wpAnyH_ready (rs := [2]) (by kernel_rfl) (by simp) ?_
      refine AllReadyH.cons rfl (fun K hK => ?_) AllReadyH.nil
      rw [if_pos (by rfl)]
      go_simp
      refine (HV.out _).mono ?_
      rintro e u1 ⟨rfl, hb1⟩
      refine hK.out _ _ (below_call hS hS.size hb1) (fun hS => ?_)
      clear hb1 hK
      refine take_on (i := 3) (v := .bool false) rfl rfl (by kernel_rfl) (by kernel_rfl) (by kernel_rfl) (fun _ _ _ h => h) (Or.inl ⟨by rfl, fun W hW => by go_simp⟩) hS ?_
      refine take_on (i := 4) (v := .bool false) rfl rfl (by kernel_rfl) (by kernel_rfl) (by kernel_rfl) (fun _ _ _ h => h) (Or.inl ⟨by rfl, fun W hW => by go_simp⟩) hS ?_
      simp only [List.setIfInBounds_toArray, List.set_cons_zero, List.set_cons_succ]
      refine take_on (i := 5) (v := .pointer (some ⟨w.heap.size, 3, none⟩)) rfl rfl (by kernel_rfl) (by kernel_rfl) (by kernel_rfl) (fun _ _ _ h => h) (Or.inl ⟨by rfl, fun W hW => by go_simp⟩) hS ?_
      refine take_on (i := 6) (v := .int .u32 q) rfl rfl (by kernel_rfl) (by kernel_rfl) (by kernel_rfl) (fun _ _ _ h => h) (Or.inl ⟨by rfl, fun W hW => by
        have hc : W.cell? ⟨w.heap.size, 3, none⟩ = some (.int .u32 q) := cell_of_row W w.heap.size 3 _ _ _ ((hW.block w.heap.size (by have := HSZ.out; omega)).trans G1.out)
        go_simp⟩) hS ?_
      refine take_on (i := 7) (v := .pointer (some ⟨g, 0, none⟩)) rfl rfl (by kernel_rfl) (by kernel_rfl) (by kernel_rfl) (fun _ _ _ h => h) (Or.inl ⟨by rfl, fun W hW => by go_simp⟩) hS ?_
      refine take_on (i := 8) (v := .pointer (some ⟨w.heap.size, 4, none⟩)) rfl rfl (by kernel_rfl) (by kernel_rfl) (by kernel_rfl) (fun _ _ _ h => h) (Or.inl ⟨by rfl, fun W hW => by go_simp⟩) hS ?_
      refine take_on (i := 9) (v := .slice a N cap) rfl rfl (by kernel_rfl) (by kernel_rfl) (by kernel_rfl) (fun _ _ _ h => h) (Or.inl ⟨by rfl, fun W hW => by
        have hc : W.cell? ⟨w.heap.size, 4, none⟩ = some (.slice a N cap) := cell_of_row W w.heap.size 4 _ _ _ ((hW.block w.heap.size (by have := HSZ.out; omega)).trans G1.out)
        go_simp⟩) hS ?_
      simp only [List.setIfInBounds_toArray, List.set_cons_zero, List.set_cons_succ]
      refine wpAnyH_ready (rs := [10]) (by kernel_rfl) (by simp) ?_
      refine AllReadyH.cons rfl (fun K hK => ?_) AllReadyH.nil
      rw [if_pos (by rfl)]
      go_simp
      refine (HRO.out _ ((hS.block g (Nat.lt_of_lt_of_le (Array.getElem?_eq_some_iff.1 HG.out).1 HB.out.size)).trans ((HB.out.block g (Array.getElem?_eq_some_iff.1 HG.out).1).trans HG.out)) (HRD.out.below (HB.out.trans (hS.mono HB.out.size)))).mono ?_
      rintro e u2 ⟨rfl, hb1⟩
      refine hK.out _ _ (below_call hS hS.size hb1) (fun hS => ?_)
      clear hb1 hK
      refine take_on (i := 11) (v := .bool false) rfl rfl (by kernel_rfl) (by kernel_rfl) (by kernel_rfl) (fun _ _ _ h => h) (Or.inl ⟨by rfl, fun W hW => by go_simp⟩) hS ?_
      refine take_on (i := 12) (v := .bool false) rfl rfl (by kernel_rfl) (by kernel_rfl) (by kernel_rfl) (fun _ _ _ h => h) (Or.inl ⟨by rfl, fun W hW => by go_simp⟩) hS ?_
      refine wpAnyH_done (by kernel_rfl) ?_ _
      simp only [List.setIfInBounds_toArray, List.set_cons_zero, List.set_cons_succ]
      have G3 := Lib.hid ((hS.block (w.heap.size + 1) (by have := HSZ.out; omega)).trans G2.out)
      have G4 := Lib.hid ((hS.block w.heap.size (by have := HSZ.out; omega)).trans G1.out)
      have B3 := Lib.hid (HB.out.trans (hS.mono HB.out.size))
      have c4 : u2.cell? ⟨w.heap.size + 1, 0, none⟩ = some (.bool false) := cell_of_row _ _ 0 _ _ _ G3.out
      have q4 : u2.frozen? ⟨w.heap.size + 1, 0, none⟩ = false := frozen_of_row _ _ 0 _ _ G3.out
      have m4 : u2.cell? ⟨w.heap.size, 4, none⟩ = some (.slice a N cap) := cell_of_row _ _ 4 _ _ _ G4.out
      clear hS
      show Exit.then _ _ .normal _ _
      clear hne
      gi_wp2_with (refine ⟨trivial, ?_⟩; gi_at_call 109; refine (callsIn_wide.2 (chunksf_impl g N cap a _)).mono ?_; rintro e w' ⟨rfl, rfl⟩)
      have hBd := heap_alloc_last (u2.alloc (.cells #[.pointer (some ⟨g, 0, none⟩)] 112)) (.cells #[.slice a N cap] 22)
      rw [World.size_alloc] at hBd
      have hBk := heap_alloc2_old u2 (.cells #[.pointer (some ⟨g, 0, none⟩)] 112) (.cells #[.slice a N cap] 22)
      have B5 := (B3.out.alloc B3.out.size (.cells #[.pointer (some ⟨g, 0, none⟩)] 112)).alloc (by have := B3.out.size; simp; omega) (.cells #[.slice a N cap] 22)
      have K2 : Below u2.heap.size u2 ((u2.alloc (.cells #[.pointer (some ⟨g, 0, none⟩)] 112)).alloc (.cells #[.slice a N cap] 22)) := ((Below.refl _ u2).alloc (Nat.le_refl _) _).alloc (by simp) _
      have G5 := keep_block G3.out K2
      obtain ⟨W2, hW2⟩ : ∃ W2, (u2.alloc (.cells #[.pointer (some ⟨g, 0, none⟩)] 112)).alloc (.cells #[.slice a N cap] 22) = W2 := ⟨_, rfl⟩
      have hsz2 : W2.heap.size = u2.heap.size + 2 := by rw [← hW2]; simp
      rw [hW2] at hBd hBk B5 K2 G5 ⊢
      have hgl := (Array.getElem?_eq_some_iff.1 HG.out).1
      have hw2 := B3.out.size
      have hgl2 := (Array.getElem?_eq_some_iff.1 G3.out).1
      have hseq := HST.out u2 (by rw [hW2]; exact hBd) (by rw [hW2]; exact hBk) (by rw [hW2]; exact (B5.block g hgl).trans HG.out) (by rw [hW2]; omega) (fun j hj => by rw [hW2, B5.cell (p := ⟨b, off + j, none⟩) hb]; exact HC.out j hj)
      rw [hW2] at hseq
      clear hW2 HST
      have hOb : Own (fun (_ : List (Nat × Nat × Bool)) W => Boxed W (w.heap.size + 1) 4 (.bool false)) := boxed_own (w.heap.size + 1) 4 (fun _ => .bool false)
      have hObl : OwnFrom W2.heap.size (fun (_ : List (Nat × Nat × Bool)) W => Below w.heap.size w W) := ownFrom_below (Nat.le_refl _) (by omega)
      have hI : OwnFrom W2.heap.size (fun (pre : List (Nat × Nat × Bool)) W => ((∀ x ∈ pre, x.2.2 = false) ∧ Boxed W (w.heap.size + 1) 4 (.bool false)) ∧ Below w.heap.size w W) :=
        OwnFrom.and (OwnFrom.and (ownFrom_pure W2.heap.size (fun pre : List (Nat × Nat × Bool) => ∀ x ∈ pre, x.2.2 = false)) (Own.from hOb _)) hObl
      have hIx : ∀ c : Code, OwnFrom W2.heap.size (fun (pre : List (Nat × Nat × Bool)) W => ((c = .ret ∧ ∃ x ∈ pre, x.2.2 = true) ∧ Boxed W (w.heap.size + 1) 4 (.bool false)) ∧ Below w.heap.size w W) := fun c =>
        OwnFrom.and (OwnFrom.and (ownFrom_pure W2.heap.size (fun pre : List (Nat × Nat × Bool) => c = .ret ∧ ∃ x ∈ pre, x.2.2 = true)) (Own.from hOb _)) hObl
      have hKb : ∀ (W : World) (l : Nat) (o o' : Obj), W2.heap.size ≤ l → W.heap[l]? = some o → o.isCells = false → o.isWalk = false → KeepD w.heap.size (u2.heap.size + 1) u2.heap.size g b W (W.putObj l o') := KeepD.put (by omega) (by omega) (by omega) (by omega) (by omega)
      have hin : (∀ x ∈ ([] : List (Nat × Nat × Bool)), x.2.2 = false) := by simp
      refine wpIn_rangeFunc_ownF hro h1 (gf := 131) (lb := #[.pointer (some ⟨u2.heap.size + 1, 0, none⟩), .pointer (some ⟨u2.heap.size, 0, none⟩)]) rfl trivial (enters_of Try.func131 (by kernel_rfl) rfl)
        hseq (fun h k => KeepD.trans h k) hKb (Below.refl _ _) (fun _ => rfl)
        (fun pre W => ((∀ x ∈ pre, x.2.2 = false) ∧ Boxed W (w.heap.size + 1) 4 (.bool false)) ∧ Below w.heap.size w W)
        (fun c pre W => ((c = .ret ∧ ∃ x ∈ pre, x.2.2 = true) ∧ Boxed W (w.heap.size + 1) 4 (.bool false)) ∧ Below w.heap.size w W)
        hI hIx ⟨⟨hin, G5⟩, B5⟩
        (fun x => { tmps := #[.pointer (some ⟨g, 0, none⟩), .agg #[.int .i64 lo, .int .i64 mo, .int .i64 bi, .int .u32 q, .slice a N cap], undef, .pointer (some ⟨w.heap.size, 0, none⟩), .pointer (some ⟨w.heap.size + 1, 0, none⟩), undef, .bool x.2.2, .pointer (some ⟨w.heap.size, 0, none⟩), .agg #[.int .i64 lo, .int .i64 mo, .int .i64 bi], .bool true, .bool false, .bool false, .pointer (some ⟨w.heap.size, 3, none⟩), .int .u32 q, .pointer (some ⟨g, 0, none⟩), .pointer (some ⟨w.heap.size, 4, none⟩), .slice a N cap, .int .u32 A, .bool false, .bool false, .pointer (some ⟨g, 0, none⟩), .pointer (some ⟨w.heap.size, 4, none⟩), .slice a N cap, .func (.func 131) #[] #[.pointer (some ⟨u2.heap.size + 1, 0, none⟩), .pointer (some ⟨u2.heap.size, 0, none⟩)], chunkV b off N x.1 x.2.1, .bool x.2.2, undef], defers := [] }) ?assign ?body ?done ?stop
      case assign =>
        intro l x W K hK
        gi_wp2
        exact hK
      case body =>
        rintro l pre ⟨s, m, e⟩ W ⟨⟨hp, hbx⟩, hB⟩ _
        have hcx := hbx.cell
        have hfx := hbx.frozen
        cases e
        · gi_wp2
          refine ⟨KeepsOthers.refl _, KeepD.refl _ _ _ _ _ _, ⟨fun y hy => ?_, hbx⟩, hB⟩
          rcases List.mem_append.1 hy with h | h
          · exact hp y h
          · rw [List.mem_singleton.1 h]
        · gi_wp2
          exact ⟨KeepsOthers.setCell _ _ _, ⟨⟨rfl, _, List.mem_append_right _ (List.mem_singleton.2 rfl), rfl⟩, hbx.set _⟩, hB.setCell (p := ⟨w.heap.size + 1, 0, none⟩) (by simp) _⟩
      case done =>
        rintro D ys W hD rfl ⟨⟨hp, hbx⟩, hB⟩ hK
        have hcx := hbx.cell
        have hfx := hbx.frozen
        gi_wp2
        have hK' := (KeepsOthers.setCell W ⟨w.heap.size + 1, 0, none⟩ (.bool true)).same D _ hK rfl
        refine ⟨by simp, .inl ⟨_, _, rfl, run_takeDeferred hK', ?_⟩⟩
        have hc5 := cell_kept (World.cell?_setCell_same' W ⟨w.heap.size + 1, 0, none⟩ (.bool true) (by rw [hcx]; rfl)) (grownBy_putObj' _ D (.deferred none)) (fun r e => by cases e; exact ⟨_, hK', rfl⟩)
        refine ⟨.bool true, ?_, by rw [HP.out, HNE.out hp], (hB.setCell (p := ⟨w.heap.size + 1, 0, none⟩) (by simp) _).trans (belowK_b (w := w) (Nat.le_refl _) _ D _ _ (by omega) hK' rfl rfl)⟩
        simp [results, Try.f89, go_sem, hc5]
      case stop =>
        rintro D c pre W hD hpre ⟨⟨⟨rfl, x, hx, hxt⟩, hbx⟩, hB⟩ hK
        have hcx := hbx.cell
        gi_wp2
        refine ⟨by simp, .inl ⟨_, _, rfl, run_takeDeferred hK, ?_⟩⟩
        have hc5 := cell_kept hcx (grownBy_putObj' _ D (.deferred none)) (fun r e => by cases e; exact ⟨_, hK, rfl⟩)
        refine ⟨.bool false, ?_, by rw [HP.out, HSE.out x (hpre.subset hx) hxt], hB.trans (belowK_b (w := w) (Nat.le_refl _) W D _ _ (by omega) hK rfl rfl)⟩
        simp [results, Try.f89, go_sem, hc5]
    · have HP : Hid (fitP lo mo bi q L = false) := Lib.hid (by rw [HP'.out, decide_eq_false hq]; rfl)
      have hne : (q != A) = true := by simp [hq]
      clear HP' hq
      gi_wp2
      refine region_calm ?_
      refine wpIn_wide.2 ?_
      refine wp_region_held_drew (S := Below W0.heap.size W0) (by kernel_rfl) ((Below.refl _ _).drew) (fun hS => ?_)
      refine take_on (i := 0) (v := .pointer (some ⟨w.heap.size, 0, none⟩)) rfl rfl (by kernel_rfl) (by kernel_rfl) (by kernel_rfl) (fun _ _ _ h => h) (Or.inl ⟨by rfl, fun W hW => by go_simp⟩) hS ?_
      refine take_on (i := 1) (v := .agg #[.int .i64 lo, .int .i64 mo, .int .i64 bi]) rfl rfl (by kernel_rfl) (by kernel_rfl) (by kernel_rfl) (fun _ _ _ h => h) (yieldsIf_load_mid (by rfl) 62 _ rfl w.heap.size 0 rfl [.int .i64 lo, .int .i64 mo, .int .i64 bi] _ (fun W hW => rangeAt_below (head3 G1.out) hW) Try.underlying62 rfl sizeRi) hS ?_
      simp only [List.setIfInBounds_toArray, List.set_cons_zero, List.set_cons_succ]
      refine wpAnyH_ready (rs := [2]) (by kernel_rfl) (by simp) ?_
      refine AllReadyH.cons rfl (fun K hK => ?_) AllReadyH.nil
      rw [if_pos (by rfl)]
      go_simp
      refine (HV.out _).mono ?_
      rintro e u1 ⟨rfl, hb1⟩
      refine hK.out _ _ (below_call hS hS.size hb1) (fun hS => ?_)
      clear hb1 hK
      refine take_on (i := 3) (v := .bool false) rfl rfl (by kernel_rfl) (by kernel_rfl) (by kernel_rfl) (fun _ _ _ h => h) (Or.inl ⟨by rfl, fun W hW => by go_simp⟩) hS ?_
      refine take_on (i := 4) (v := .bool false) rfl rfl (by kernel_rfl) (by kernel_rfl) (by kernel_rfl) (fun _ _ _ h => h) (Or.inl ⟨by rfl, fun W hW => by go_simp⟩) hS ?_
      simp only [List.setIfInBounds_toArray, List.set_cons_zero, List.set_cons_succ]
      refine take_on (i := 5) (v := .pointer (some ⟨w.heap.size, 3, none⟩)) rfl rfl (by kernel_rfl) (by kernel_rfl) (by kernel_rfl) (fun _ _ _ h => h) (Or.inl ⟨by rfl, fun W hW => by go_simp⟩) hS ?_
      refine take_on (i := 6) (v := .int .u32 q) rfl rfl (by kernel_rfl) (by kernel_rfl) (by kernel_rfl) (fun _ _ _ h => h) (Or.inl ⟨by rfl, fun W hW => by
        have hc : W.cell? ⟨w.heap.size, 3, none⟩ = some (.int .u32 q) := cell_of_row W w.heap.size 3 _ _ _ ((hW.block w.heap.size (by have := HSZ.out; omega)).trans G1.out)
        go_simp⟩) hS ?_
      refine take_on (i := 7) (v := .pointer (some ⟨g, 0, none⟩)) rfl rfl (by kernel_rfl) (by kernel_rfl) (by kernel_rfl) (fun _ _ _ h => h) (Or.inl ⟨by rfl, fun W hW => by go_simp⟩) hS ?_
      refine take_on (i := 8) (v := .pointer (some ⟨w.heap.size, 4, none⟩)) rfl rfl (by kernel_rfl) (by kernel_rfl) (by kernel_rfl) (fun _ _ _ h => h) (Or.inl ⟨by rfl, fun W hW => by go_simp⟩) hS ?_
      refine take_on (i := 9) (v := .slice a N cap) rfl rfl (by kernel_rfl) (by kernel_rfl) (by kernel_rfl) (fun _ _ _ h => h) (Or.inl ⟨by rfl, fun W hW => by
        have hc : W.cell? ⟨w.heap.size, 4, none⟩ = some (.slice a N cap) := cell_of_row W w.heap.size 4 _ _ _ ((hW.block w.heap.size (by have := HSZ.out; omega)).trans G1.out)
        go_simp⟩) hS ?_
      simp only [List.setIfInBounds_toArray, List.set_cons_zero, List.set_cons_succ]
      refine wpAnyH_ready (rs := [10]) (by kernel_rfl) (by simp) ?_
      refine AllReadyH.cons rfl (fun K hK => ?_) AllReadyH.nil
      rw [if_pos (by rfl)]
      go_simp
      refine (HRO.out _ ((hS.block g (Nat.lt_of_lt_of_le (Array.getElem?_eq_some_iff.1 HG.out).1 HB.out.size)).trans ((HB.out.block g (Array.getElem?_eq_some_iff.1 HG.out).1).trans HG.out)) (HRD.out.below (HB.out.trans (hS.mono HB.out.size)))).mono ?_
      rintro e u2 ⟨rfl, hb1⟩
      refine hK.out _ _ (below_call hS hS.size hb1) (fun hS => ?_)
      clear hb1 hK
      refine take_on (i := 11) (v := .bool true) rfl rfl (by kernel_rfl) (by kernel_rfl) (by kernel_rfl) (fun _ _ _ h => h) (Or.inl ⟨by rfl, fun W hW => by go_simp⟩) hS ?_
      refine take_on (i := 12) (v := .bool true) rfl rfl (by kernel_rfl) (by kernel_rfl) (by kernel_rfl) (fun _ _ _ h => h) (Or.inl ⟨by rfl, fun W hW => by go_simp⟩) hS ?_
      refine wpAnyH_done (by kernel_rfl) ?_ _
      simp only [List.setIfInBounds_toArray, List.set_cons_zero, List.set_cons_succ]
      have G3 := Lib.hid ((hS.block (w.heap.size + 1) (by have := HSZ.out; omega)).trans G2.out)
      have G4 := Lib.hid ((hS.block w.heap.size (by have := HSZ.out; omega)).trans G1.out)
      have B3 := Lib.hid (HB.out.trans (hS.mono HB.out.size))
      have c4 : u2.cell? ⟨w.heap.size + 1, 0, none⟩ = some (.bool false) := cell_of_row _ _ 0 _ _ _ G3.out
      have q4 : u2.frozen? ⟨w.heap.size + 1, 0, none⟩ = false := frozen_of_row _ _ 0 _ _ G3.out
      have m4 : u2.cell? ⟨w.heap.size, 4, none⟩ = some (.slice a N cap) := cell_of_row _ _ 4 _ _ _ G4.out
      clear hS
      show Exit.then _ _ .normal _ _
      gi_wp2
      have hc5 := World.cell?_setCell_same' u2 ⟨w.heap.size + 1, 0, none⟩ (.bool false) (by rw [c4]; rfl)
      refine ⟨.bool false, ?_, by rw [HP.out], B3.out.setCell (p := ⟨w.heap.size + 1, 0, none⟩) (by simp) _⟩
      simp [results, Try.f89, go_sem, hc5]
end Go.Proofs.Ytdamgodfgoackaa
