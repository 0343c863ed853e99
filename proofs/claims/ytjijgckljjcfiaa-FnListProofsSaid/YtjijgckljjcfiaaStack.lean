/- The stack of keys: made of a list, popped. -/
import Derived.Test.YtjijgckljjcfiaaLeaves
import Derived.Test.YtjijgckljjcfiaaKeys
import Derived.Test.YtjijgckljjcfiaaOnes
namespace Go.Proofs.Ytjijgckljjcfiaa
open Go.ChangeShapes Go.WideShapes Go.ChangeAt Go.RowKit
set_option linter.unusedVariables false
theorem keyParts : ∃ (i : TypeInfo) (z : Value), Try.prog.info? 28 = some i ∧ i.zero = some z ∧ i.size = 32 ∧ i.bytes = 32 ∧ z.cells.size = 32 ∧ z.cells = ints .u8 z32 := by
  obtain ⟨i, hi, hzz⟩ := Option.map_eq_some_iff.1 keyInfo
  simp only [Prod.mk.injEq] at hzz
  obtain ⟨hz, hs, hb⟩ := hzz
  obtain ⟨z, hz0, hzc⟩ := Option.map_eq_some_iff.1 hz
  exact ⟨i, z, hi, hz0, hs, hb, by rw [hzc, ints_size]; rfl, hzc⟩
theorem addr_at (b o j : Nat) : (⟨b, o, none⟩ : Addr).add j = ⟨b, o + j, none⟩ := by
  unfold Addr.add
  split
  · simp_all
  · rfl
theorem owns_empty (w : World) (t : TypeId) (size : Nat) : (w.alloc (.cells #[] t)).ownsRow w.heap.size t size (.slice (some ⟨w.heap.size, 0, none⟩) 0 0) 0 [] :=
  ⟨by simp, Or.inr ⟨w.heap.size, 0, #[], rfl, Nat.le_refl _, heap_alloc_last _ _, by omega, by unfold maxLen; omega, by simp, by simp⟩⟩
set_option maxRecDepth 100000 in
set_option maxHeartbeats 2000000 in
theorem clone_impl (a : Option Addr) (n cap : Nat) (fl : List Int) (hn : n ≤ 1048576) (w : World) (hr : RdK w a n fl) :
    Calls Try.prog 133 #[.slice a n cap] w fun e w' => ∃ v, e = .returned v ∧ w'.ownsRow w.heap.size 28 32 v n (fl.map (Value.int .u8)) ∧ Below w.heap.size w w' := by
  obtain ⟨i0, z0, hi, hz0, hz1, hz2, hzs, hzc⟩ := keyParts
  have Hi := Lib.hid hi
  have heq : ∀ W, (binOp .eql 24 (.slice a n cap) (.slice none 0 0)).run Try.prog W = .ok (.bool a.isNone) W := fun W => by
    simp [binOp, go_sem, run_equal_slice_nil W 24 28 a n cap Try.underlying24]
  have B1 := Lib.hid ((Below.refl w.heap.size w).alloc (Nat.le_refl _) (.cells #[] 28))
  have O1 := Lib.hid (owns_empty w 28 32)
  by_cases h0 : n = 0
  · subst h0
    have hl : fl = [] := List.eq_nil_of_length_eq_zero hr.1
    subst hl
    cases a with
    | none =>
      go_enter Try.func133, Try.ntmps133
      go_wp2_with fail
      go_ret
      exact ⟨_, rfl, World.ownsRow_nil _ _ _ _, Below.refl _ _⟩
    | some x =>
      go_enter Try.func133, Try.ntmps133
      go_wp2_with (refine wpList_append_ran rfl _ _ 24 24 rfl _ _ rfl rfl (run_append_zero 24 _ 28 i0 32 Try.underlying24 Hi.out _ 0 [] O1.out _ _) ?_)
      go_ret
      exact ⟨_, rfl, O1.out, B1.out⟩
  · obtain ⟨blk, off, rfl⟩ := hr.form (by omega)
    have Hr := Lib.hid (hr.below B1.out)
    clear hr
    go_enter Try.func133, Try.ntmps133
    go_wp2_with (at_builtin; refine wpList_append_own _ rfl _ _ 24 rfl w.heap.size 28 i0 z0 32 32 Try.underlying24 Hi.out hz0 hz1 hz2 hzs (by decide) _ 0 _ rfl O1.out ⟨blk, off, none⟩ n _ (fl.map (Value.int .u8)) rfl ?c1 ?c2 ?c3 ?c4 ?c5 ?c6 ?_)
    case c1 => rw [List.length_map, Hr.out.1, Nat.mul_comm]
    case c2 =>
      intro j u hu
      obtain ⟨h1, h2⟩ := Hr.out
      rcases h2 with h2 | ⟨b', o', e, _, hc⟩
      · omega
      · cases e
        have hj : j < fl.length := by
          have := (List.getElem?_eq_some_iff.1 hu).1
          simpa using this
        rw [List.getElem?_map, List.getElem?_eq_getElem hj] at hu
        have := hc j (by omega)
        rw [List.getElem?_eq_getElem hj] at this
        rw [show (⟨blk, off, none⟩ : Addr).add j = ⟨blk, off + j, none⟩ from addr_at _ _ _]
        exact this.trans hu
    case c3 => intro u hu; obtain ⟨z, _, rfl⟩ := List.mem_map.1 hu; rfl
    case c4 => unfold maxLen; omega
    case c5 => omega
    case c6 => simp
    intro v' w4 hown4 hgrow4 hnil4
    have B4 := Lib.hid (B1.out.grown hgrow4 B1.out.size (fun g e => (O1.out.lt g e).1))
    have O4 := Lib.hid hown4
    clear hown4 hgrow4 hnil4
    go_wp2_with fail
    go_ret
    have o4 := O4.out
    try simp only [Nat.zero_add, List.nil_append] at o4
    exact ⟨_, rfl, o4, B4.out⟩
theorem RdK.same {w w1 : World} {a : Option Addr} {n : Nat} {fl : List Int} (h : RdK w a n fl) (hs : w.heap.size ≤ w1.heap.size) (hk : ∀ b o, a = some ⟨b, o, none⟩ → w1.heap[b]? = w.heap[b]?) : RdK w1 a n fl := by
  obtain ⟨h1, h2⟩ := h
  refine ⟨h1, ?_⟩
  rcases h2 with h2 | ⟨b, off, e, hlt, hc⟩
  · exact Or.inl h2
  · exact Or.inr ⟨b, off, e, Nat.lt_of_lt_of_le hlt hs, fun j hj => by rw [World.cell?_of_block (w := w) (a := ⟨b, off + j, none⟩) (hk b off e)]; exact hc j hj⟩
/-- A stack lies in block g, with the first n keys of a list. -/
def Stk (g n : Nat) (fl : List Int) (W : World) : Prop := ∃ a cap, W.heap[g]? = some (.cells #[.slice a n cap] 157) ∧ RdK W a n (fl.take (32 * n)) ∧ n ≤ cap ∧ cap ≤ maxLen ∧ ∀ b o, a = some ⟨b, o, none⟩ → b < g
theorem owns_cap {w : World} {base size n : Nat} {e : TypeId} {a : Option Addr} {cap : Nat} {xs : List Value} (h : w.ownsRow base e size (.slice a n cap) n xs) : n ≤ cap ∧ cap ≤ maxLen ∧ ∀ b o, a = some ⟨b, o, none⟩ → base ≤ b ∧ b < w.heap.size := by
  rcases h.2 with ⟨h0, h1⟩ | ⟨g, c, cur, hv, hg, hh, hc, hm, _⟩
  · cases h0
    exact ⟨Nat.le_refl _, Nat.zero_le _, fun b o e => by cases e⟩
  · cases hv
    exact ⟨hc, hm, fun b o e => by cases e; exact ⟨hg, (Array.getElem?_eq_some_iff.1 hh).1⟩⟩
set_option maxRecDepth 100000 in
set_option maxHeartbeats 1000000 in
theorem stackof_impl (a : Option Addr) (n cap : Nat) (fl : List Int) (hn : n ≤ 1048576) (w : World) (hr : RdK w a n fl) :
    Calls Try.prog 116 #[.slice a n cap] w fun e w' => ∃ g, e = .returned (.pointer (some ⟨g, 0, none⟩)) ∧ Stk g n fl w' ∧ w.heap.size ≤ g ∧ g < w'.heap.size ∧ Below w.heap.size w w' := by
  have Hc := Lib.hid (clone_impl a n cap fl hn w hr)
  have Hl := Lib.hid hr.1
  clear hr
  go_enter Try.func116, Try.ntmps116
  go_wp2_with fail
  refine Hc.out.mono ?_
  rintro e w1 ⟨v, rfl, hown, hb⟩
  obtain ⟨a1, c1, rfl, hrd⟩ := RdK.owned Hl.out hown
  obtain ⟨q1, q2, q3⟩ := owns_cap hown
  have R1 := Lib.hid hrd
  have B1 := Lib.hid hb
  have Q1 := Lib.hid q1
  have Q2 := Lib.hid q2
  have Q3 := Lib.hid q3
  clear hown hb hrd q1 q2 q3 Hc
  go_wp2_with fail
  go_ret
  refine ⟨w1.heap.size, rfl, ⟨a1, c1, heap_alloc_last _ _, ?_, Q1.out, Q2.out, fun b o e => ?_⟩, B1.out.size, by simp, B1.out.alloc B1.out.size _⟩
  · rw [List.take_of_length_le (by rw [Hl.out]; exact Nat.le_refl _)]
    exact R1.out.below ((Below.refl _ _).alloc (Nat.le_refl _) _)
  · have := (Q3.out b o e).2
    omega
theorem Keep.cell {B : Nat} {X : Nat → Prop} {w : World} {p : Addr} {v : Value} (hx : X p.block) : Keep B X w (w.setCell p v) :=
  ⟨rfl, rfl, rfl, by simp [World.setCell], fun k hk hn => heap_setCell_other _ _ _ _ (fun e => hn (e ▸ hx))⟩
/-! The pop. -/
theorem Stk.below {g n : Nat} {fl : List Int} {w w' : World} (h : Stk g n fl w) (hb : Below w.heap.size w w') : Stk g n fl w' := by
  obtain ⟨a, cap, h1, h2, h3, h4, h5⟩ := h
  exact ⟨a, cap, keep_block h1 hb, h2.below hb, h3, h4, h5⟩
theorem Stk.above {g n : Nat} {fl : List Int} {w w' : World} (h : Stk g n fl w) (hb : Below (g + 1) w w') : Stk g n fl w' := by
  obtain ⟨a, cap, h1, h2, h3, h4, h5⟩ := h
  exact ⟨a, cap, (hb.block g (by omega)).trans h1, h2.same hb.size (fun b o e => hb.block b (by have := h5 b o e; omega)), h3, h4, h5⟩
theorem pop_take {fl : List Int} {n : Nat} (h : 0 < n) : (fl.take (32 * n)).take (32 * (n - 1)) = fl.take (32 * (n - 1)) := by
  rw [List.take_take]
  congr 1
  omega
set_option maxRecDepth 100000 in
set_option maxHeartbeats 2000000 in
theorem pop_none (g : Nat) (fl : List Int) (w : World) (hs : Stk g 0 fl w) :
    Calls Try.prog 118 #[.pointer (some ⟨g, 0, none⟩)] w fun e w' => e = .returned (.tuple #[.agg (ints .u8 z32), .bool false]) ∧ Below w.heap.size w w' := by
  have Hz := Lib.hid z32_ints
  obtain ⟨a, cap, h1, _, _, _, _⟩ := hs
  have BW := Lib.hid ((Below.refl w.heap.size w).alloc (Nat.le_refl _) (.cells (ints .u8 z32) 28))
  have G0 := Lib.hid (heap_alloc_last w (.cells (ints .u8 z32) 28))
  have S0 := Lib.hid (keep_block h1 BW.out)
  obtain ⟨W0, hW0⟩ : ∃ W0, w.alloc (.cells (ints .u8 z32) 28) = W0 := ⟨_, rfl⟩
  rw [hW0] at BW G0 S0
  have cs := cell_of_one S0.out
  clear h1
  have B2 := Lib.hid (BW.out.alloc BW.out.size (.cells (ints .u8 z32) 28))
  have G2 := Lib.hid (keep_block G0.out ((Below.refl _ _).alloc (Nat.le_refl _) (.cells (ints .u8 z32) 28)))
  have K2 := Lib.hid (heap_alloc_last W0 (.cells (ints .u8 z32) 28))
  rw [Hz.out] at hW0
  go_enter Try.func118, Try.ntmps118
  go_wp2_with (first | (refine wpList_load_row rfl 28 (.tmp 4) rfl W0.heap.size rfl 28 (ints .u8 z32) (0, 0) _ (by rw [← Hz.out]; exact K2.out) Try.underlying28 rfl (by kernel_rfl) ?_) | (refine wpList_store_row rfl 28 (.tmp 2) _ rfl w.heap.size (ints .u8 z32) rfl rfl 28 (ints .u8 z32) (by rw [← Hz.out]; exact G2.out) (by kernel_rfl) rfl (ints_one _ _) ?_))
  refine bodyPost_ret (results_cell2_row rfl _ _ w.heap.size 28 (ints .u8 z32) (0, 0) _ rfl (setRow_heap _ _ (ints .u8 z32) _ _ _ (by rw [← Hz.out]; exact G2.out)) Try.underlying28 rfl (by kernel_rfl)) rfl ⟨rfl, ?_⟩
  rw [← Hz.out]
  exact Below.setRow B2.out (Nat.le_refl _) _
set_option maxRecDepth 100000 in
set_option maxHeartbeats 4000000 in
theorem pop_some (g n : Nat) (fl : List Int) (h0 : 0 < n) (hn : n ≤ 1048576) (w : World) (hs : Stk g n fl w) :
    Calls Try.prog 118 #[.pointer (some ⟨g, 0, none⟩)] w fun e w' => e = .returned (.tuple #[.agg (ints .u8 (keyAt fl (n - 1))), .bool true]) ∧ Stk g (n - 1) fl w' ∧ Keep w.heap.size (· = g) w w' := by
  have Hz := Lib.hid z32_ints
  obtain ⟨a, cap, h1, h2, h3, h4, h5⟩ := hs
  obtain ⟨blk, off, rfl⟩ := h2.form h0
  have hlg := h5 blk off rfl
  have HLG := Lib.hid hlg
  have hne : blk ≠ g := by omega
  have hgl := (Array.getElem?_eq_some_iff.1 h1).1
  have Hbl : Hid (blk < w.heap.size) := Lib.hid (by
    rcases h2.2 with h | ⟨b', o', e, h, _⟩
    · omega
    · cases e; exact h)
  have Hkl := Lib.hid (keyAt_len h2.1 (show n - 1 < n by omega))
  have Hkey := h2.key (n - 1) (by omega)
  have HD := Lib.hid (h2.take (m := n - 1) (by omega))
  rw [pop_take h0] at HD
  have e := keyAt_take (fl := fl) (show n - 1 < n by omega)
  rw [e] at Hkl Hkey
  clear e
  generalize keyAt fl (n - 1) = key at Hkl Hkey ⊢
  have BW := Lib.hid ((Below.refl w.heap.size w).alloc (Nat.le_refl _) (.cells (ints .u8 z32) 28))
  have G0 := Lib.hid (heap_alloc_last w (.cells (ints .u8 z32) 28))
  have S0 := Lib.hid (keep_block h1 BW.out)
  obtain ⟨W0, hW0⟩ : ∃ W0, w.alloc (.cells (ints .u8 z32) 28) = W0 := ⟨_, rfl⟩
  rw [hW0] at BW G0 S0
  have HSZ : Hid (W0.heap.size = w.heap.size + 1) := Lib.hid (by rw [← hW0]; simp)
  have Rg := Lib.hid (rangeAt_below Hkey BW.out)
  have Hgl := Lib.hid hgl
  have Hne := Lib.hid hne
  have H3 := Lib.hid h3
  have H4 := Lib.hid h4
  have HR := Lib.hid (HD.out.below BW.out)
  have cs := cell_of_one S0.out
  clear h1 h2 h5 hne hgl Hkey HD hlg
  have c1 : (0 : Int) < (n : Int) := by omega
  have c2 : (n : Int) ≤ 1048576 := by omega
  have c3 : IntKind.i64.wrap ((n : Int) - 1) = ((n - 1 : Nat) : Int) := by rw [IntKind.wrap_i64]; omega
  have HC3 := Lib.hid c3
  clear c3
  have L1 := Lib.hid (laid_below W0 (ints .u8 z32) (ints .u8 key) 28)
  have K1 := Lib.hid (laid_new W0 (ints .u8 z32) (ints .u8 key) 28)
  have G1 := Lib.hid (laid_old (ints .u8 z32) (ints .u8 key) 28 G0.out)
  have S1 := Lib.hid (laid_old (ints .u8 z32) (ints .u8 key) 28 S0.out)
  have HR1 := Lib.hid (HR.out.below L1.out)
  have cs1 := cell_of_one S1.out
  have cf1 := free_of_one S1.out
  rw [Hz.out] at cs1 cf1
  have hg0 : ¬ g = W0.heap.size := by have := HSZ.out; have := Hgl.out; omega
  have hg1 : ¬ g = w.heap.size := by have := Hgl.out; omega
  have K2 := Lib.hid ((heap_setCell_other _ ⟨g, 0, none⟩ W0.heap.size (.slice (some ⟨blk, off, none⟩) (n - 1) cap) (fun e => hg0 e.symm)).trans K1.out)
  have G2 := Lib.hid ((heap_setCell_other _ ⟨g, 0, none⟩ w.heap.size (.slice (some ⟨blk, off, none⟩) (n - 1) cap) (fun e => hg1 e.symm)).trans G1.out)
  have S2 := Lib.hid (one_setCell (u := .slice (some ⟨blk, off, none⟩) (n - 1) cap) S1.out)
  have HG0 := Lib.hid hg0
  have HG1 := Lib.hid hg1
  clear hg0 hg1
  rw [Hz.out] at hW0
  go_enter Try.func118, Try.ntmps118
  go_wp2_with (first | (refine wpList_load_ints rfl 28 (.tmp 25) rfl blk (off + (n - 1) * 32) rfl .u8 key _ Rg.out Try.underlying28 rfl (by rw [Hkl.out]; exact sizeKey) ?_) | (refine wpList_store_row rfl 28 (.tmp 6) _ rfl W0.heap.size (ints .u8 key) rfl rfl 28 (ints .u8 z32) (by rw [Hz.out]; exact heap_alloc_last _ _) (by rw [ints_size, Hkl.out]; exact sizeKey) (by rw [ints_size, ints_size, Hkl.out]; rfl) (ints_one _ _) ?_) | (refine wpList_load_row rfl 28 (.tmp 6) rfl W0.heap.size rfl 28 (ints .u8 key) (0, 0) _ (by rw [← Hz.out]; exact K2.out) Try.underlying28 rfl (by rw [ints_size, Hkl.out]; exact sizeKey) ?_) | (refine wpList_store_row rfl 28 (.tmp 2) _ rfl w.heap.size (ints .u8 key) rfl rfl 28 (ints .u8 z32) (by rw [← Hz.out]; exact G2.out) (by rw [ints_size, Hkl.out]; exact sizeKey) (by rw [ints_size, ints_size, Hkl.out]; rfl) (ints_one _ _) ?_))
  refine bodyPost_ret (results_cell2_row rfl _ _ w.heap.size 28 (ints .u8 key) (0, 0) _ rfl (setRow_heap _ _ (ints .u8 z32) _ _ _ (by rw [← Hz.out]; exact G2.out)) Try.underlying28 rfl (by rw [ints_size, Hkl.out]; exact sizeKey)) rfl ⟨rfl, ?_⟩
  rw [← Hz.out]
  have E := Lib.hid (Below.setRow (g := w.heap.size) (Below.refl w.heap.size (((W0.alloc (.cells (ints .u8 z32) 28)).setRow W0.heap.size (ints .u8 key)).setCell ⟨g, 0, none⟩ (.slice (some ⟨blk, off, none⟩) (n - 1) cap))) (Nat.le_refl _) (ints .u8 key))
  have C := Lib.hid (Keep.cell (B := w.heap.size) (X := (· = g)) (w := (W0.alloc (.cells (ints .u8 z32) 28)).setRow W0.heap.size (ints .u8 key)) (p := ⟨g, 0, none⟩) (v := .slice (some ⟨blk, off, none⟩) (n - 1) cap) rfl)
  have KB := Lib.hid (((Keep.of (· = g) BW.out).trans ((Keep.of (· = g) L1.out).mono BW.out.size)).trans C.out)
  refine ⟨⟨some ⟨blk, off, none⟩, cap, (setRow_other _ _ _ _ HG1.out).trans S2.out, ?_, by have := H3.out; omega, H4.out, fun b o e => by cases e; exact HLG.out⟩, KB.out.trans (Keep.of _ E.out)⟩
  by_cases h1 : n - 1 = 0
  · exact ⟨HR1.out.1, Or.inl h1⟩
  · have hb := HR1.out.2
    have hlt : blk < w.heap.size := Hbl.out
    refine HR1.out.same (Nat.le_trans (by simp [World.setCell]) E.out.size) (fun b o e => ?_)
    cases e
    exact (setRow_other _ _ _ _ (by omega)).trans (heap_setCell_other _ _ _ _ Hne.out)
end Go.Proofs.Ytjijgckljjcfiaa
