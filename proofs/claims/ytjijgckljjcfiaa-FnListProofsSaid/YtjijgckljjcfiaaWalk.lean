/- The key of a tree by the program's closure, whatever it is told. Written by wip/gen/walk.py. -/
import Derived.Test.YtjijgckljjcfiaaSpan
namespace Go.Proofs.Ytjijgckljjcfiaa
open Go.ChangeShapes Go.WideShapes Go.ChangeAt Go.RowKit
set_option linter.unusedVariables false
/-- What lies below B is kept, but for the blocks X. -/
structure Keep (B : Nat) (X : Nat → Prop) (w w' : World) : Prop where
  os : w'.os = w.os
  tape : w'.tape = w.tape
  output : w'.output = w.output
  size : w.heap.size ≤ w'.heap.size
  block : ∀ k, k < B → ¬ X k → w'.heap[k]? = w.heap[k]?
theorem Keep.refl (B : Nat) (X : Nat → Prop) (w : World) : Keep B X w w := ⟨rfl, rfl, rfl, Nat.le_refl _, fun _ _ _ => rfl⟩
theorem Keep.trans {B : Nat} {X : Nat → Prop} {a b c : World} (h : Keep B X a b) (k : Keep B X b c) : Keep B X a c :=
  ⟨k.os.trans h.os, k.tape.trans h.tape, k.output.trans h.output, Nat.le_trans h.size k.size, fun i hi hx => (k.block i hi hx).trans (h.block i hi hx)⟩
theorem Keep.mono {B C : Nat} {X : Nat → Prop} {a b : World} (h : Keep B X a b) (hc : C ≤ B) : Keep C X a b := ⟨h.os, h.tape, h.output, h.size, fun i hi hx => h.block i (by omega) hx⟩
theorem Keep.of {B : Nat} (X : Nat → Prop) {a b : World} (h : Below B a b) : Keep B X a b := ⟨h.os, h.tape, h.output, h.size, fun i hi _ => h.block i hi⟩
theorem Keep.below {B C : Nat} {X : Nat → Prop} {a b : World} (h : Keep B X a b) (hc : C ≤ B) (hx : ∀ k, X k → C ≤ k) : Below C a b := ⟨h.os, h.tape, h.output, h.size, fun i hi => h.block i (by omega) (fun hk => by have := hx i hk; omega)⟩
theorem Keep.call {B : Nat} {X : Nat → Prop} {a b c : World} (h : Keep B X a b) (hB : B ≤ b.heap.size) (k : Keep b.heap.size X b c) : Keep B X a c := h.trans (k.mono hB)
theorem Keep.hold {X : Nat → Prop} {a b : World} {g : Nat} {o : Obj} (k : Keep a.heap.size X a b) (hx : ¬ X g) (hg : a.heap[g]? = some o) : b.heap[g]? = some o :=
  (k.block g (Array.getElem?_eq_some_iff.1 hg).1 hx).trans hg
/-- A new block, written at once. -/
def World.laid (w : World) (old new : Array Value) (t : TypeId) : World := (w.alloc (.cells old t)).setRow w.heap.size new
theorem laid_below (w : World) (old new : Array Value) (t : TypeId) : Below w.heap.size w ((w.alloc (.cells old t)).setRow w.heap.size new) := Below.setRow ((Below.refl _ _).alloc (Nat.le_refl _) _) (Nat.le_refl _) _
theorem laid_new (w : World) (old new : Array Value) (t : TypeId) : ((w.alloc (.cells old t)).setRow w.heap.size new).heap[w.heap.size]? = some (.cells new t) := setRow_heap _ _ old new _ _ (heap_alloc_last w (.cells old t))
theorem laid_old {w : World} {g : Nat} {o : Obj} (old new : Array Value) (t : TypeId) (h : w.heap[g]? = some o) : ((w.alloc (.cells old t)).setRow w.heap.size new).heap[g]? = some o := keep_block h (laid_below w old new t)
/-- The key to which a walk comes that is told keys, the right part being asked for first, and what is known then. -/
def walkT {σ : Type} (tl : Nat → Nat → σ → List Int × Bool × σ) (n b : Nat) (s : σ) : List Int × σ :=
  if h : (tl b n s).2.1 = true ∨ n ≤ 1 then ((tl b n s).1, (tl b n s).2.2)
  else
    let r := walkT tl (n - half n) (b + half n) (tl b n s).2.2
    let l := walkT tl (half n) b r.2
    (nodeK l.1 r.1, l.2)
termination_by n
decreasing_by
  · have := half_pos n; have := half_lt (n := n) (by omega); omega
  · exact half_lt (by omega)
theorem walkT_yes {σ : Type} {tl : Nat → Nat → σ → List Int × Bool × σ} {n b : Nat} {s : σ} (h : (tl b n s).2.1 = true) : walkT tl n b s = ((tl b n s).1, (tl b n s).2.2) := by rw [walkT, dif_pos (Or.inl h)]
theorem walkT_no {σ : Type} {tl : Nat → Nat → σ → List Int × Bool × σ} {n b : Nat} {s : σ} (h : (tl b n s).2.1 = false) (h1 : 1 < n) : walkT tl n b s =
    (nodeK (walkT tl (half n) b (walkT tl (n - half n) (b + half n) (tl b n s).2.2).2).1 (walkT tl (n - half n) (b + half n) (tl b n s).2.2).1, (walkT tl (half n) b (walkT tl (n - half n) (b + half n) (tl b n s).2.2).2).2) := by
  rw [walkT, dif_neg (by simp [h]; omega)]
theorem laid2_below (u : World) (z c d : Array Value) (t : TypeId) : Below u.heap.size u ((((u.alloc (.cells z t)).alloc (.cells z t)).setRow u.heap.size c).setRow (u.heap.size + 1) d) :=
  Below.setRow (g := u.heap.size + 1) (Below.setRow (g := u.heap.size) (((Below.refl _ _).alloc (Nat.le_refl _) _).alloc (by simp) _) (Nat.le_refl _) _) (by omega) _
theorem laid2_fst (u : World) (z c d : Array Value) (t : TypeId) : ((((u.alloc (.cells z t)).alloc (.cells z t)).setRow u.heap.size c).setRow (u.heap.size + 1) d).heap[u.heap.size]? = some (.cells c t) :=
  (setRow_other _ _ _ _ (by omega)).trans (setRow_heap _ _ z c _ _ (heap_alloc2_old _ _ _))
theorem laid2_snd (u : World) (z c d : Array Value) (t : TypeId) : ((((u.alloc (.cells z t)).alloc (.cells z t)).setRow u.heap.size c).setRow (u.heap.size + 1) d).heap[u.heap.size + 1]? = some (.cells d t) :=
  setRow_heap _ _ z d _ _ ((setRow_other _ _ _ _ (by omega)).trans (heap_alloc2_new _ _ _))
def L32 (l : List Int) : Prop := l.length = 32 ∧ ∀ z ∈ l, 0 ≤ z ∧ z ≤ 255
/-- What the walk asks of the one that tells. -/
structure Tells {σ : Type} (tl : Nat → Nat → σ → List Int × Bool × σ) (I : σ → World → Prop) (B0 : Nat) (X : Nat → Prop) (N tf : Nat) (tc : Array Value) : Prop where
  small : N ≤ 1048576
  enters : ∀ (args : Array Value) (w : World), (callFunc tf args).run Try.prog w = .ok (.enter tf args) w
  low : ∀ k, X k → k < B0
  keep : ∀ s w w', I s w → Below B0 w w' → I s w'
  one : ∀ b s, (tl b 1 s).2.1 = true
  good : ∀ b n s w, 1 ≤ n → b + n ≤ N → I s w → L32 (tl b n s).1
  call : ∀ b n s w, 1 ≤ n → b + n ≤ N → B0 ≤ w.heap.size → I s w → Calls Try.prog tf (#[.agg (spanA b (b + n))] ++ tc) w fun x w' => x = .returned (.tuple #[.agg (ints .u8 (tl b n s).1), .bool (tl b n s).2.1]) ∧ I (tl b n s).2.2 w' ∧ Keep w.heap.size X w w'
/-- What the closure's own variables are, at any time of its call from w on. -/
structure Own (X : Nat → Prop) (tb wb jb tf : Nat) (tc : Array Value) (w W : World) : Prop where
  keep : Keep w.heap.size X w W
  size : w.heap.size + 2 ≤ W.heap.size
  res : W.heap[w.heap.size + 1]? = some (.cells (ints .u8 z32) 28)
  tell : W.heap[tb]? = some (.cells #[.func (.func tf) #[] tc] 106)
  walk : W.heap[wb]? = some (.cells #[.func (.func 117) #[] #[.pointer (some ⟨tb, 0, none⟩), .pointer (some ⟨wb, 0, none⟩), .pointer (some ⟨jb, 0, none⟩)]] 153)
  join : W.heap[jb]? = some (.cells #[.func (.func 46) #[] #[]] 139)
theorem Own.step {X : Nat → Prop} {tb wb jb tf : Nat} {tc : Array Value} {w W U : World} (h : Own X tb wb jb tf tc w W) (xt : ¬ X tb) (xw : ¬ X wb) (xj : ¬ X jb) (lx : ∀ k, X k → k < w.heap.size) (k : Keep W.heap.size X W U) : Own X tb wb jb tf tc w U :=
  ⟨h.keep.trans (k.mono h.keep.size), Nat.le_trans h.size k.size, k.hold (fun hx => by have := lx _ hx; omega) h.res, k.hold xt h.tell, k.hold xw h.walk, k.hold xj h.join⟩
set_option maxRecDepth 100000 in
set_option maxHeartbeats 4000000 in
theorem walk_impl {σ : Type} {tl : Nat → Nat → σ → List Int × Bool × σ} {I : σ → World → Prop} {B0 N tf : Nat} {X : Nat → Prop} {tc : Array Value} (T : Tells tl I B0 X N tf tc) (tb wb jb : Nat) (xt : ¬ X tb) (xw : ¬ X wb) (xj : ¬ X jb) :
    ∀ (n b : Nat) (s : σ) (w : World), 1 ≤ n → b + n ≤ N → B0 ≤ w.heap.size → I s w → w.heap[tb]? = some (.cells #[.func (.func tf) #[] tc] 106) →
      w.heap[wb]? = some (.cells #[.func (.func 117) #[] #[.pointer (some ⟨tb, 0, none⟩), .pointer (some ⟨wb, 0, none⟩), .pointer (some ⟨jb, 0, none⟩)]] 153) → w.heap[jb]? = some (.cells #[.func (.func 46) #[] #[]] 139) →
      Calls Try.prog 117 #[.agg (spanA b (b + n)), .pointer (some ⟨tb, 0, none⟩), .pointer (some ⟨wb, 0, none⟩), .pointer (some ⟨jb, 0, none⟩)] w fun x w' => x = .returned (.agg (ints .u8 (walkT tl n b s).1)) ∧ L32 (walkT tl n b s).1 ∧ I (walkT tl n b s).2 w' ∧ Keep w.heap.size X w w' := by
  intro n
  induction n using Nat.strongRecOn with
  | _ n ih =>
    intro b s w h1 hb hB hI ht hw hj
    have Hz := Lib.hid z32_ints
    have BW := Lib.hid (((Below.refl w.heap.size w).alloc (Nat.le_refl _) (.cells (spanA b (b + n)) 96)).alloc (by simp) (.cells (ints .u8 z32) 28))
    have GS := Lib.hid (heap_alloc2_old w (.cells (spanA b (b + n)) 96) (.cells (ints .u8 z32) 28))
    have GK := Lib.hid (heap_alloc2_new w (.cells (spanA b (b + n)) 96) (.cells (ints .u8 z32) 28))
    obtain ⟨W0, hW0⟩ : ∃ W0, (w.alloc (.cells (spanA b (b + n)) 96)).alloc (.cells (ints .u8 z32) 28) = W0 := ⟨_, rfl⟩
    have HSZ : Hid (W0.heap.size = w.heap.size + 1 + 1) := Lib.hid (by rw [← hW0]; simp)
    rw [hW0] at BW GS GK
    have T0 := Lib.hid (keep_block ht BW.out)
    have V0 := Lib.hid (keep_block hw BW.out)
    have J0 := Lib.hid (keep_block hj BW.out)
    have HIW := Lib.hid (T.keep _ _ _ hI (BW.out.mono hB))
    have Htell := Lib.hid (T.call b n s W0 h1 hb (by have := HSZ.out; omega) HIW.out)
    have Hgood := Lib.hid (T.good b n s W0 h1 hb HIW.out)
    have LW : Hid (∀ k, X k → k < w.heap.size) := Lib.hid (fun k hk => by have := T.low k hk; omega)
    have ct := cell_of_one T0.out
    have HH1 := Lib.hid h1
    have HHb := Lib.hid hb
    have HHB := Lib.hid hB
    clear ht hw hj hI h1 hb hB
    rw [Hz.out] at hW0
    cases hk : (tl b n s).2.1 with
    | true =>
      have e := walkT_yes hk
      rw [e]
      rw [hk] at Htell
      have HK := Lib.hid hk
      clear hk e ih
      generalize (tl b n s).1 = key at Htell Hgood ⊢
      generalize (tl b n s).2.2 = s1 at Htell ⊢
      go_enter Try.func117, Try.ntmps117
      go_wp2_with (refine wpList_load_row rfl 96 _ rfl w.heap.size rfl 96 (spanA b (b + n)) (0, 0) _ GS.out Try.underlying96 rfl sizeSpan ?_)
      clear hW0 ct
      rw [T.enters]
      simp only [Oper.upon_enter]
      refine Htell.out.mono ?_
      rintro x w1 ⟨rfl, hI1, hk1⟩
      have HI1 := Lib.hid hI1
      have K1 := Lib.hid ((Keep.of X (BW.out.mono (Nat.le_refl _))).trans (hk1.mono BW.out.size))
      have G1 := Lib.hid (hk1.hold (fun hx => by have := LW.out _ hx; omega) GK.out)
      clear hI1 hk1
      have HK2 := Lib.hid (laid_below w1 (ints .u8 z32) (ints .u8 key) 28)
      have N2 := Lib.hid (laid_new w1 (ints .u8 z32) (ints .u8 key) 28)
      have G2 := Lib.hid (laid_old (ints .u8 z32) (ints .u8 key) 28 G1.out)
      go_wp2_with (first | (refine wpList_store_row rfl 28 (.tmp 6) _ rfl w1.heap.size (ints .u8 key) rfl rfl 28 (ints .u8 z32) (by rw [Hz.out]; exact heap_alloc_last _ _) (by rw [ints_size, Hgood.out.1]; exact sizeKey) (by rw [ints_size, ints_size, Hgood.out.1]; rfl) (ints_one _ _) ?_) | (refine wpList_load_row rfl 28 (.tmp 6) rfl w1.heap.size rfl 28 (ints .u8 key) (0, 0) _ (by rw [← Hz.out]; exact N2.out) Try.underlying28 rfl (by rw [ints_size, Hgood.out.1]; exact sizeKey) ?_) | (refine wpList_store_row rfl 28 (.tmp 5) _ rfl (w.heap.size + 1) (ints .u8 key) rfl rfl 28 (ints .u8 z32) (by rw [← Hz.out]; exact G2.out) (by rw [ints_size, Hgood.out.1]; exact sizeKey) (by rw [ints_size, ints_size, Hgood.out.1]; rfl) (ints_one _ _) ?_))
      refine bodyPost_ret (results_cell_row rfl _ _ (w.heap.size + 1) 28 (ints .u8 key) (0, 0) _ rfl (setRow_heap _ _ (ints .u8 z32) _ _ _ (by rw [← Hz.out]; exact G2.out)) Try.underlying28 rfl (by rw [ints_size, Hgood.out.1]; exact sizeKey)) rfl ⟨rfl, Hgood.out, ?_⟩
      rw [← Hz.out]
      have E := Below.setRow (g := w.heap.size + 1) (Below.mono (B' := w.heap.size) HK2.out (by have := K1.out.size; omega)) (by omega) (ints .u8 key)
      exact ⟨T.keep _ _ _ HI1.out (E.mono HHB.out), K1.out.trans (Keep.of X E)⟩
    | false =>
      have h2 : 1 < n := by
        rcases Nat.lt_or_ge 1 n with h | h
        · exact h
        · have e1 : n = 1 := by have := HH1.out; omega
          subst e1
          rw [T.one] at hk
          cases hk
      have e := walkT_no hk h2
      rw [e]
      dsimp only
      rw [hk] at Htell
      have HK := Lib.hid hk
      have hm1 := half_pos n
      have hm2 := half_lt (n := n) (by omega)
      have hsm := T.small
      have Hparts := Lib.hid (fun W => parts_impl b (b + n) (by have := HHb.out; omega) (by omega) W)
      rw [show b + n - b = n by omega] at Hparts
      have HR := Lib.hid (fun W hW h1 h3 h4 h5 => ih (n - half n) (by omega) (b + half n) (tl b n s).2.2 W (by omega) (by have := HHb.out; omega) hW h1 h3 h4 h5)
      rw [show b + half n + (n - half n) = b + n by omega] at HR
      have HL := Lib.hid (fun W hW h1 h3 h4 h5 => ih (half n) (by omega) b (walkT tl (n - half n) (b + half n) (tl b n s).2.2).2 W (by omega) (by have := HHb.out; omega) hW h1 h3 h4 h5)
      have HO0 : Hid (Own X tb wb jb tf tc w W0) := Lib.hid ⟨Keep.of X BW.out, by have := HSZ.out; omega, GK.out, T0.out, V0.out, J0.out⟩
      have bb : (0 : Int) ≤ (b : Int) := by omega
      clear hk e ih T0 V0 J0 GK hsm
      generalize (tl b n s).1 = key at Htell Hgood
      generalize (tl b n s).2.2 = s1 at Htell HR HL ⊢
      generalize hr : walkT tl (n - half n) (b + half n) s1 = r at HR HL ⊢
      generalize hl : walkT tl (half n) b r.2 = l at HL ⊢
      generalize half n = m at hm1 hm2 Hparts HR HL
      clear hr hl
      generalize hV : nodeK l.1 r.1 = V
      have HV := Lib.hid hV
      clear hV
      go_enter Try.func117, Try.ntmps117
      go_wp2_with (refine wpList_load_row rfl 96 _ rfl w.heap.size rfl 96 (spanA b (b + n)) (0, 0) _ GS.out Try.underlying96 rfl sizeSpan ?_)
      clear hW0 ct
      rw [T.enters]
      simp only [Oper.upon_enter]
      refine Htell.out.mono ?_
      rintro x w1 ⟨rfl, hI1, hk1⟩
      have HI1 := Lib.hid hI1
      have O1 := Lib.hid (HO0.out.step xt xw xj LW.out hk1)
      have S1 := Lib.hid (hk1.hold (fun hx => by have := LW.out _ hx; omega) GS.out)
      clear hI1 hk1 HO0 GS BW HSZ HIW
      have L2 := Lib.hid (laid_below w1 (ints .u8 z32) (ints .u8 key) 28)
      have O2 := Lib.hid (O1.out.step xt xw xj LW.out (Keep.of X L2.out))
      have S2 := Lib.hid (laid_old (ints .u8 z32) (ints .u8 key) 28 S1.out)
      have HI2 := Lib.hid (T.keep _ _ _ HI1.out (Below.mono (B' := B0) L2.out (by have := O1.out.size; have := HHB.out; omega)))
      go_wp2_with (first | (refine wpList_store_row rfl 28 (.tmp 6) _ rfl w1.heap.size (ints .u8 key) rfl rfl 28 (ints .u8 z32) (by rw [Hz.out]; exact heap_alloc_last _ _) (by rw [ints_size, Hgood.out.1]; exact sizeKey) (by rw [ints_size, ints_size, Hgood.out.1]; rfl) (ints_one _ _) ?_) | (refine wpList_load_row rfl 96 (.tmp 4) rfl w.heap.size rfl 96 (spanA b (b + n)) (0, 0) _ (by rw [← Hz.out]; exact S2.out) Try.underlying96 rfl sizeSpan ?_))
      rw [← Hz.out]
      generalize (w1.alloc (.cells (ints .u8 z32) 28)).setRow w1.heap.size (ints .u8 key) = W2 at L2 O2 S2 HI2 ⊢
      refine (Hparts.out _).mono ?_
      rintro x w3 ⟨rfl, hb⟩
      have O3 := Lib.hid (O2.out.step xt xw xj LW.out (Keep.of X hb))
      have HI3 := Lib.hid (T.keep _ _ _ HI2.out (Below.mono (B' := B0) hb (by have := O2.out.size; have := HHB.out; omega)))
      clear hb S2 S1 O2 O1 HI1 HI2 L2
      have L4 := Lib.hid (laid2_below w3 #[.int .i64 0, .int .i64 0] (spanA b (b + m)) (spanA (b + m) (b + n)) 96)
      have F4 := Lib.hid (laid2_fst w3 #[.int .i64 0, .int .i64 0] (spanA b (b + m)) (spanA (b + m) (b + n)) 96)
      have N4 := Lib.hid (laid2_snd w3 #[.int .i64 0, .int .i64 0] (spanA b (b + m)) (spanA (b + m) (b + n)) 96)
      have O4 := Lib.hid (O3.out.step xt xw xj LW.out (Keep.of X L4.out))
      have HI4 := Lib.hid (T.keep _ _ _ HI3.out (Below.mono (B' := B0) L4.out (by have := O3.out.size; have := HHB.out; omega)))
      have cw := cell_of_one O4.out.walk
      go_wp2_with (first | (refine wpList_store_row rfl 96 (.tmp 8) _ rfl w3.heap.size (spanA b (b + m)) rfl rfl 96 #[.int .i64 0, .int .i64 0] (heap_alloc2_old _ _ _) sizeSpan rfl (spanA_one _ _) ?_) | (refine wpList_store_row rfl 96 (.tmp 9) _ rfl (w3.heap.size + 1) (spanA (b + m) (b + n)) rfl rfl 96 #[.int .i64 0, .int .i64 0] ((setRow_other _ _ _ _ (by omega)).trans (heap_alloc2_new _ _ _)) sizeSpan rfl (spanA_one _ _) ?_) | (refine wpList_load_row rfl 96 (.tmp 9) rfl (w3.heap.size + 1) rfl 96 (spanA (b + m) (b + n)) (0, 0) _ N4.out Try.underlying96 rfl sizeSpan ?_))
      clear cw
      generalize ((((w3.alloc (.cells #[.int .i64 0, .int .i64 0] 96)).alloc (.cells #[.int .i64 0, .int .i64 0] 96)).setRow w3.heap.size (spanA b (b + m))).setRow (w3.heap.size + 1) (spanA (b + m) (b + n))) = W4 at L4 F4 N4 O4 HI4 ⊢
      refine (HR.out W4 (by have := O4.out.size; have := HHB.out; omega) HI4.out O4.out.tell O4.out.walk O4.out.join).mono ?_
      rintro x w5 ⟨rfl, hg5, hI5, hk5⟩
      have HG5 := Lib.hid hg5
      have O5 := Lib.hid (O4.out.step xt xw xj LW.out hk5)
      have F5 := Lib.hid (hk5.hold (fun hx => by have := LW.out _ hx; have := O3.out.size; omega) F4.out)
      have L6 := Lib.hid (laid_below w5 (ints .u8 z32) (ints .u8 r.1) 28)
      have R6 := Lib.hid (laid_new w5 (ints .u8 z32) (ints .u8 r.1) 28)
      have F6 := Lib.hid (laid_old (ints .u8 z32) (ints .u8 r.1) 28 F5.out)
      have O6 := Lib.hid (O5.out.step xt xw xj LW.out (Keep.of X L6.out))
      have HI6 := Lib.hid (T.keep _ _ _ hI5 (Below.mono (B' := B0) L6.out (by have := O5.out.size; have := HHB.out; omega)))
      clear hg5 hI5 hk5 F4 N4 L4 F5 HI4
      have cw := cell_of_one O6.out.walk
      rw [Hz.out] at cw
      go_wp2_with (first | (refine wpList_store_row rfl 28 (.tmp 10) _ rfl w5.heap.size (ints .u8 r.1) rfl rfl 28 (ints .u8 z32) (by rw [Hz.out]; exact heap_alloc_last _ _) (by rw [ints_size, HG5.out.1]; exact sizeKey) (by rw [ints_size, ints_size, HG5.out.1]; rfl) (ints_one _ _) ?_) | (refine wpList_load_row rfl 96 (.tmp 8) rfl w3.heap.size rfl 96 (spanA b (b + m)) (0, 0) _ (by rw [← Hz.out]; exact F6.out) Try.underlying96 rfl sizeSpan ?_))
      clear cw
      rw [← Hz.out]
      generalize ((w5.alloc (.cells (ints .u8 z32) 28)).setRow w5.heap.size (ints .u8 r.1)) = W6 at L6 R6 F6 O6 HI6 ⊢
      refine (HL.out W6 (by have := O6.out.size; have := HHB.out; omega) HI6.out O6.out.tell O6.out.walk O6.out.join).mono ?_
      rintro x w7 ⟨rfl, hg7, hI7, hk7⟩
      have HG7 := Lib.hid hg7
      have O7 := Lib.hid (O6.out.step xt xw xj LW.out hk7)
      have R7 := Lib.hid (hk7.hold (fun hx => by have := LW.out _ hx; have := O5.out.size; omega) R6.out)
      have L8 := Lib.hid (laid_below w7 (ints .u8 z32) (ints .u8 l.1) 28)
      have R8 := Lib.hid (laid_old (ints .u8 z32) (ints .u8 l.1) 28 R7.out)
      have M8 := Lib.hid (laid_new w7 (ints .u8 z32) (ints .u8 l.1) 28)
      have O8 := Lib.hid (O7.out.step xt xw xj LW.out (Keep.of X L8.out))
      have HI8 := Lib.hid (T.keep _ _ _ hI7 (Below.mono (B' := B0) L8.out (by have := O7.out.size; have := HHB.out; omega)))
      have Hnode := Lib.hid (fun W => node_impl l.1 r.1 HG7.out.1 HG7.out.2 HG5.out.1 HG5.out.2 W)
      have Hvl := Lib.hid (nodeK_len l.1 r.1)
      have Hvr := Lib.hid (nodeK_range l.1 r.1)
      rw [HV.out] at Hnode Hvl Hvr
      clear hg7 hI7 hk7 R6 F6 L6 R7 HI6
      have cj := cell_of_one O8.out.join
      rw [Hz.out] at cj
      go_wp2_with (first | (refine wpList_store_row rfl 28 (.tmp 11) _ rfl w7.heap.size (ints .u8 l.1) rfl rfl 28 (ints .u8 z32) (by rw [Hz.out]; exact heap_alloc_last _ _) (by rw [ints_size, HG7.out.1]; exact sizeKey) (by rw [ints_size, ints_size, HG7.out.1]; rfl) (ints_one _ _) ?_) | (refine wpList_load_row rfl 28 (.tmp 11) rfl w7.heap.size rfl 28 (ints .u8 l.1) (0, 0) _ (by rw [← Hz.out]; exact M8.out) Try.underlying28 rfl (by rw [ints_size, HG7.out.1]; exact sizeKey) ?_) | (refine wpList_load_row rfl 28 (.tmp 10) rfl w5.heap.size rfl 28 (ints .u8 r.1) (0, 0) _ (by rw [← Hz.out]; exact R8.out) Try.underlying28 rfl (by rw [ints_size, HG5.out.1]; exact sizeKey) ?_))
      clear cj
      rw [← Hz.out]
      generalize ((w7.alloc (.cells (ints .u8 z32) 28)).setRow w7.heap.size (ints .u8 l.1)) = W8 at L8 R8 M8 O8 HI8 ⊢
      refine (Hnode.out _).mono ?_
      rintro x w9 ⟨rfl, hb9⟩
      have O9 := Lib.hid (O8.out.step xt xw xj LW.out (Keep.of X hb9))
      have HI9 := Lib.hid (T.keep _ _ _ HI8.out (Below.mono (B' := B0) hb9 (by have := O8.out.size; have := HHB.out; omega)))
      clear hb9
      go_wp2_with (refine wpList_store_row rfl 28 (.tmp 5) _ rfl (w.heap.size + 1) (ints .u8 V) rfl rfl 28 (ints .u8 z32) O9.out.res (by rw [ints_size, Hvl.out]; exact sizeKey) (by rw [ints_size, ints_size, Hvl.out]; rfl) (ints_one _ _) ?_)
      refine bodyPost_ret (results_cell_row rfl _ _ (w.heap.size + 1) 28 (ints .u8 V) (0, 0) _ rfl (setRow_heap _ _ (ints .u8 z32) _ _ _ O9.out.res) Try.underlying28 rfl (by rw [ints_size, Hvl.out]; exact sizeKey)) rfl ⟨rfl, ⟨Hvl.out, Hvr.out⟩, ?_⟩
      have E := Below.setRow (g := w.heap.size + 1) (Below.refl w.heap.size w9) (by omega) (ints .u8 V)
      exact ⟨T.keep _ _ _ HI9.out (E.mono HHB.out), O9.out.keep.trans (Keep.of X E)⟩
end Go.Proofs.Ytjijgckljjcfiaa
