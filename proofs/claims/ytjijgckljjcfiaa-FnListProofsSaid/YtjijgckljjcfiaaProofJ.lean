/- The proof of a leaf, by the program. Written by wip/gen/proofj.py. -/
import Derived.Test.YtjijgckljjcfiaaProofI
import Derived.Test.YtjijgckljjcfiaaPeakI
namespace Go.Proofs.Ytjijgckljjcfiaa
open Go.ChangeShapes Go.WideShapes Go.ChangeAt Go.RowKit
set_option linter.unusedVariables false
set_option linter.unusedSimpArgs false
/-- The cells of what has been popped. -/
def curC : Option (Bool × Nat × Nat) → Array Value
  | none => #[.bool false, .int .i64 0, .int .i64 0]
  | some t => #[.bool t.1, .int .i64 (t.2.1 : Int), .int .i64 (t.2.2 : Int)]
theorem curC_size (t : Option (Bool × Nat × Nat)) : (curC t).size = 3 := by cases t <;> rfl
theorem curC_one (t : Option (Bool × Nat × Nat)) : (curC t).all (·.oneCell') = true := by cases t <;> simp [curC, Value.oneCell']
theorem last_split {α : Type} (l : List α) : l.dropLast ++ l.getLast?.toList = l := by
  rcases List.eq_nil_or_concat l with rfl | ⟨m, a, rfl⟩
  · rfl
  · simp
theorem pop_turns (g base : Nat) (v : Value) (rest : List (Bool × Nat × Nat)) (hk : rest.length ≤ 1048576) (w : World) (hg : w.heap[g]? = some (.cells #[v] 86)) (ho : w.ownsRow base 141 3 v rest.length (tcl rest)) :
    Calls Try.prog 109 #[.pointer (some ⟨g, 0, none⟩)] w fun e w' => e = .returned (.tuple #[.agg (curC rest.getLast?), .bool rest.getLast?.isSome]) ∧ ∃ v', w'.heap[g]? = some (.cells #[v'] 86) ∧ w'.ownsRow base 141 3 v' rest.dropLast.length (tcl rest.dropLast) ∧ v'.ownBlock = v.ownBlock ∧ Keep w.heap.size (· = g) w w' := by
  rcases List.eq_nil_or_concat rest with rfl | ⟨l, t, rfl⟩
  · exact (popT0 g base v w hg ho).mono fun e w' ⟨he, hb⟩ => ⟨he, v, keep_block hg hb, owns_below ho hb, rfl, Keep.of _ hb⟩
  · have hl : (l ++ [t]).length = l.length + 1 := by simp
    rw [List.concat_eq_append] at *
    rw [hl, tcl_snoc] at ho
    have h := popT g base l.length v (tcl l) t.1 t.2.1 t.2.2 (by rw [hl] at hk; omega) w hg ho
    refine h.mono fun e w' ⟨he, v', h1, h2, h3, h4⟩ => ⟨?_, v', h1, ?_, h3, h4⟩
    · rw [he]
      simp [curC]
    · simpa using h2
/-- The key of the other part of a turn, and those of the proof that turns make, from the lowest one up. -/
def tky (fl : List Int) (t : Bool × Nat × Nat) : List Int := tkey (keyAt fl) t.2.1 (t.2.2 - t.2.1)
def pky (fl : List Int) (l : List (Bool × Nat × Nat)) : List Int := l.reverse.flatMap (tky fl)
theorem pky_cons (fl : List Int) (t : Bool × Nat × Nat) (l : List (Bool × Nat × Nat)) : pky fl (t :: l) = pky fl l ++ tky fl t := by simp [pky]
theorem prf_tns (fl : List Int) : ∀ n b i, b ≤ i → prf (keyAt fl) b n (i - b) = pky fl (tns b n i) := by
  intro n
  induction n using Nat.strongRecOn with
  | _ n ih =>
    intro b i hb
    by_cases h : n ≤ 1
    · rw [prf_one h, tns_one h]; rfl
    · have h1 := half_pos n
      have h2 := half_lt (n := n) (by omega)
      by_cases h3 : i < b + half n
      · rw [prf_left (by omega) (by omega), tns_left (by omega) h3, pky_cons, ih _ h2 b i hb]
        unfold tky
        rw [show b + n - (b + half n) = n - half n by omega]
      · rw [prf_right (by omega) (by omega), tns_right (by omega) h3, pky_cons, show i - b - half n = i - (b + half n) by omega, ih _ (by omega) (b + half n) i (by omega)]
        unfold tky
        rw [show b + half n - b = half n by omega]
theorem tns_mem : ∀ n b i, ∀ t ∈ tns b n i, t.2.1 < t.2.2 ∧ b ≤ t.2.1 ∧ t.2.2 ≤ b + n := by
  intro n
  induction n using Nat.strongRecOn with
  | _ n ih =>
    intro b i t ht
    by_cases h : n ≤ 1
    · rw [tns_one h] at ht; cases ht
    · have h1 := half_pos n
      have h2 := half_lt (n := n) (by omega)
      by_cases h3 : i < b + half n
      · rw [tns_left (by omega) h3] at ht
        rcases List.mem_cons.1 ht with rfl | ht
        · exact ⟨by simp; omega, by simp, by simp⟩
        · have := ih _ h2 b i t ht
          omega
      · rw [tns_right (by omega) h3] at ht
        rcases List.mem_cons.1 ht with rfl | ht
        · exact ⟨by simp; omega, by simp, by simp; omega⟩
        · have := ih _ (by omega) (b + half n) i t ht
          omega
set_option maxRecDepth 100000 in
set_option maxHeartbeats 2000000 in
theorem span_impl (blk off n cap b e : Nat) (fl : List Int) (hb : b < e) (he : e ≤ n) (hn : n ≤ 1048576) (hc : n ≤ cap) (hm : cap ≤ maxLen) (fb : ∀ z ∈ fl, 0 ≤ z ∧ z ≤ 255) (w : World) (hr : RdK w (some ⟨blk, off, none⟩) n fl) :
    Calls Try.prog 72 #[.slice (some ⟨blk, off, none⟩) n cap, .agg (spanA b e), .func (.func 46) #[] #[]] w fun x w' => x = .returned (.agg (ints .u8 (tkey (keyAt fl) b (e - b)))) ∧ Below w.heap.size w w' := by
  have Hz := Lib.hid z32_ints
  have BW := Lib.hid (((Below.refl w.heap.size w).alloc (Nat.le_refl _) (.cells (spanA b e) 96)).alloc (by simp) (.cells (ints .u8 z32) 28))
  have GS := Lib.hid (heap_alloc2_old w (.cells (spanA b e) 96) (.cells (ints .u8 z32) 28))
  have GK := Lib.hid (heap_alloc2_new w (.cells (spanA b e) 96) (.cells (ints .u8 z32) 28))
  obtain ⟨W0, hW0⟩ : ∃ W0, (w.alloc (.cells (spanA b e) 96)).alloc (.cells (ints .u8 z32) 28) = W0 := ⟨_, rfl⟩
  rw [hW0] at BW GS GK
  have Hp := Lib.hid (part_impl blk off n (cap - b) b (e - b) fl (by omega) (by omega) hn fb W0 (hr.below BW.out))
  have Hvl := Lib.hid (tkey_len (kf := keyAt fl) (b := b) (n := e - b) (by omega) (fun j hj => keyAt_len hr.1 (by omega)))
  have cs0 : W0.cell? ⟨w.heap.size, 0, none⟩ = some (.int .i64 (b : Int)) := (cell_of_row W0 w.heap.size 0 _ _ _ GS.out).trans rfl
  have cs1 : W0.cell? ⟨w.heap.size, 1, none⟩ = some (.int .i64 (e : Int)) := (cell_of_row W0 w.heap.size 1 _ _ _ GS.out).trans rfl
  clear hr fb
  generalize tkey (keyAt fl) b (e - b) = V at Hp Hvl ⊢
  have d1 : (b : Int) < (e : Int) := by omega
  have d2 : (e : Int) ≤ (cap : Int) := by omega
  have d3 : (0 : Int) ≤ (b : Int) := by omega
  have d4 : ¬ cap = b := by omega
  have d5 : ¬ e < b := by omega
  have d6 : (e : Int) ≤ 1048576 := by omega
  have d7 : b ≤ e := by omega
  have d8 : e ≤ cap := by omega
  rw [Hz.out] at hW0
  unfold spanA at hW0 ⊢
  go_enter Try.func72, Try.ntmps72
  go_wp2_with fail
  clear hW0 cs0 cs1
  refine Hp.out.mono ?_
  rintro x w1 ⟨rfl, hb1⟩
  have G1 := Lib.hid (keep_block GK.out hb1)
  have B1 := Lib.hid (below_call BW.out BW.out.size hb1)
  clear hb1
  go_wp2_with (refine wpList_store_row rfl 28 _ _ rfl (w.heap.size + 1) (ints .u8 V) rfl rfl 28 (ints .u8 z32) G1.out (by rw [ints_size, Hvl.out]; exact sizeKey) (by rw [ints_size, ints_size, Hvl.out]; rfl) (ints_one _ _) ?_)
  refine bodyPost_ret (results_cell_row rfl _ _ (w.heap.size + 1) 28 (ints .u8 V) (0, 0) _ rfl (setRow_heap _ _ (ints .u8 z32) _ _ _ G1.out) Try.underlying28 rfl (by rw [ints_size, Hvl.out]; exact sizeKey)) rfl ⟨rfl, ?_⟩
  exact Below.setRow B1.out (by omega) _
theorem owns_keep2 {g base e n size : Nat} {w w' : World} {v : Value} {xs : List Value} (hb : v.ownBlock ≠ some g) (o : w.ownsRow base e size v n xs) (k : Keep w.heap.size (· = g) w w') : w'.ownsRow base e size v n xs := by
  refine ⟨o.1, ?_⟩
  rcases o.2 with h0 | ⟨c, cap, cur, hv, hc, hh, r⟩
  · exact Or.inl h0
  · exact Or.inr ⟨c, cap, cur, hv, hc, k.hold (g := c) (fun h => hb (by have h' : c = g := h; rw [hv]; simp [Value.ownBlock]; exact h')) hh, r⟩
theorem owns_apart {w : World} {base base2 size size2 k k2 : Nat} {T U : TypeId} {v u : Value} {xs ys : List Value} (h : w.ownsRow base T size v k xs) (h2 : w.ownsRow base2 U size2 u k2 ys) (hT : U ≠ T) : v.ownBlock = none ∨ v.ownBlock ≠ u.ownBlock := by
  rcases h.2 with ⟨h0, _⟩ | ⟨b, cap, cur, hv, _, hh, _⟩
  · exact Or.inl (by rw [h0]; rfl)
  · refine Or.inr (fun e => owns_ne h2 hh hT ?_)
    rw [← e, hv]
    rfl
theorem stkN_of {w : World} {g base size k : Nat} {T ST : TypeId} {fr : Nat × Nat} {v : Value} {xs : List Value} (hg : w.heap[g]? = some (.cells #[v] ST fr)) (ho : w.ownsRow base T size v k xs) : stkN w g = k := by
  obtain ⟨a, c, rfl⟩ := owns_slc ho
  unfold stkN
  rw [hg]
  rfl
theorem range2 {w : World} {b o : Nat} {x y : Value} (h0 : w.cell? ⟨b, o + 0, none⟩ = some x) (h1 : w.cell? ⟨b, o + 1, none⟩ = some y) : w.rangeAt b o [x, y] := by
  intro j u hu
  match j, hu with
  | 0, hu => cases hu; exact h0
  | 1, hu => cases hu; exact h1
set_option maxRecDepth 100000 in
set_option maxHeartbeats 8000000 in
theorem proof_impl (blk off n cap i : Nat) (fl : List Int) (hi : i < n) (hn : n ≤ 1048575) (hc : n ≤ cap) (hm : cap ≤ maxLen) (fb : ∀ z ∈ fl, 0 ≤ z ∧ z ≤ 255) (w : World) (hr : RdK w (some ⟨blk, off, none⟩) n fl) :
    Calls Try.prog 63 #[.slice (some ⟨blk, off, none⟩) n cap, .int .i64 (i : Int), .func (.func 46) #[] #[]] w fun e w' => ∃ v, e = .returned v ∧ w'.ownsRow w.heap.size 28 32 v (tns 0 n i).length ((pky fl (tns 0 n i)).map (Value.int .u8)) ∧ Below w.heap.size w w' := by
  obtain ⟨i0, z0, hi0, hz0, hz1, hz2, hzs, hzc⟩ := keyParts
  have Hi := Lib.hid hi0
  clear hi0 hzc
  have Ht := Lib.hid (fun W => turns_impl n i hi (by omega) W)
  have HMEM := Lib.hid (tns_mem n 0 i)
  have HLEN := Lib.hid (tns_len n 0 i)
  have HR := Lib.hid hr
  have HFB := Lib.hid fb
  have HLN := Lib.hid hr.1
  clear hr fb
  generalize tns 0 n i = L at Ht HMEM HLEN ⊢
  go_enter Try.func63, Try.ntmps63
  go_wp2_with fail
  refine (Ht.out _).mono ?_
  rintro e w1 ⟨g, v1, rfl, hg, ho, hg1, hg2, hb⟩
  have B1 := Lib.hid hb
  have HG1 := Lib.hid hg1
  have HO1 := Lib.hid ho
  clear hb
  have HP1 := Lib.hid (pop_turns g w.heap.size v1 L (by have := HLEN.out; omega) w1 hg ho)
  clear hg ho hg1 hg2
  go_wp2_with fail
  refine HP1.out.mono ?_
  rintro e w2 ⟨rfl, v2, hg2, ho2, hv2, hk2⟩
  have G2 := Lib.hid hg2
  have O2 := Lib.hid ho2
  have B2 := Lib.hid (B1.out.trans (hk2.below B1.out.size (fun k e => by have h : k = g := e; have := HG1.out; omega)))
  clear hg2 ho2 hk2 hv2 HP1 HO1
  have HCS := Lib.hid (curC_size L.getLast?)
  have HCO := Lib.hid (curC_one L.getLast?)
  have HSP := Lib.hid (last_split L)
  have HNN : Hid (L.getLast? = none → L.dropLast = []) := Lib.hid (fun h => by rw [List.getLast?_eq_none_iff.1 h]; rfl)
  have L3 := laid_below w2 #[.bool false, .int .i64 0, .int .i64 0] (curC L.getLast?) 141
  have B3 := Lib.hid (below_call B2.out B2.out.size L3)
  have G3 := Lib.hid (keep_block G2.out L3)
  have O3 := Lib.hid (owns_below O2.out L3)
  have M3 := Lib.hid (laid_new w2 #[.bool false, .int .i64 0, .int .i64 0] (curC L.getLast?) 141)
  have HV3 : Hid (∀ q, v2.ownBlock = some q → q < w2.heap.size) := Lib.hid (fun q h => (O2.out.lt q h).2)
  have HGP : Hid (g < w2.heap.size) := Lib.hid (Array.getElem?_eq_some_iff.1 G2.out).1
  clear L3
  generalize hcur : L.getLast? = cur at HCS HCO HSP HNN B3 G3 O3 M3 ⊢
  generalize hrest : L.dropLast = rest at HSP HNN O3 O2 ⊢
  clear hcur hrest O2
  generalize hC : curC cur = C at HCS HCO B3 G3 O3 M3 ⊢
  have HC := Lib.hid hC
  clear hC
  go_wp2_with (refine wpList_store_row rfl 141 (.tmp 9) _ rfl w2.heap.size C rfl rfl 141 #[.bool false, .int .i64 0, .int .i64 0] (heap_alloc_last _ _) (by rw [HCS.out]; exact sizeTurn) (by rw [HCS.out]; rfl) HCO.out ?_)
  generalize (w2.alloc (.cells #[.bool false, .int .i64 0, .int .i64 0] 141)).setRow w2.heap.size C = W3 at B3 G3 O3 M3 ⊢
  generalize w2.heap.size = p0 at M3 HV3 HGP ⊢
  go_loopw [7, 9, 10] (fun ov pv mv wr => ∃ (rest dn : List (Bool × Nat × Nat)) (cur : Option (Bool × Nat × Nat)) (p : Nat) (v : Value), L = rest ++ cur.toList ++ dn ∧ (cur = none → rest = []) ∧ pv = .pointer (some ⟨p, 0, none⟩) ∧ mv = .bool cur.isSome ∧ wr.heap[p]? = some (.cells (curC cur) 141) ∧ wr.heap[g]? = some (.cells #[v] 86) ∧ wr.ownsRow w.heap.size 141 3 v rest.length (tcl rest) ∧ (∀ q, v.ownBlock = some q → q < p) ∧ g < p ∧ (∃ a c, ov = .slice a dn.length c) ∧ wr.ownsRow w.heap.size 28 32 ov dn.length ((pky fl dn).map (Value.int .u8)) ∧ Below w.heap.size w wr) (fun _ _ mv wr => stkN wr g + boolN mv)
  case atStart => exact ⟨rest, [], cur, p0, v2, by rw [List.append_nil]; exact HSP.out.symm, HNN.out, rfl, rfl, by rw [HC.out]; exact M3.out, G3.out, O3.out, HV3.out, HGP.out, ⟨_, _, rfl⟩, World.ownsRow_nil _ _ _ _, B3.out⟩
  case round =>
    clear B3 G3 O3 M3 HSP HNN HCS HCO HC HV3 HGP B2 G2
    obtain ⟨rest, dn, cur, p, v, hL, hnn, rfl, rfl, hM, hG, hO, hV, hgp, ⟨a', c', rfl⟩, hout, hB⟩ := hrel
    have HL := Lib.hid hL
    have HM := Lib.hid hM
    have HG := Lib.hid hG
    have HO := Lib.hid hO
    have HV := Lib.hid hV
    have HGP := Lib.hid hgp
    have HOUT := Lib.hid hout
    have HB := Lib.hid hB
    have HWG : Hid (w.heap.size ≤ g) := HG1
    clear hM hG hO hV hgp hout hB hL
    cases cur with
    | some t =>
      obtain ⟨r, b0, e0⟩ := t
      have hmem := HMEM.out (r, b0, e0) (by rw [HL.out]; simp)
      have hlen : rest.length + 1 + dn.length ≤ n := by
        have h1 := congrArg List.length HL.out
        have h2 := HLEN.out
        simp at h1
        omega
      have HLN2 := Lib.hid hlen
      have Hk := Lib.hid (fun (W : World) (h : Below w.heap.size w W) => span_impl blk off n cap b0 e0 fl hmem.1 (by have := hmem.2.2; simp at this; exact this) (by omega) hc hm HFB.out W (HR.out.below h))
      have Hvl := Lib.hid (tkey_len (kf := keyAt fl) (b := b0) (n := e0 - b0) (by have := hmem.1; simp at this; omega) (fun j hj => keyAt_len HLN.out (by have := hmem.1; have := hmem.2.2; simp at *; omega)))
      have HPK := Lib.hid (show pky fl ((r, b0, e0) :: dn) = pky fl dn ++ tkey (keyAt fl) b0 (e0 - b0) from pky_cons fl _ _)
      clear hmem hlen
      generalize tkey (keyAt fl) b0 (e0 - b0) = K at Hk Hvl HPK
      have hr2 : wr.rangeAt p 1 [.int .i64 (b0 : Int), .int .i64 (e0 : Int)] := range2 ((cell_of_row wr p 1 _ _ _ HM.out).trans rfl) ((cell_of_row wr p 2 _ _ _ HM.out).trans rfl)
      go_wp2_with (refine wpList_load_mid rfl 96 (.tmp 28) rfl p 1 rfl [.int .i64 (b0 : Int), .int .i64 (e0 : Int)] _ hr2 Try.underlying96 rfl sizeSpan ?_)
      clear hr2
      refine (Hk.out _ HB.out).mono ?_
      rintro e w3 ⟨rfl, hb⟩
      have B3 := Lib.hid (below_call HB.out HB.out.size hb)
      have M3 := Lib.hid (keep_block HM.out hb)
      have G3 := Lib.hid (keep_block HG.out hb)
      have O3 := Lib.hid (owns_below HO.out hb)
      have T3 := Lib.hid (owns_below HOUT.out hb)
      clear hb
      have HP3 : Hid (p < w3.heap.size) := Lib.hid (Array.getElem?_eq_some_iff.1 M3.out).1
      have LI := (Below.refl w3.heap.size w3).alloc (Nat.le_refl _) (.cells (ints .u8 K) 28)
      have BI := Lib.hid (below_call B3.out B3.out.size LI)
      have MI := Lib.hid (keep_block M3.out LI)
      have GI := Lib.hid (keep_block G3.out LI)
      have OI := Lib.hid (owns_below O3.out LI)
      have TI := Lib.hid (owns_below T3.out LI)
      clear LI
      go_wp2_with (first | (refine wpList_buildSlice_one rfl 24 28 _ rfl Try.underlying24 Hi.out hz0 (ints .u8 K) rfl (by rw [ints_size, Hvl.out, hz1]) (by rw [hz1]; decide) (by rw [hz1]; decide) ?_) | (at_builtin; refine wpList_append_own _ rfl _ _ 24 rfl w.heap.size 28 i0 z0 32 32 Try.underlying24 Hi.out hz0 hz1 hz2 hzs (by decide) _ dn.length _ rfl TI.out ⟨w3.heap.size, 0, none⟩ 1 1 (K.map (Value.int .u8)) rfl (by rw [List.length_map, Hvl.out]) ?c1 ?c2 ?c3 ?c4 ?c5 ?_))
      case c1 =>
        intro q u hu
        rw [addr_add]
        have hg := heap_alloc_last w3 (.cells (ints .u8 K) 28)
        rw [Nat.zero_add, cell_of_row _ w3.heap.size q _ _ _ hg, ← hu]
        simp [ints]
      case c2 =>
        intro u hu
        obtain ⟨z, _, rfl⟩ := List.mem_map.1 hu
        rfl
      case c3 => have := HLN2.out; unfold maxLen; omega
      case c4 => have := HLN2.out; omega
      case c5 => have := B3.out.size; simp; omega
      intro v4 w4 hown4 hgrow4 hnil4
      have B4 := Lib.hid (BI.out.grown hgrow4 (by have := B3.out.size; simp; omega) (fun g e => (TI.out.lt g e).1))
      have T4 := Lib.hid (show w4.ownsRow w.heap.size 28 32 v4 (((r, b0, e0) :: dn).length) ((pky fl ((r, b0, e0) :: dn)).map (Value.int .u8)) by rw [HPK.out, List.map_append]; exact hown4)
      have M4 := Lib.hid ((hgrow4.block p (Array.getElem?_eq_some_iff.1 MI.out).1 (fun h => owns_ne TI.out MI.out (by decide) h.symm)).trans MI.out)
      have G4 := Lib.hid ((hgrow4.block g (Array.getElem?_eq_some_iff.1 GI.out).1 (fun h => owns_ne TI.out GI.out (by decide) h.symm)).trans GI.out)
      have O4 := Lib.hid (OI.out.kept hgrow4 (owns_apart OI.out TI.out (by decide)))
      obtain ⟨a4, c4, hv4⟩ := owns_slc hown4
      subst hv4
      clear hown4 hgrow4 hnil4 BI MI GI OI TI
      have HCS := Lib.hid (curC_size (some (r, b0, e0)))
      have HCO := Lib.hid (curC_one (some (r, b0, e0)))
      generalize curC (some (r, b0, e0)) = C at M4 HCS HCO
      have L5 := laid_below w4 #[.bool false, .int .i64 0, .int .i64 0] C 141
      have B5 := Lib.hid (below_call B4.out B4.out.size L5)
      have G5 := Lib.hid (keep_block G4.out L5)
      have O5 := Lib.hid (owns_below O4.out L5)
      have T5 := Lib.hid (owns_below T4.out L5)
      have M5 := Lib.hid (laid_new w4 #[.bool false, .int .i64 0, .int .i64 0] C 141)
      have HP4 : Hid (p < w4.heap.size) := Lib.hid (Array.getElem?_eq_some_iff.1 M4.out).1
      clear L5
      go_wp2_with (first | (refine wpList_load_row rfl 141 (.tmp 9) rfl p rfl 141 C (0, 0) _ M4.out Try.underlying141 rfl (by rw [HCS.out]; exact sizeTurn) ?_) | (refine wpList_store_row rfl 141 (.tmp 9) _ rfl w4.heap.size C rfl rfl 141 #[.bool false, .int .i64 0, .int .i64 0] (heap_alloc_last _ _) (by rw [HCS.out]; exact sizeTurn) (by rw [HCS.out]; rfl) HCO.out ?_))
      generalize (w4.alloc (.cells #[.bool false, .int .i64 0, .int .i64 0] 141)).setRow w4.heap.size C = W5 at B5 G5 O5 T5 M5 ⊢
      generalize w4.heap.size = p5 at M5 HP4 ⊢
      refine (pop_turns g w.heap.size v rest (by have := HLN2.out; omega) W5 G5.out O5.out).mono ?_
      rintro x w6 ⟨rfl, v6, hg6, ho6, hv6, hk6⟩
      have G6 := Lib.hid hg6
      have O6 := Lib.hid ho6
      have HV6 : Hid (∀ q, v6.ownBlock = some q → q < p5) := Lib.hid (fun q h => by rw [hv6] at h; have := HV.out q h; have := HP4.out; omega)
      have M6 := Lib.hid (hk6.hold (g := p5) (fun e => by have h : p5 = g := e; have := HGP.out; have := HP4.out; omega) M5.out)
      have T6 := Lib.hid (show w6.ownsRow w.heap.size 28 32 (.slice a4 (dn.length + 1) c4) (((r, b0, e0) :: dn).length) ((pky fl ((r, b0, e0) :: dn)).map (Value.int .u8)) from owns_keep2 (owns_ne T5.out G5.out (by decide)) T5.out hk6)
      have B6 := Lib.hid (B5.out.trans (hk6.below B5.out.size (fun k e => by have h : k = g := e; have := HWG.out; omega)))
      clear hg6 ho6 hv6 hk6
      have HNN := Lib.hid (show rest.getLast? = none → rest.dropLast = [] from fun h => by rw [List.getLast?_eq_none_iff.1 h]; rfl)
      have HSP := Lib.hid (last_split rest)
      have H96 := Lib.hid (stkN_of HG.out HO.out)
      have HLD : Hid (rest.dropLast.length + boolN (.bool rest.getLast?.isSome) < rest.length + 1) := Lib.hid (by
        rcases List.eq_nil_or_concat rest with rfl | ⟨m, q, rfl⟩
        · simp [boolN]
        · simp [boolN])
      have HC2 := Lib.hid (curC_size rest.getLast?)
      have HC3 := Lib.hid (curC_one rest.getLast?)
      generalize rest.getLast? = cur2 at HNN HSP HLD HC2 HC3 ⊢
      generalize rest.dropLast = rest2 at HNN HSP HLD O6
      generalize hC2 : curC cur2 = C2 at HC2 HC3 ⊢
      have HCE := Lib.hid hC2
      clear hC2
      have B7 := Lib.hid (Below.setRow (g := p5) B6.out (by have := HWG.out; have := HGP.out; have := HP4.out; omega) C2)
      have M7 := Lib.hid (setRow_heap w6 p5 C C2 _ _ M6.out)
      have G7 := Lib.hid ((setRow_other w6 p5 g C2 (by have := HGP.out; have := HP4.out; omega)).trans G6.out)
      have O7 := Lib.hid (owns_setRow_ne (cs := C2) (g := p5) (fun h => by have := HV6.out _ h; omega) O6.out)
      have T7 := Lib.hid (owns_setRow_ne (cs := C2) (g := p5) (owns_ne T6.out M6.out (by decide)) T6.out)
      go_wp2_with (refine wpList_store_row rfl 141 (.tmp 9) _ rfl p5 C2 rfl rfl 141 C M6.out (by rw [HC2.out]; exact sizeTurn) (by rw [HCS.out, HC2.out]) HC3.out ?_)
      go_roundw
      case rel => exact ⟨rest2, (r, b0, e0) :: dn, cur2, p5, v6, by rw [HSP.out, HL.out]; simp, HNN.out, rfl, rfl, by rw [HCE.out]; exact M7.out, G7.out, O7.out, HV6.out, by have := HGP.out; have := HP4.out; omega, ⟨_, _, rfl⟩, T7.out, B7.out⟩
      case measure => rw [stkN_of G7.out O7.out, H96.out]; exact HLD.out
    | none =>
      have hre := hnn rfl
      have hd : L = dn := by rw [HL.out, hre]; simp
      have HD := Lib.hid hd
      clear hre hnn hd
      go_wp2_with fail
      go_ret
      exact ⟨_, rfl, by rw [HD.out]; exact HOUT.out, HB.out⟩
end Go.Proofs.Ytjijgckljjcfiaa
