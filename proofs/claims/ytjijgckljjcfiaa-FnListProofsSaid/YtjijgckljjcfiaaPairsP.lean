/- The pairs that a proof makes, by the program. Written by wip/gen/pairsp.py. -/
import Derived.Test.YtjijgckljjcfiaaPairW
import Derived.Test.YtjijgckljjcfiaaProofJ
namespace Go.Proofs.Ytjijgckljjcfiaa
open Go.ChangeShapes Go.WideShapes Go.ChangeAt Go.RowKit
set_option linter.unusedVariables false
set_option linter.unusedSimpArgs false
theorem results_tct {P : Program} {fn : Func} {p u v : Tmp} {ty : TypeId} (h : fn.results = #[.tmp u, .cell p ty, .tmp v]) (tmps : Array Value) (w : World) (g : Nat) (t : TypeId) (cs : Array Value) (fr : Nat × Nat) (d : TypeDesc)
    (hp : tmps.getD p undef = .pointer (some ⟨g, 0, none⟩)) (hg : w.heap[g]? = some (.cells cs t fr))
    (hu : P.underlying ty = some d) (hd : (match d with | .struct _ | .array _ _ => true | _ => false) = true) (hi : (P.info? ty).map (·.size) = some cs.size) :
    (results fn tmps).run P w = .ok (.tuple #[tmps.getD u undef, .agg cs, tmps.getD v undef]) w := by
  have hp' : tmps[p]?.getD undef = .pointer (some ⟨g, 0, none⟩) := by simpa using hp
  simp [results, h, hp', asAddr, run_loadVar_row w g t ty cs fr d hg hu hd hi]
theorem prs_cons (pk : Nat → List Int) (leaf : List Int) (t : Bool × Nat × Nat) (l : List (Bool × Nat × Nat)) : prs pk leaf (t :: l) = prs pk leaf l ++ prW t.1 (lds pk leaf l) (pk l.length) := rfl
theorem lds_cons (pk : Nat → List Int) (leaf : List Int) (t : Bool × Nat × Nat) (l : List (Bool × Nat × Nat)) : lds pk leaf (t :: l) = nodeK ((prW t.1 (lds pk leaf l) (pk l.length)).take 32) ((prW t.1 (lds pk leaf l) (pk l.length)).drop 32) ∨ (lds pk leaf l).length ≠ 32 ∨ (pk l.length).length ≠ 32 := by
  by_cases h : (lds pk leaf l).length = 32
  · by_cases h2 : (pk l.length).length = 32
    · left
      show (if t.1 then nodeK (pk l.length) (lds pk leaf l) else nodeK (lds pk leaf l) (pk l.length)) = _
      unfold prW
      cases t.1 with
      | true => rw [if_pos rfl, if_pos rfl, List.take_left' h2, List.drop_left' h2]
      | false => rw [if_neg (by simp), if_neg (by simp), List.take_left' h, List.drop_left' h]
    · exact Or.inr (Or.inr h2)
  · exact Or.inr (Or.inl h)
set_option maxRecDepth 100000 in
set_option maxHeartbeats 2000000 in
theorem pairs_no (N i : Nat) (hi : i < N) (hN : N ≤ 1048576) (leaf : List Int) (a : Option Addr) (k cap : Nat) (hk : k ≤ 1048576) (hne : k ≠ (tns 0 N i).length) (w : World) :
    Calls Try.prog 66 #[.int .i64 (N : Int), .int .i64 (i : Int), .agg (ints .u8 leaf), .slice a k cap, .func (.func 46) #[] #[]] w fun e w' => e = .returned (.tuple #[.slice none 0 0, .agg (ints .u8 z32), .bool false]) ∧ Below w.heap.size w w' := by
  have Hz := Lib.hid z32_ints
  have Ht := Lib.hid (fun W => turns_impl N i hi hN W)
  have B1 := Lib.hid (((Below.refl w.heap.size w).alloc (Nat.le_refl _) (.cells (ints .u8 leaf) 28)).alloc (by simp) (.cells (ints .u8 z32) 28))
  have R1 := Lib.hid (heap_alloc2_new w (.cells (ints .u8 leaf) 28) (.cells (ints .u8 z32) 28))
  obtain ⟨W0, hW0⟩ : ∃ W0, (w.alloc (.cells (ints .u8 leaf) 28)).alloc (.cells (ints .u8 z32) 28) = W0 := ⟨_, rfl⟩
  rw [hW0] at B1 R1
  rw [Hz.out] at hW0
  have hlt : (tns 0 N i).length ≤ 1048576 := by have := tns_len N 0 i; omega
  generalize tns 0 N i = L at Ht hne hlt
  have c1 : ¬ (k : Int) = (L.length : Int) := by omega
  go_enter Try.func66, Try.ntmps66
  go_wp2_with fail
  clear hW0
  refine (Ht.out _).mono ?_
  rintro e w2 ⟨g, v, rfl, hg, ho, hg1, hg2, hb⟩
  obtain ⟨a1, c1', rfl⟩ := owns_slc ho
  have cg := cell_of_one hg
  have B2 := Lib.hid (below_call B1.out B1.out.size hb)
  have R2 := Lib.hid (keep_block R1.out hb)
  clear hg ho hg1 hg2 hb
  go_wp2_with (refine wpList_store_row rfl 28 _ _ rfl (w.heap.size + 1) (ints .u8 z32) rfl rfl 28 (ints .u8 z32) R2.out (by kernel_rfl) rfl (ints_one _ _) ?_)
  refine bodyPost_ret (results_tct rfl _ _ (w.heap.size + 1) 28 (ints .u8 z32) (0, 0) _ rfl (setRow_heap _ _ (ints .u8 z32) _ _ _ R2.out) Try.underlying28 rfl (by kernel_rfl)) rfl ⟨rfl, ?_⟩
  exact Below.setRow B2.out (by omega) _
theorem row_part {w : World} {g : Nat} {l : List Int} {T : TypeId} {fr : Nat × Nat} (h : w.heap[g]? = some (.cells (ints .u8 l) T fr)) (o : Nat) (ho : o + 32 ≤ l.length) : w.rangeAt g o (((l.drop o).take 32).map (Value.int .u8)) := by
  intro j u hu
  rw [cell_of_row w g (o + j) _ _ _ h]
  have hj : j < 32 := by
    have h2 := (List.getElem?_eq_some_iff.1 hu).1
    simp at h2; omega
  simp only [List.getElem?_map, List.getElem?_take_of_lt hj, List.getElem?_drop] at hu
  simp only [ints, List.getElem?_toArray, List.getElem?_map]
  exact hu
set_option maxRecDepth 100000 in
set_option maxHeartbeats 16000000 in
theorem pairs_yes (N i : Nat) (hi : i < N) (hN : N ≤ 1048575) (leaf : List Int) (hl : Is32 leaf) (a : Option Addr) (k cap : Nat) (fl : List Int) (fb : ∀ z ∈ fl, 0 ≤ z ∧ z ≤ 255) (hk : k = (tns 0 N i).length) (w : World) (hr : RdK w a k fl) :
    Calls Try.prog 66 #[.int .i64 (N : Int), .int .i64 (i : Int), .agg (ints .u8 leaf), .slice a k cap, .func (.func 46) #[] #[]] w fun e w' => ∃ v, e = .returned (.tuple #[v, .agg (ints .u8 (lds (keyAt fl) leaf (tns 0 N i))), .bool true]) ∧ w'.ownsRow w.heap.size 147 64 v k ((prs (keyAt fl) leaf (tns 0 N i)).map (Value.int .u8)) ∧ Below w.heap.size w w' := by
  obtain ⟨i0, z0, hi0, hz0, hz1, hz2, hzs⟩ := pairParts
  have Hi := Lib.hid hi0
  clear hi0
  have Hz := Lib.hid z32_ints
  have Hy := Lib.hid z64_ints
  have Ht := Lib.hid (fun W => turns_impl N i hi (by omega) W)
  have B1 := Lib.hid (((Below.refl w.heap.size w).alloc (Nat.le_refl _) (.cells (ints .u8 leaf) 28)).alloc (by simp) (.cells (ints .u8 z32) 28))
  have L1 := Lib.hid (heap_alloc2_old w (.cells (ints .u8 leaf) 28) (.cells (ints .u8 z32) 28))
  have R1 := Lib.hid (heap_alloc2_new w (.cells (ints .u8 leaf) 28) (.cells (ints .u8 z32) 28))
  obtain ⟨W0, hW0⟩ : ∃ W0, (w.alloc (.cells (ints .u8 leaf) 28)).alloc (.cells (ints .u8 z32) 28) = W0 := ⟨_, rfl⟩
  have HS0 : Hid (W0.heap.size = w.heap.size + 2) := Lib.hid (by rw [← hW0]; simp)
  rw [hW0] at B1 L1 R1
  rw [Hz.out] at hW0
  have hlt : (tns 0 N i).length ≤ 1048575 := by have := tns_len N 0 i; omega
  have HLL := Lib.hid (fun (l : List (Bool × Nat × Nat)) => lds32 (pk := keyAt fl) hl l)
  have HFL := Lib.hid hl.1
  have HR := Lib.hid hr
  have HFB := Lib.hid fb
  have HKL := Lib.hid hr.1
  clear hr fb
  generalize tns 0 N i = L at Ht hk hlt ⊢
  subst hk
  have c1 : (0 : Int) ≤ (L.length : Int) := by omega
  have c2 : (L.length : Int) ≤ 1048575 := by omega
  go_enter Try.func66, Try.ntmps66
  go_wp2_with fail
  clear hW0
  refine (Ht.out _).mono ?_
  rintro e w2 ⟨g, v, rfl, hg, ho, hg1, hg2, hb⟩
  obtain ⟨a1, c1', rfl⟩ := owns_slc ho
  have cg := cell_of_one hg
  have O2 := Lib.hid (owns_base (base := w.heap.size) B1.out.size ho)
  have G2 := Lib.hid hg
  have HG : Hid (w.heap.size + 2 ≤ g) := Lib.hid (by rw [← HS0.out]; exact hg1)
  have HG2 := Lib.hid hg2
  have B2 := Lib.hid (below_call B1.out B1.out.size hb)
  have L2 := Lib.hid (keep_block L1.out hb)
  have R2 := Lib.hid (keep_block R1.out hb)
  clear hg ho hg1 hg2 hb Ht
  have LA := laid_below w2 (ints .u8 z32) (ints .u8 leaf) 28
  have B3 := Lib.hid (below_call B2.out B2.out.size LA)
  have L3 := Lib.hid (keep_block L2.out LA)
  have R3 := Lib.hid (keep_block R2.out LA)
  have G3 := Lib.hid (keep_block G2.out LA)
  have O3 := Lib.hid (owns_below O2.out LA)
  have F3 := Lib.hid (laid_new w2 (ints .u8 z32) (ints .u8 leaf) 28)
  clear LA
  go_wp2_with (first | (refine wpList_load_row rfl 28 _ rfl (w.heap.size) rfl 28 (ints .u8 leaf) (0, 0) _ L2.out Try.underlying28 rfl (by rw [ints_size, HFL.out]; exact sizeKey) ?_) | (refine wpList_store_row rfl 28 _ _ rfl w2.heap.size (ints .u8 leaf) rfl rfl 28 (ints .u8 z32) (by rw [Hz.out]; exact heap_alloc_last _ _) (by rw [ints_size, HFL.out]; exact sizeKey) (by rw [ints_size, ints_size, HFL.out]; rfl) (ints_one _ _) ?_))
  clear cg
  rw [← Hz.out]
  generalize (w2.alloc (.cells (ints .u8 z32) 28)).setRow w2.heap.size (ints .u8 leaf) = W3 at B3 L3 R3 G3 O3 F3 ⊢
  generalize hf : w2.heap.size = f at F3 HG2 ⊢
  clear hf
  have HF1 : Hid (w.heap.size + 2 < f) := Lib.hid (by have := HG.out; have := HG2.out; omega)
  try simp only [Act.put]
  go_loopw [14, 36] (fun pv iv wr => ∃ (rest dn : List (Bool × Nat × Nat)) (sv : Value), L = rest ++ dn ∧ iv = .int .i64 (dn.length : Int) ∧ wr.heap[f]? = some (.cells (ints .u8 (lds (keyAt fl) leaf dn)) 28) ∧ wr.heap[w.heap.size + 1]? = some (.cells (ints .u8 z32) 28) ∧ wr.heap[g]? = some (.cells #[sv] 86) ∧ wr.ownsRow w.heap.size 141 3 sv rest.length (tcl rest) ∧ wr.ownsRow w.heap.size 147 64 pv dn.length ((prs (keyAt fl) leaf dn).map (Value.int .u8)) ∧ Below w.heap.size w wr) (fun _ iv _ => L.length - (intOf iv).toNat)
  case atStart => exact ⟨L, [], _, by simp, rfl, F3.out, R3.out, G3.out, O3.out, World.ownsRow_nil _ _ _ _, B3.out⟩
  case round =>
    clear B2 L2 R2 G2 O2 B3 L3 R3 G3 O3 F3
    obtain ⟨rest, dn, sv, hL, rfl, hF, hR, hG, hO, hP, hB⟩ := hrel
    have F4 := Lib.hid hF
    have R4 := Lib.hid hR
    have G4 := Lib.hid hG
    have O4 := Lib.hid hO
    have P4 := Lib.hid hP
    have B4 := Lib.hid hB
    have HL := Lib.hid hL
    have hlen : L.length = rest.length + dn.length := by rw [hL, List.length_append]
    have b1 : (dn.length : Int) ≤ 1048575 := by omega
    have HLE := Lib.hid hlen
    clear hlen
    obtain ⟨pa, pc, rfl⟩ := owns_slc hP
    clear hF hR hG hO hP hB hL
    have b0 : (0 : Int) ≤ (dn.length : Int) := by omega
    rcases List.eq_nil_or_concat rest with rfl | ⟨rest2, t, rfl⟩
    · have hd : dn = L := by have := HL.out; simpa using this.symm
      subst hd
      have b2 : ¬ (dn.length : Int) < (dn.length : Int) := by omega
      go_wp2_with fail
      have HFD : Hid (Is32 (lds (keyAt fl) leaf dn)) := Lib.hid (HLL.out dn)
      have hr0 : (wr.drew).heap[w.heap.size + 1]? = some (.cells (ints .u8 z32) 28) := R4.out
      refine wp_region_held_drew (S := fun U => U.heap[f]? = some (.cells (ints .u8 (lds (keyAt fl) leaf dn)) 28) ∧ U.ownsRow w.heap.size 147 64 (.slice pa dn.length pc) dn.length ((prs (keyAt fl) leaf dn).map (Value.int .u8)) ∧ Below w.heap.size w U) (by kernel_rfl) ⟨F4.out, owns_below P4.out (Below.refl _ _).drew, B4.out.drew⟩ (fun hS => ?_)
      refine take_at (i := 0) (v := .slice pa dn.length pc) rfl rfl (by kernel_rfl) (by kernel_rfl) (by kernel_rfl) (fun _ _ _ h => h) (Or.inl ⟨by rfl, fun U hU => by go_simp⟩) hS ?_
      try simp only [List.setIfInBounds_toArray, List.set_cons_zero, List.set_cons_succ]
      refine take_at (i := 1) (v := .agg (ints .u8 (lds (keyAt fl) leaf dn))) rfl rfl (by kernel_rfl) (by kernel_rfl) (by kernel_rfl) (fun _ _ _ h => h) (yields_row (by rfl) 28 _ rfl f rfl (ints .u8 (lds (keyAt fl) leaf dn)) 28 _ (fun U hU => hU.1) Try.underlying28 rfl (by rw [ints_size, HFD.out.1]; exact sizeKey)) hS ?_
      try simp only [List.setIfInBounds_toArray, List.set_cons_zero, List.set_cons_succ]
      refine take_at (i := 2) (v := .slice pa dn.length pc) rfl rfl (by kernel_rfl) (by kernel_rfl) (by kernel_rfl) (fun _ _ _ h => h) (Or.inl ⟨by rfl, fun U hU => by go_simp⟩) hS ?_
      try simp only [List.setIfInBounds_toArray, List.set_cons_zero, List.set_cons_succ]
      refine wpAnyH_ready (rs := [3]) (by kernel_rfl) (by simp) ?_
      refine AllReadyH.cons rfl (fun KQ hK => ?_) AllReadyH.nil
      rw [if_pos (by rfl)]
      refine wp_store_row (o := ⟨none, _, _, _, _, _⟩) 28 _ _ rfl (w.heap.size + 1) (ints .u8 (lds (keyAt fl) leaf dn)) rfl rfl 28 (ints .u8 z32) hr0 (by rw [ints_size, HFD.out.1]; exact sizeKey) (by rw [ints_size, ints_size, HFD.out.1]; rfl) (ints_one _ _) ?_
      simp only [Act.put]
      have hr3 := setRow_heap _ _ (ints .u8 z32) (ints .u8 (lds (keyAt fl) leaf dn)) _ _ hr0
      refine hK.out _ _ ⟨(setRow_other _ _ _ _ (by have := HF1.out; omega)).trans hS.1, owns_setRow_ne (cs := ints .u8 (lds (keyAt fl) leaf dn)) (owns_ne hS.2.1 hr0 (by decide)) hS.2.1, Below.setRow hS.2.2 (by omega) _⟩ (fun hS => ?_)
      clear hK
      refine take_at (i := 4) (v := .bool true) rfl rfl (by kernel_rfl) (by kernel_rfl) (by kernel_rfl) (fun _ _ _ h => h) (Or.inl ⟨by rfl, fun U hU => by go_simp⟩) hS ?_
      try simp only [List.setIfInBounds_toArray, List.set_cons_zero, List.set_cons_succ]
      refine wpAnyH_done (by kernel_rfl) ?_ _
      go_wp2_with fail
      refine bodyPost_ret (results_tct rfl _ _ (w.heap.size + 1) 28 (ints .u8 (lds (keyAt fl) leaf dn)) (0, 0) _ rfl hr3 Try.underlying28 rfl (by rw [ints_size, HFD.out.1]; exact sizeKey)) rfl ⟨_, rfl, ?_, ?_⟩
      · exact hS.2.1
      · exact hS.2.2
    · rw [List.concat_eq_append] at *
      obtain ⟨r, b0', e0⟩ := t
      have hln : dn.length < L.length := by rw [HLE.out]; simp
      have b2 : (dn.length : Int) < (L.length : Int) := by omega
      obtain ⟨pb, po, rfl⟩ := HR.out.form (by omega)
      have Hkey := Lib.hid ((HR.out.below B4.out).key dn.length hln)
      have HX : Hid ((keyAt fl dn.length).length = 32) := Lib.hid (keyAt_len HKL.out hln)
      have HXB := Lib.hid (keyAt_range HFB.out dn.length)
      have HPC := Lib.hid (prs_cons (keyAt fl) leaf (r, b0', e0) dn)
      have HLC := Lib.hid (lds_cons (keyAt fl) leaf (r, b0', e0) dn)
      have HFD : Hid (Is32 (lds (keyAt fl) leaf dn)) := Lib.hid (HLL.out dn)
      simp only at HPC HLC
      have HNX := Lib.hid (HLL.out ((r, b0', e0) :: dn))
      generalize hnx : lds (keyAt fl) leaf ((r, b0', e0) :: dn) = nx at HLC HNX
      have HNX2 := Lib.hid hnx
      clear hnx
      generalize lds (keyAt fl) leaf dn = fd at F4 HPC HLC HFD
      generalize prs (keyAt fl) leaf dn = pd at P4 HPC
      generalize keyAt fl dn.length = X at Hkey HX HXB HPC HLC
      have HLC2 : Hid (nx = nodeK ((prW r fd X).take 32) ((prW r fd X).drop 32)) := Lib.hid (by rcases HLC.out with h | h | h; exact h; exact absurd HFD.out.1 h; exact absurd HX.out h)
      have HW := Lib.hid (prW_len (r := r) HFD.out.1 HX.out)
      have HWB : Hid (∀ z ∈ prW r fd X, 0 ≤ z ∧ z ≤ 255) := Lib.hid (by unfold prW; split <;> (intro z hz; rcases List.mem_append.1 hz with h | h <;> first | exact HXB.out z h | exact HFD.out.2 z h))
      have Hpw := Lib.hid (fun W => pairWith_impl r (b0' : Int) (e0 : Int) fd X HFD.out.1 HX.out W)
      generalize prW r fd X = pw at HPC HLC2 HW HWB Hpw
      clear HLC
      have LA := laid_below wr (ints .u8 z32) (ints .u8 X) 28
      have B5 := Lib.hid (below_call B4.out B4.out.size LA)
      have R5 := Lib.hid (keep_block R4.out LA)
      have G5 := Lib.hid (keep_block G4.out LA)
      have O5 := Lib.hid (owns_below O4.out LA)
      have P5 := Lib.hid (owns_below P4.out LA)
      have F5 := Lib.hid (keep_block F4.out LA)
      have X5 := Lib.hid (laid_new wr (ints .u8 z32) (ints .u8 X) 28)
      clear LA
      go_wp2_with (first | (refine wpList_load_ints rfl 28 (.tmp 38) rfl pb (po + dn.length * 32) rfl .u8 X _ Hkey.out Try.underlying28 rfl (by rw [HX.out]; exact sizeKey) ?_) | (refine wpList_store_row rfl 28 _ _ rfl wr.heap.size (ints .u8 X) rfl rfl 28 (ints .u8 z32) (by rw [Hz.out]; exact heap_alloc_last _ _) (by rw [ints_size, HX.out]; exact sizeKey) (by rw [ints_size, ints_size, HX.out]; rfl) (ints_one _ _) ?_))
      rw [← Hz.out]
      generalize (wr.alloc (.cells (ints .u8 z32) 28)).setRow wr.heap.size (ints .u8 X) = W5 at B5 R5 G5 O5 P5 F5 X5 ⊢
      have HXI : Hid (wr.heap.size ≠ g) := Lib.hid (fun e => by have := (Array.getElem?_eq_some_iff.1 G4.out).1; omega)
      generalize wr.heap.size = xb at X5 HXI ⊢
      have hpop := pop_turns g w.heap.size sv (rest2 ++ [(r, b0', e0)]) (by have h := HLE.out; simp at h ⊢; omega) W5 G5.out O5.out
      rw [show (rest2 ++ [(r, b0', e0)]).getLast? = some (r, b0', e0) by simp, show (rest2 ++ [(r, b0', e0)]).dropLast = rest2 by simp] at hpop
      refine hpop.mono ?_
      rintro e w6 ⟨rfl, sv6, hg6, ho6, hv6, hk6⟩
      have G6 := Lib.hid hg6
      have O6 := Lib.hid ho6
      have HGF : Hid (f ≠ g) := Lib.hid (fun h => by have := F4.out; rw [h] at this; have h2 := this.symm.trans G4.out; simp at h2)
      have F6 := Lib.hid (hk6.hold (g := f) (fun e => HGF.out e) F5.out)
      have X6 := Lib.hid (hk6.hold (g := xb) (fun e => HXI.out e) X5.out)
      have R6 := Lib.hid (hk6.hold (g := w.heap.size + 1) (fun e => by have h : w.heap.size + 1 = g := e; have := HG.out; omega) R5.out)
      have P6 := Lib.hid (owns_keep2 (owns_ne P5.out G5.out (by decide)) P5.out hk6)
      have B6 := Lib.hid (B5.out.trans (hk6.below B5.out.size (fun k e => by have h : k = g := e; have := HG.out; omega)))
      clear hg6 ho6 hv6 hk6 hpop B5 R5 G5 O5 P5 F5 X5 B4 R4 G4 O4 P4
      have LA := laid_below w6 #[.bool false, .int .i64 0, .int .i64 0] #[.bool r, .int .i64 (b0' : Int), .int .i64 (e0 : Int)] 141
      have B7 := Lib.hid (below_call B6.out B6.out.size LA)
      have R7 := Lib.hid (keep_block R6.out LA)
      have G7 := Lib.hid (keep_block G6.out LA)
      have O7 := Lib.hid (owns_below O6.out LA)
      have P7 := Lib.hid (owns_below P6.out LA)
      have F7 := Lib.hid (keep_block F6.out LA)
      have X7 := Lib.hid (keep_block X6.out LA)
      have T7 := Lib.hid (laid_new w6 #[.bool false, .int .i64 0, .int .i64 0] #[.bool r, .int .i64 (b0' : Int), .int .i64 (e0 : Int)] 141)
      clear LA
      go_wp2_with (first | (refine wpList_store_row rfl 141 _ _ rfl w6.heap.size #[.bool r, .int .i64 (b0' : Int), .int .i64 (e0 : Int)] rfl rfl 141 #[.bool false, .int .i64 0, .int .i64 0] (heap_alloc_last _ _) sizeTurn rfl (by simp [Value.oneCell']) ?_) | (refine wpList_load_row rfl 141 _ rfl w6.heap.size rfl 141 #[.bool r, .int .i64 (b0' : Int), .int .i64 (e0 : Int)] (0, 0) _ T7.out Try.underlying141 rfl sizeTurn ?_) | (refine wpList_load_row rfl 28 (.tmp 15) rfl f rfl 28 (ints .u8 fd) (0, 0) _ F7.out Try.underlying28 rfl (by rw [ints_size, HFD.out.1]; exact sizeKey) ?_) | (refine wpList_load_row rfl 28 (.tmp 17) rfl xb rfl 28 (ints .u8 X) (0, 0) _ X7.out Try.underlying28 rfl (by rw [ints_size, HX.out]; exact sizeKey) ?_))
      refine (Hpw.out _).mono ?_
      rintro e w8 ⟨rfl, hb⟩
      have B8 := Lib.hid (below_call B7.out B7.out.size hb)
      have R8 := Lib.hid (keep_block R7.out hb)
      have G8 := Lib.hid (keep_block G7.out hb)
      have O8 := Lib.hid (owns_below O7.out hb)
      have P8 := Lib.hid (owns_below P7.out hb)
      have F8 := Lib.hid (keep_block F7.out hb)
      have X8 := Lib.hid (keep_block X7.out hb)
      clear hb
      have LA := laid_below w8 (ints .u8 z64) (ints .u8 pw) 147
      have B9 := Lib.hid (below_call B8.out B8.out.size LA)
      have R9 := Lib.hid (keep_block R8.out LA)
      have G9 := Lib.hid (keep_block G8.out LA)
      have O9 := Lib.hid (owns_below O8.out LA)
      have P9 := Lib.hid (owns_below P8.out LA)
      have F9 := Lib.hid (keep_block F8.out LA)
      have X9 := Lib.hid (keep_block X8.out LA)
      have Q9 := Lib.hid (laid_new w8 (ints .u8 z64) (ints .u8 pw) 147)
      clear LA
      have LI := (Below.refl ((w8.alloc (.cells (ints .u8 z64) 147)).setRow w8.heap.size (ints .u8 pw)).heap.size ((w8.alloc (.cells (ints .u8 z64) 147)).setRow w8.heap.size (ints .u8 pw))).alloc (Nat.le_refl _) (.cells (ints .u8 pw) 147)
      obtain ⟨W9, hW9⟩ : ∃ W9, (w8.alloc (.cells (ints .u8 z64) 147)).setRow w8.heap.size (ints .u8 pw) = W9 := ⟨_, rfl⟩
      rw [hW9] at B9 R9 G9 O9 P9 F9 X9 Q9 LI
      have BX := Lib.hid (below_call B9.out B9.out.size LI)
      have RX := Lib.hid (keep_block R9.out LI)
      have GX := Lib.hid (keep_block G9.out LI)
      have OX := Lib.hid (owns_below O9.out LI)
      have PX := Lib.hid (owns_below P9.out LI)
      have FX := Lib.hid (keep_block F9.out LI)
      have XX := Lib.hid (keep_block X9.out LI)
      have QX := Lib.hid (keep_block Q9.out LI)
      clear LI
      have HSZ9 := Lib.hid B9.out.size
      have hW10 := hW9
      rw [Hy.out] at hW10
      go_wp2_with (first | (refine wpList_store_row rfl 147 (.tmp 20) _ rfl w8.heap.size (ints .u8 pw) rfl rfl 147 (ints .u8 z64) (by rw [Hy.out]; exact heap_alloc_last _ _) (by rw [ints_size, HW.out]; exact sizePair) (by rw [ints_size, ints_size, HW.out]; rfl) (ints_one _ _) ?_) | (refine wpList_load_row rfl 147 (.tmp 20) rfl w8.heap.size rfl 147 (ints .u8 pw) (0, 0) _ (by first | exact Q9.out | (rw [hW10]; exact Q9.out)) Try.underlying147 rfl (by rw [ints_size, HW.out]; exact sizePair) ?_) | (refine wpList_buildSlice_one rfl 89 147 _ rfl Try.underlying89 Hi.out hz0 (ints .u8 pw) rfl (by rw [ints_size, HW.out, hz1]) (by rw [hz1]; decide) (by rw [hz1]; decide) ?_) | (at_builtin; refine wpList_append_own _ rfl _ _ 89 rfl w.heap.size 147 i0 z0 64 64 Try.underlying89 Hi.out hz0 hz1 hz2 hzs (by decide) _ dn.length _ rfl PX.out ⟨W9.heap.size, 0, none⟩ 1 1 (pw.map (Value.int .u8)) rfl (by rw [List.length_map, HW.out]) ?c1 ?c2 ?c3 ?c4 ?c5 ?_))
      case c1 =>
        intro q u hu
        rw [addr_add]
        have hg := heap_alloc_last W9 (.cells (ints .u8 pw) 147)
        rw [Nat.zero_add, cell_of_row _ W9.heap.size q _ _ _ hg, ← hu]
        simp [ints]
      case c2 =>
        intro u hu
        obtain ⟨z, _, rfl⟩ := List.mem_map.1 hu
        rfl
      case c3 => unfold maxLen; omega
      case c4 => omega
      case c5 => have := HSZ9.out; simp; omega
      intro v11 w11 hown hgrow hnil
      have B11 := Lib.hid (BX.out.grown hgrow (by have := HSZ9.out; simp; omega) (fun g e => (PX.out.lt g e).1))
      have P11 := Lib.hid (show w11.ownsRow w.heap.size 147 64 v11 (dn.length + 1) ((pd ++ pw).map (Value.int .u8)) by rw [List.map_append]; exact hown)
      have HNP : Hid (∀ {gg : Nat} {c : Array Value} {T : TypeId} {fr : Nat × Nat}, ((W9.alloc (.cells (ints .u8 pw) 147))).heap[gg]? = some (.cells c T fr) → 147 ≠ T → w11.heap[gg]? = some (.cells c T fr)) := Lib.hid (fun h hT => (hgrow.block _ (Array.getElem?_eq_some_iff.1 h).1 (fun e => owns_ne PX.out h hT e.symm)).trans h)
      have F11 := Lib.hid (HNP.out FX.out (by decide))
      have R11 := Lib.hid (HNP.out RX.out (by decide))
      have G11 := Lib.hid (HNP.out GX.out (by decide))
      have O11 := Lib.hid (OX.out.kept hgrow (owns_apart OX.out PX.out (by decide)))
      have HQN : Hid (some w8.heap.size ≠ (Value.slice pa dn.length pc).ownBlock) := Lib.hid (fun e => by have h1 := (P8.out.lt _ e.symm).2; omega)
      have Q11 := Lib.hid ((hgrow.block w8.heap.size (Array.getElem?_eq_some_iff.1 QX.out).1 HQN.out).trans QX.out)
      obtain ⟨a11, c11, hv11⟩ := owns_slc hown
      subst hv11
      clear hown hgrow hnil BX RX GX OX PX FX XX QX HNP hW9 hW10 B9 R9 G9 O9 P9 F9 X9 Q9 B8 R8 G8 O8 P8 F8 X8 HQN
      have HQA := Lib.hid (row_part Q11.out 0 (show 0 + 32 ≤ pw.length by rw [HW.out]; omega))
      have HQB := Lib.hid (row_part Q11.out 32 (show 32 + 32 ≤ pw.length by rw [HW.out]; omega))
      rw [List.drop_zero] at HQA
      have HTA : Hid ((pw.take 32).length = 32) := Lib.hid (by rw [List.length_take, HW.out]; rfl)
      have HTB : Hid (((pw.drop 32).take 32).length = 32) := Lib.hid (by rw [List.length_take, List.length_drop, HW.out]; rfl)
      have HDB : Hid ((pw.drop 32).take 32 = pw.drop 32) := Lib.hid (List.take_of_length_le (by rw [List.length_drop, HW.out]; omega))
      have Hnk := Lib.hid (fun W => node_impl (pw.take 32) ((pw.drop 32).take 32) HTA.out (fun z hz => HWB.out z (List.mem_of_mem_take hz)) HTB.out (fun z hz => HWB.out z (List.mem_of_mem_drop (List.mem_of_mem_take hz))) W)
      rw [HDB.out, ← HLC2.out, ← HDB.out] at Hnk
      generalize pw.take 32 = ka at HQA HTA Hnk
      generalize (pw.drop 32).take 32 = kb at HQB HTB Hnk
      generalize w8.heap.size = qb at Q11 HQA HQB ⊢
      go_wp2_with (first | (refine wpList_load_ints rfl 28 (.tmp 54) rfl qb 0 rfl .u8 ka _ HQA.out Try.underlying28 rfl (by rw [HTA.out]; exact sizeKey) ?_) | (refine wpList_load_ints rfl 28 (.tmp 56) rfl qb 32 rfl .u8 kb _ HQB.out Try.underlying28 rfl (by rw [HTB.out]; exact sizeKey) ?_))
      refine (Hnk.out _).mono ?_
      rintro e w12 ⟨rfl, hb⟩
      have B12 := Lib.hid (below_call B11.out B11.out.size hb)
      have R12 := Lib.hid (keep_block R11.out hb)
      have G12 := Lib.hid (keep_block G11.out hb)
      have O12 := Lib.hid (owns_below O11.out hb)
      have P12 := Lib.hid (owns_below P11.out hb)
      have F12 := Lib.hid (keep_block F11.out hb)
      clear hb
      have B13 := Lib.hid (Below.setRow (g := f) B12.out (by have := HF1.out; omega) (ints .u8 nx))
      have F13 := Lib.hid (setRow_heap w12 f (ints .u8 fd) (ints .u8 nx) _ _ F12.out)
      have R13 := Lib.hid ((setRow_other w12 f (w.heap.size + 1) (ints .u8 nx) (by have := HF1.out; omega)).trans R12.out)
      have G13 := Lib.hid ((setRow_other w12 f g (ints .u8 nx) (fun e => HGF.out e.symm)).trans G12.out)
      have O13 := Lib.hid (owns_setRow_ne (cs := ints .u8 nx) (owns_ne O12.out F12.out (by decide)) O12.out)
      have P13 := Lib.hid (owns_setRow_ne (cs := ints .u8 nx) (owns_ne P12.out F12.out (by decide)) P12.out)
      go_wp2_with (refine wpList_store_row rfl 28 (.tmp 15) _ rfl f (ints .u8 nx) rfl rfl 28 (ints .u8 fd) F12.out (by rw [ints_size, HNX.out.1]; exact sizeKey) (by rw [ints_size, ints_size, HNX.out.1, HFD.out.1]) (ints_one _ _) ?_)
      go_roundw
      case rel => exact ⟨rest2, (r, b0', e0) :: dn, sv6, by rw [HL.out]; simp, by go_num, by rw [HNX2.out]; exact F13.out, R13.out, G13.out, O13.out, by rw [HPC.out]; exact P13.out, B13.out⟩
      case measure => simp [intOf]; omega
end Go.Proofs.Ytjijgckljjcfiaa
