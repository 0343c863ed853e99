/- The statement on ExactValidCommit: its walk. Written by wip/gen/cml.py. -/
import Derived.Test.YtnnplebebhjfaaaCmo
namespace Go.Proofs.Ytnnplebebhjfaaa
open Go.ChangeShapes Go.WideShapes Go.ChangeAt Go.RowKit
set_option linter.unusedVariables false
set_option linter.unusedSimpArgs false
theorem layBC (w : World) (old new : Array Value) (t : TypeId) : Below w.heap.size w ((w.alloc (.cells old t)).setRow w.heap.size new) := Below.setRow ((Below.refl _ _).alloc (Nat.le_refl _) _) (Nat.le_refl _) _
theorem layNC (w : World) (old new : Array Value) (t : TypeId) : ((w.alloc (.cells old t)).setRow w.heap.size new).heap[w.heap.size]? = some (.cells new t) := setRow_heap _ _ old new _ _ (heap_alloc_last w (.cells old t))
theorem sizeLCom : (Try.prog.info? 25).map (·.size) = some 35 := by kernel_rfl
set_option maxRecDepth 100000 in
set_option maxHeartbeats 8000000 in
theorem FnExactValidCommit_in (r : List Int) (a : Option Addr) (n ca : Nat) (fl : List Int) (z : Int) (nt : ByteArray) (hr : r.length = 32) (w : World) (hK : IsKeys w a n fl) (hs : nt.size ≤ maxLen) (V : Bool)
    (hS : ∀ (g : Nat) (U : World), n ≤ 1048576 → RdK U (some ⟨g, 0, none⟩) n fl → Calls Try.prog 10 #[.agg (comC r (.slice (some ⟨g, 0, none⟩) n n) z nt)] U fun e w' => e = .returned (.bool V) ∧ Below U.heap.size U w')
    (hI : ∀ (g : Nat) (U : World), n ≤ 1048576 → RdK U (some ⟨g, 0, none⟩) n fl → Calls Try.prog 12 #[.agg (comC r (.slice (some ⟨g, 0, none⟩) n n) z nt)] U fun e w' => e = .returned (.bool V) ∧ Below U.heap.size U w') :
    Calls Try.prog 3 #[.agg (comC r (.slice a n ca) z nt)] w fun e w' => e = .returned (.bool true) ∧ Below w.heap.size w w' := by
  have A0 := heap_alloc_last w (.cells (comC r (.slice a n ca) z nt) 25)
  have B0' := (Below.refl w.heap.size w).alloc (Nat.le_refl _) (.cells (comC r (.slice a n ca) z nt) 25)
  obtain ⟨w0, hw0⟩ : ∃ w0, w.alloc (.cells (comC r (.slice a n ca) z nt) 25) = w0 := ⟨_, rfl⟩
  rw [hw0] at A0 B0'
  have E0 := Lib.hid A0
  have B0 := Lib.hid B0'
  have HR := Lib.hid hr
  have HS := Lib.hid (fun v => comC_size v z nt hr)
  have HIA := Lib.hid hK.2.1
  have HL := Lib.hid hK.2.1.1
  have HMX := Lib.hid hK.1
  have CZ := Lib.hid comZ
  clear A0 B0' hr hK
  go_enter Try.func3, Try.ntmps3
  go_wp2_with (refine wpList_load_row rfl 25 _ rfl w.heap.size rfl 25 (comC r (.slice a n ca) z nt) (0, 0) _ E0.out Try.underlying25 rfl (by rw [HS.out]; exact sizeLCom) ?_)
  refine (szCom r a n ca z nt HR.out HMX.out hs 1048576 (by omega) (by omega) _).mono ?_
  rintro e w1 ⟨⟨q0, rfl, hq⟩, hb⟩
  have B1 := Lib.hid (below_call B0.out B0.out.size hb)
  have E1 := Lib.hid (keep_block E0.out hb)
  clear hb hw0
  rcases hq with rfl | ⟨q1, hq⟩
  · go_wp2_with fail
    go_ret
    exact ⟨rfl, B1.out⟩
  have q2 : ¬ q0 < 0 := by omega
  have hn : n ≤ 1048576 := by omega
  clear hq q1
  have HSP := Lib.hid (fun g U => hS g U hn)
  have HIM := Lib.hid (fun g U => hI g U hn)
  clear hS hI
  go_wp2_with (refine wpList_load_row rfl 25 _ rfl w.heap.size rfl 25 (comC r (.slice a n ca) z nt) (0, 0) _ E1.out Try.underlying25 rfl (by rw [HS.out]; exact sizeLCom) ?_)
  refine (toCom r a n ca fl z nt HR.out hn _ (HIA.out.below B1.out)).mono ?_
  rintro e w2 ⟨g2, rfl, -, ho, hb⟩
  have B2 := Lib.hid (below_call B1.out B1.out.size hb)
  have E2 := Lib.hid (keep_block E1.out hb)
  have K2 := Lib.hid (rdk_blk HL.out ho)
  clear hb ho E1 B1 E0 B0
  go_wp2_with fail
  refine (HSP.out g2 _ K2.out).mono ?_
  rintro e w3 ⟨rfl, hb⟩
  have B3 := Lib.hid (below_call B2.out B2.out.size hb)
  have E3 := Lib.hid (keep_block E2.out hb)
  clear hb E2 B2 K2
  go_wp2_with (refine wpList_load_row rfl 25 _ rfl w.heap.size rfl 25 (comC r (.slice a n ca) z nt) (0, 0) _ E3.out Try.underlying25 rfl (by rw [HS.out]; exact sizeLCom) ?_)
  refine (toCom r a n ca fl z nt HR.out hn _ (HIA.out.below B3.out)).mono ?_
  rintro e w4 ⟨g4, rfl, -, ho, hb⟩
  have B4 := Lib.hid (below_call B3.out B3.out.size hb)
  have E4 := Lib.hid (keep_block E3.out hb)
  have K4 := Lib.hid ho
  clear hb ho E3 B3
  have LB := layBC w4 (comC z32 (.slice none 0 0) 0 ⟨#[]⟩) (comC r (.slice (some ⟨g4, 0, none⟩) n n) z nt) 31
  have LN := layNC w4 (comC z32 (.slice none 0 0) 0 ⟨#[]⟩) (comC r (.slice (some ⟨g4, 0, none⟩) n n) z nt) 31
  have B5 := Lib.hid (below_call B4.out B4.out.size LB)
  have E5 := Lib.hid (keep_block E4.out LB)
  have K5 := Lib.hid (keep_block K4.out LB)
  have X5 := Lib.hid LN
  clear LB LN
  rw [CZ.out] at B5 E5 K5 X5
  go_upto_region 7 with (refine wpList_store_row rfl 31 _ _ rfl w4.heap.size (comC r (.slice (some ⟨g4, 0, none⟩) n n) z nt) rfl rfl 31 (comC z32 (.slice none 0 0) 0 ⟨#[]⟩) (by rw [CZ.out]; exact heap_alloc_last _ _) (by rw [HS.out]; exact sizeCom) (by rw [HS.out, comC_size _ _ _ z32_len]) (comC_one _ _ _ _ rfl) ?_)
  rw [← CZ.out] at B5 E5 K5 X5 ⊢
  generalize (w4.alloc (.cells (comC z32 (.slice none 0 0) 0 ⟨#[]⟩) 31)).setRow w4.heap.size (comC r (.slice (some ⟨g4, 0, none⟩) n n) z nt) = w5 at B5 E5 K5 X5 ⊢
  generalize w4.heap.size = x0 at X5 ⊢
  clear B4 E4 K4
  go_wp2_with (refine wpList_load_row rfl 31 _ rfl x0 rfl 31 (comC r (.slice (some ⟨g4, 0, none⟩) n n) z nt) (0, 0) _ X5.out Try.underlying31 rfl (by rw [HS.out]; exact sizeCom) ?_)
  refine (HIM.out g4 _ (rdk_blk HL.out K5.out)).mono ?_
  rintro e w6 ⟨rfl, hb⟩
  have B6 := Lib.hid (below_call B5.out B5.out.size hb)
  have E6 := Lib.hid (keep_block E5.out hb)
  have K6 := Lib.hid (keep_block K5.out hb)
  have X6 := Lib.hid (keep_block X5.out hb)
  clear hb E5 B5 K5 X5
  have hVV : (V != V) = false := by simp
  go_upto_region 10 with fail
  refine wp_region_held_drew (S := Below w6.heap.size w6) (by kernel_rfl) ((Below.refl _ _).drew) (fun hS => ?_)
  refine takeS (i := 0) (v := .agg (comC r (.slice (some ⟨g4, 0, none⟩) n n) z nt)) rfl rfl (by kernel_rfl) (by kernel_rfl) (by kernel_rfl) (fun _ _ _ h => h) (yields_rowC (by rfl) 31 _ rfl x0 rfl (comC r (.slice (some ⟨g4, 0, none⟩) n n) z nt) 31 _ (fun U hU => keep_block X6.out hU) Try.underlying31 rfl (by rw [HS.out]; exact sizeCom)) hS ?_
  try simp only [List.setIfInBounds_toArray, List.set_cons_zero, List.set_cons_succ]
  refine takeS (i := 1) (v := .agg (comC r (.slice a n ca) z nt)) rfl rfl (by kernel_rfl) (by kernel_rfl) (by kernel_rfl) (fun _ _ _ h => h) (yields_rowC (by rfl) 25 _ rfl w.heap.size rfl (comC r (.slice a n ca) z nt) 25 _ (fun U hU => keep_block E6.out hU) Try.underlying25 rfl (by rw [HS.out]; exact sizeLCom)) hS ?_
  try simp only [List.setIfInBounds_toArray, List.set_cons_zero, List.set_cons_succ]
  refine wpAnyH_ready (rs := [2]) (by kernel_rfl) (by simp) ?_
  refine AllReadyH.cons rfl (fun KQ hK => ?_) AllReadyH.nil
  rw [if_pos (by rfl)]
  go_simp
  refine (toCom r a n ca fl z nt HR.out hn _ (HIA.out.below ((B6.out).trans (hS.mono B6.out.size)))).mono ?_
  rintro e u5 ⟨g5, rfl, -, ho, hb⟩
  have OA := Lib.hid (rdk_blk HL.out ho)
  have OB := Lib.hid ((rdk_blk HL.out K6.out).below (below_call hS hS.size hb))
  refine hK.out _ _ (below_call hS hS.size hb) (fun hS => ?_)
  clear hb hK ho
  refine wpAnyH_ready (rs := [3]) (by kernel_rfl) (by simp) ?_
  refine AllReadyH.cons rfl (fun KQ hK => ?_) AllReadyH.nil
  rw [if_pos (by rfl)]
  go_simp
  refine (eqCom r _ _ n n n fl z nt HR.out hn _ OB.out OA.out).mono ?_
  rintro e u6 ⟨rfl, hb⟩
  refine hK.out _ _ (below_call hS hS.size hb) (fun hS => ?_)
  clear hb hK OA OB
  refine takeS (i := 4) (v := .bool false) rfl rfl (by kernel_rfl) (by kernel_rfl) (by kernel_rfl) (fun _ _ _ h => h) (Or.inl ⟨by rfl, fun U hU => by go_simp⟩) hS ?_
  try simp only [List.setIfInBounds_toArray, List.set_cons_zero, List.set_cons_succ]
  refine wpAnyH_done (by kernel_rfl) ?_ _
  have B7 := Lib.hid (below_call B6.out B6.out.size hS)
  clear hS
  go_wp2_with fail
  go_ret
  exact ⟨rfl, B7.out⟩
theorem FnExactValidCommit_walk (r : List Int) (a : Option Addr) (n ca : Nat) (fl : List Int) (z : Int) (nt : ByteArray) (w : World) (f : r.length = 32 ∧ ∀ y ∈ r, 0 ≤ y ∧ y ≤ 255) (g : IsKeys w a n fl) (h : nt.size ≤ maxLen) :
    Calls Try.prog 3 #[.agg (comC r (.slice a n ca) z nt)] w fun e w' => e = .returned (.bool true) ∧ Below w.heap.size w w' :=
  FnExactValidCommit_in r a n ca fl z nt f.1 w g h (okCb n z nt fl) (fun q U hn hk => vc_spec r _ n n fl z nt f.1 hn h U hk) (fun q U hn hk => vc_impl r _ n n fl z nt f.1 hn h g.2.2 U hk)
end Go.Proofs.Ytnnplebebhjfaaa
