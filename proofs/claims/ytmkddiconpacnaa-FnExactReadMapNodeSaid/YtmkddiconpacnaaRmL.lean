/- The statement on ReadMapNode: its walk. Written by wip/gen/rml.py. -/
import Derived.Test.YtmkddiconpacnaaRmE
namespace Go.Proofs.Ytmkddiconpacnaa
open Go.ChangeShapes Go.WideShapes Go.ChangeAt Go.RowKit
set_option linter.unusedVariables false
set_option linter.unusedSimpArgs false
theorem rdb {w : World} {g n : Nat} {l : List Int} {T : TypeId} (hl : l.length = n) (h : w.heap[g]? = some (.cells (ints .u8 l) T)) : Rd .u8 w (some ⟨g, 0, none⟩) n l := by
  have := Rd.row h
  rw [hl] at this
  exact this
theorem toBS2 (a : Option Addr) (n cap : Nat) (l : List Int) (hn : n ≤ 1048576) (w : World) (hr : Rd .u8 w a n l) :
    Calls Try.prog 32 #[.slice a n cap] w fun e w' => e = .returned (.slice (some ⟨w.heap.size, 0, none⟩) n n) ∧ w'.heap[w.heap.size]? = some (.cells (ints .u8 l) 5) ∧ Below w.heap.size w w' :=
  (toBS a n cap l hn w hr).mono fun e w' ⟨he, hw⟩ => ⟨he, by rw [hw]; exact heap_alloc_last _ _, by rw [hw]; exact (Below.refl _ _).alloc (Nat.le_refl _) _⟩
set_option maxRecDepth 100000 in
set_option maxHeartbeats 8000000 in
theorem rml_in (a : Option Addr) (n cap : Nat) (l : List Int) (CC : Array Value) (EE : Int) (hsz : CC.size = 66) (hone : CC.all (·.oneCell') = true) (h : n ≤ 1048576) (w : World) (hr : Rd .u8 w a n l)
    (heq : ∀ U : World, Calls Try.prog 34 #[.agg CC, .agg CC] U fun e w' => e = .returned (.bool true) ∧ Below U.heap.size U w')
    (hs : ∀ (b : Option Addr) (U : World), Rd .u8 U b n l → Calls Try.prog 31 #[.slice b n n] U fun e w' => e = .returned (.tuple #[.agg CC, .int .i64 EE]) ∧ Below U.heap.size U w')
    (hi : ∀ (b : Option Addr) (U : World), Rd .u8 U b n l → Calls Try.prog 33 #[.slice b n n] U fun e w' => e = .returned (.tuple #[.agg CC, .int .i64 EE]) ∧ Below U.heap.size U w') :
    Calls Try.prog 5 #[.slice a n cap] w fun e w' => e = .returned (.bool true) ∧ Below w.heap.size w w' := by
  have HR := Lib.hid hr
  have HL := Lib.hid hr.1
  have HSP := Lib.hid hs
  have HIM := Lib.hid hi
  have HEQ := Lib.hid heq
  have HSC := Lib.hid hsz
  have HOC := Lib.hid hone
  have HZ := Lib.hid nodZ
  have HZS : Hid ((nodC z32 z32 ⟨#[]⟩ ⟨#[]⟩).size = 66) := Lib.hid (nodC_size _ _ z32_len z32_len)
  have B0 := Lib.hid (Below.refl w.heap.size w)
  have q0 : ¬ (1048576 : Int) < (n : Int) := by omega
  clear hr hs hi heq hsz hone
  go_enter Try.func5, Try.ntmps5
  go_wp2_with fail
  refine (toBS2 a n cap l h _ (HR.out.below B0.out)).mono ?_
  rintro e w1 ⟨rfl, hg, hb⟩
  have B1 := Lib.hid (below_call B0.out B0.out.size hb)
  have X1 := Lib.hid hg
  clear hg
  clear hb
  go_wp2_with fail
  refine (HSP.out _ _ (rdb HL.out X1.out)).mono ?_
  rintro e w2 ⟨rfl, hb⟩
  have B2 := Lib.hid (below_call B1.out B1.out.size hb)
  clear hb
  have LB := layB w2 (nodC z32 z32 ⟨#[]⟩ ⟨#[]⟩) CC 45
  have B3 := Lib.hid (below_call B2.out B2.out.size LB)
  have N3 := Lib.hid (layN w2 (nodC z32 z32 ⟨#[]⟩ ⟨#[]⟩) CC 45)
  clear LB
  go_wp2_with (first | (refine wpList_store_row rfl 45 (.tmp 3) _ rfl w2.heap.size CC rfl rfl 45 (nodC z32 z32 ⟨#[]⟩ ⟨#[]⟩) (by rw [HZ.out]; exact heap_alloc_last _ _) (by rw [HSC.out]; exact sizeNode) (by rw [HSC.out, HZS.out]) HOC.out ?_))
  rw [← HZ.out]
  generalize (w2.alloc (.cells (nodC z32 z32 ⟨#[]⟩ ⟨#[]⟩) 45)).setRow w2.heap.size CC = w3 at B3 N3  ⊢
  generalize w2.heap.size = gN at N3 ⊢
  refine (toBS2 a n cap l h _ (HR.out.below B3.out)).mono ?_
  rintro e w4 ⟨rfl, hg, hb⟩
  have B4 := Lib.hid (below_call B3.out B3.out.size hb)
  have N4 := Lib.hid (keep_block N3.out hb)
  have X4 := Lib.hid hg
  clear hg hb
  generalize w3.heap.size = gX at X4 ⊢
  go_wp2_with fail
  refine (HIM.out _ _ (rdb HL.out X4.out)).mono ?_
  rintro e w5 ⟨rfl, hb⟩
  have B5 := Lib.hid (below_call B4.out B4.out.size hb)
  have N5 := Lib.hid (keep_block N4.out hb)
  have X5 := Lib.hid (keep_block X4.out hb)
  clear hb
  have LB := layB w5 (nodC z32 z32 ⟨#[]⟩ ⟨#[]⟩) CC 45
  have B6 := Lib.hid (below_call B5.out B5.out.size LB)
  have N6 := Lib.hid (keep_block N5.out LB)
  have X6 := Lib.hid (keep_block X5.out LB)
  have M6 := Lib.hid (layN w5 (nodC z32 z32 ⟨#[]⟩ ⟨#[]⟩) CC 45)
  clear LB
  go_wp2_with (first | (refine wpList_store_row rfl 45 (.tmp 6) _ rfl w5.heap.size CC rfl rfl 45 (nodC z32 z32 ⟨#[]⟩ ⟨#[]⟩) (by rw [HZ.out]; exact heap_alloc_last _ _) (by rw [HSC.out]; exact sizeNode) (by rw [HSC.out, HZS.out]) HOC.out ?_) | (refine wpList_load_row rfl 45 (.tmp 6) rfl w5.heap.size rfl 45 CC (0, 0) _ (by rw [← HZ.out]; exact M6.out) Try.underlying45 rfl (by rw [HSC.out]; exact sizeNode) ?_) | (refine wpList_load_row rfl 45 (.tmp 3) rfl gN rfl 45 CC (0, 0) _ (by rw [← HZ.out]; exact N6.out) Try.underlying45 rfl (by rw [HSC.out]; exact sizeNode) ?_))
  rw [← HZ.out]
  generalize (w5.alloc (.cells (nodC z32 z32 ⟨#[]⟩ ⟨#[]⟩) 45)).setRow w5.heap.size CC = w6 at B6 M6 N6 X6 ⊢
  generalize w5.heap.size = gM at M6 ⊢
  refine (HEQ.out _).mono ?_
  rintro e w7 ⟨rfl, hb⟩
  have B7 := Lib.hid (below_call B6.out B6.out.size hb)
  have X7 := Lib.hid (keep_block X6.out hb)
  clear hb
  go_wp2_with fail
  refine (toBS2 a n cap l h _ (HR.out.below B7.out)).mono ?_
  rintro e w8 ⟨rfl, hg, hb⟩
  have B8 := Lib.hid (below_call B7.out B7.out.size hb)
  have X8 := Lib.hid (keep_block X7.out hb)
  have Y8 := Lib.hid hg
  clear hg
  clear hb
  go_wp2_with fail
  refine (eqBS _ _ n n n l h _ (rdb HL.out X8.out) (rdb HL.out Y8.out)).mono ?_
  rintro e w9 ⟨rfl, hb⟩
  have B9 := Lib.hid (below_call B8.out B8.out.size hb)
  have X9 := Lib.hid (keep_block X8.out hb)
  clear hb
  go_wp2
  go_ret
  exact ⟨rfl, B9.out⟩
set_option maxRecDepth 100000 in
set_option maxHeartbeats 2000000 in
theorem rml_out (a : Option Addr) (n cap : Nat) (hm : n ≤ maxLen) (h : ¬ n ≤ 1048576) (w : World) :
    Calls Try.prog 5 #[.slice a n cap] w fun e w' => e = .returned (.bool true) ∧ Below w.heap.size w w' := by
  unfold maxLen at hm
  have q0 : (1048576 : Int) < (n : Int) := by omega
  go_enter Try.func5, Try.ntmps5
  go_wp2
  go_ret
  exact ⟨rfl, Below.refl _ _⟩
theorem FnExactReadMapNode_walk (a : Option Addr) (n cap : Nat) (zs : List Int) (w : World) (f : IsRow .u8 w a n cap zs) :
    Calls Try.prog 5 #[.slice a n cap] w fun e w' => e = .returned (.bool true) ∧ Below w.heap.size w w' := by
  have hm := row_len f
  by_cases h : n ≤ 1048576
  · have fl : ∀ z ∈ zs.take n, 0 ≤ z ∧ z ≤ 255 := fun z hz => bounds_u8 (rd_wf f z hz)
    exact rml_in a n cap (zs.take n) (rnC (zs.take n)) (rnE (zs.take n)) rnC_size (rnC_one _) h w (rd_of_row f) (fun U => eqNodeC _ U) (fun b U hU => rm_spec b n n _ h (Nat.le_refl _) hm fl U hU) (fun b U hU => rm_impl b n n _ h (Nat.le_refl _) hm fl U hU)
  · exact rml_out a n cap hm h w
end Go.Proofs.Ytmkddiconpacnaa
