/- The statement on FnExactFindKey: its walk. Written by wip/gen/keylaw.py. -/
import Derived.Test.YtdoelmjaongjfabFkW
import Derived.Test.YtdoelmjaongjfabKeys
import Derived.Test.YtdoelmjaongjfabKeep
import Derived.Test.YtdoelmjaongjfabBytes
namespace Go.Proofs.Ytdoelmjaongjfab
open Go.ChangeShapes Go.WideShapes Go.ChangeAt Go.RowKit
set_option linter.unusedVariables false
set_option maxRecDepth 100000 in
set_option maxHeartbeats 2000000 in
theorem FnExactFindKey_in (a : Option Addr) (n cap : Nat) (s : ByteArray) (fl : List Int) (hn : n ≤ 1048576) (fb : ∀ z ∈ fl, 0 ≤ z ∧ z ≤ 255) (w : World) (hr : RdK w a n fl) (hsm : s.size ≤ maxLen) (hsb : s.size ≤ 1048576) :
    Calls Try.prog 4 #[.slice a n cap, .string s] w fun e w' => e = .returned (.bool true) ∧ Below w.heap.size w w' := by
  have Hz := Lib.hid z32_ints
  have zs : ¬ (1048576 : Int) < (s.size : Int) := by omega
  have Hr := Lib.hid hr
  have Hl := Lib.hid hr.1
  have Hs := Lib.hid (fun (b : Option Addr) (W : World) h => find_spec b n n fl s (by unfold maxLen; omega) hsm fb W h)
  have Hi := Lib.hid (fun (b : Option Addr) (W : World) h => find_impl b n n fl s (by unfold maxLen; omega) hsm fb W h)
  have Hvl := Lib.hid (fdV_len fl n s)
  clear hr fb hsm
  generalize fdV fl n s = V at Hs Hi Hvl
  generalize fdE fl n s = E at Hs Hi
  go_enter Try.func4, Try.ntmps4
  go_wp2_with fail
  refine (szKS_in a n cap 1048576 (by omega) (by omega) (by omega) _).mono ?_
  rintro e v0 ⟨rfl, rfl⟩
  go_wp2_with fail
  refine (toKS a n cap fl hn _ Hr.out).mono ?_
  rintro e w1 ⟨rfl, hg, hb⟩
  have L1 := Lib.hid hb
  have X1 := Lib.hid hg
  clear hb hg
  go_wp2_with fail
  refine (Hs.out _ _ (RdK.row Hl.out X1.out)).mono ?_
  rintro e w2 ⟨rfl, hb⟩
  have L2 := Lib.hid (below_call L1.out L1.out.size hb)
  clear hb X1
  have L3 := Lib.hid (below_call L2.out L2.out.size (laid_below w2 (ints .u8 z32) (ints .u8 V) 32))
  have N3 := Lib.hid (laid_new w2 (ints .u8 z32) (ints .u8 V) 32)
  go_wp2_with ((refine wpList_store_row rfl 32 (.tmp 6) _ rfl w2.heap.size (ints .u8 V) rfl rfl 32 (ints .u8 z32) (by rw [Hz.out]; exact heap_alloc_last _ _) (by rw [ints_size, Hvl.out]; exact sizeKey) (by rw [ints_size, ints_size, Hvl.out]; rfl) (ints_one _ _) ?_))
  rw [← Hz.out]
  generalize (w2.alloc (.cells (ints .u8 z32) 32)).setRow w2.heap.size (ints .u8 V) = W3 at L3 N3 ⊢
  generalize w2.heap.size = g4 at N3 ⊢
  refine (toKS a n cap fl hn _ (Hr.out.below L3.out)).mono ?_
  rintro e w4 ⟨rfl, hg, hb⟩
  have L4 := Lib.hid (below_call L3.out L3.out.size hb)
  have N4 := Lib.hid (keep_block N3.out hb)
  have X4 := Lib.hid hg
  clear hb hg N3
  generalize W3.heap.size = g6 at X4 ⊢
  go_wp2_with fail
  refine (Hi.out _ _ (RdK.row Hl.out X4.out)).mono ?_
  rintro e w5 ⟨rfl, hb⟩
  have L5 := Lib.hid (below_call L4.out L4.out.size hb)
  have N5 := Lib.hid (keep_block N4.out hb)
  have X5 := Lib.hid (keep_block X4.out hb)
  clear hb N4 X4
  have L6 := Lib.hid (below_call L5.out L5.out.size (laid_below w5 (ints .u8 z32) (ints .u8 V) 32))
  have M6 := Lib.hid (laid_new w5 (ints .u8 z32) (ints .u8 V) 32)
  have N6 := Lib.hid (laid_old (ints .u8 z32) (ints .u8 V) 32 N5.out)
  have X6 := Lib.hid (laid_old (ints .u8 z32) (ints .u8 V) 32 X5.out)
  clear N5 X5
  go_wp2_with (first | (refine wpList_store_row rfl 32 (.tmp 9) _ rfl w5.heap.size (ints .u8 V) rfl rfl 32 (ints .u8 z32) (by rw [Hz.out]; exact heap_alloc_last _ _) (by rw [ints_size, Hvl.out]; exact sizeKey) (by rw [ints_size, ints_size, Hvl.out]; rfl) (ints_one _ _) ?_) | (refine wpList_load_row rfl 32 (.tmp 9) rfl w5.heap.size rfl 32 (ints .u8 V) (0, 0) _ (by rw [← Hz.out]; exact M6.out) Try.underlying32 rfl (by rw [ints_size, Hvl.out]; exact sizeKey) ?_) | (refine wpList_load_row rfl 32 (.tmp 6) rfl g4 rfl 32 (ints .u8 V) (0, 0) _ (by rw [← Hz.out]; exact N6.out) Try.underlying32 rfl (by rw [ints_size, Hvl.out]; exact sizeKey) ?_))
  rw [← Hz.out]
  generalize (w5.alloc (.cells (ints .u8 z32) 32)).setRow w5.heap.size (ints .u8 V) = W6 at L6 M6 N6 X6 ⊢
  refine (eqKey_ V Hvl.out _).mono ?_
  rintro e w7 ⟨rfl, hb⟩
  have L7 := Lib.hid (below_call L6.out L6.out.size hb)
  have X7 := Lib.hid (keep_block X6.out hb)
  clear hb
  go_wp2_with fail
  refine (toKS a n cap fl hn _ (Hr.out.below L7.out)).mono ?_
  rintro e w8 ⟨rfl, hg, hb⟩
  have L8 := Lib.hid (below_call L7.out L7.out.size hb)
  have X8 := Lib.hid (keep_block X7.out hb)
  have Y8 := Lib.hid hg
  clear hb hg
  go_wp2_with fail
  refine (eqKS _ _ n n n fl hn _ (RdK.row Hl.out X8.out) (RdK.row Hl.out Y8.out)).mono ?_
  rintro e w9 ⟨rfl, hb⟩
  have L9 := Lib.hid (below_call L8.out L8.out.size hb)
  clear hb
  go_wp2
  go_ret
  exact ⟨rfl, L9.out⟩
set_option maxRecDepth 100000 in
set_option maxHeartbeats 1000000 in
theorem FnExactFindKey_out (a : Option Addr) (n cap : Nat) (s : ByteArray) (hm : n ≤ maxLen) (hn : ¬ n ≤ 1048576) (hsb : s.size ≤ 1048576) (w : World) :
    Calls Try.prog 4 #[.slice a n cap, .string s] w fun e w' => e = .returned (.bool true) ∧ Below w.heap.size w w' := by
  unfold maxLen at hm
  have h1 : (1048576 : Int) < (n : Int) := by omega
  have zs : ¬ (1048576 : Int) < (s.size : Int) := by omega
  go_enter Try.func4, Try.ntmps4
  go_wp2_with fail
  refine (szKS_out a n cap 1048576 (by omega) (by omega) hm h1 _).mono ?_
  rintro e v0 ⟨rfl, rfl⟩
  go_wp2
  go_ret
  exact ⟨rfl, Below.refl _ _⟩
set_option maxRecDepth 100000 in
theorem FnExactFindKey_long (a : Option Addr) (n cap : Nat) (s : ByteArray) (hm : s.size ≤ maxLen) (hsb : ¬ s.size ≤ 1048576) (w : World) :
    Calls Try.prog 4 #[.slice a n cap, .string s] w fun e w' => e = .returned (.bool true) ∧ Below w.heap.size w w' := by
  unfold maxLen at hm
  have zs : (1048576 : Int) < (s.size : Int) := by omega
  go_enter Try.func4, Try.ntmps4
  go_wp2_with fail
  go_ret
  exact ⟨rfl, Below.refl _ _⟩
theorem FnExactFindKey_walk (a : Option Addr) (n cap : Nat) (fl : List Int) (s : ByteArray) (w : World) (f : IsKeys w a n fl) (f_m : s.size ≤ maxLen) :
    Calls Try.prog 4 #[.slice a n cap, .string s] w fun e w' => e = .returned (.bool true) ∧ Below w.heap.size w w' := by
  by_cases hsb : s.size ≤ 1048576
  · by_cases hn : n ≤ 1048576
    · exact FnExactFindKey_in a n cap s fl hn f.2.2 w f.2.1 f_m hsb
    · exact FnExactFindKey_out a n cap s f.1 hn hsb w
  · exact FnExactFindKey_long a n cap s f_m hsb w
end Go.Proofs.Ytdoelmjaongjfab
