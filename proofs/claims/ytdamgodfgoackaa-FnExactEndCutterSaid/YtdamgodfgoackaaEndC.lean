/- EndCutter: both programs. -/
import Derived.Test.YtdamgodfgoackaaMarkO
import Derived.Test.YtdamgodfgoackaaVcut
import Derived.Test.YtdamgodfgoackaaVspec
import Derived.Test.YtdamgodfgoackaaLast
namespace Go.Proofs.Ytdamgodfgoackaa
open Go.ChangeShapes Go.WideShapes Go.ChangeAt Go.RowKit
set_option linter.unusedVariables false
def endN (V : Bool) (N : Nat) : Nat := if V then N else 0
def endL (V : Bool) (L : List Int) : List Int := if V then L else []
def endE (V : Bool) : Int := if V then 0 else 1
set_option maxRecDepth 100000 in
set_option maxHeartbeats 2000000 in
theorem endcut_impl (b off N cap : Nat) (lo mo bi q : Int) (L : List Int) (fl : ∀ z ∈ L, 0 ≤ z ∧ z ≤ 255) (hN : N ≤ 1048576) (hcap : N ≤ cap) (hcap2 : cap ≤ maxLen) (w : World) (hr : Rd .u8 w (some ⟨b, off, none⟩) N L) :
    Calls Try.prog 62 #[.agg #[.int .i64 lo, .int .i64 mo, .int .i64 bi, .int .u32 q, .slice (some ⟨b, off, none⟩) N cap]] w fun e w' => ∃ v, e = .returned (.tuple #[v, .int .i64 (endE (fitP lo mo bi q L))]) ∧ w'.ownsRow w.heap.size 5 1 v (endN (fitP lo mo bi q L) N) ((endL (fitP lo mo bi q L) L).map (Value.int .u8)) ∧ Below w.heap.size w w' := by
  have Hr := Lib.hid hr
  have Hv := Lib.hid (fun W h => validcut_impl (some ⟨b, off, none⟩) N cap lo mo bi q L fl hN hcap hcap2 W h)
  have Hc := Lib.hid (fun W h => clone_impl b off N cap L hN W h)
  have G1 := Lib.hid (heap_alloc_last w (.cells #[.int .i64 lo, .int .i64 mo, .int .i64 bi, .int .u32 q, .slice (some ⟨b, off, none⟩) N cap] 64))
  have HB := Lib.hid ((Below.refl w.heap.size w).alloc (Nat.le_refl _) (.cells #[.int .i64 lo, .int .i64 mo, .int .i64 bi, .int .u32 q, .slice (some ⟨b, off, none⟩) N cap] 64))
  clear hr fl
  cases hv : fitP lo mo bi q L
  · rw [hv] at Hv
    clear hv
    go_enter Try.func62, Try.ntmps62
    go_wp2_with (refine wpList_load_row rfl 64 _ rfl w.heap.size rfl 64 #[.int .i64 lo, .int .i64 mo, .int .i64 bi, .int .u32 q, .slice (some ⟨b, off, none⟩) N cap] (0, 0) _ G1.out Try.underlying64 rfl sizeCi ?_)
    refine (Hv.out _ (Hr.out.below HB.out)).mono ?_
    rintro e w1 ⟨rfl, hb⟩
    have B1 := Lib.hid (below_call HB.out HB.out.size hb)
    clear hb
    go_wp2_with fail
    go_ret2
    exact ⟨_, rfl, World.ownsRow_nil _ _ _ _, B1.out⟩
  · rw [hv] at Hv
    clear hv
    go_enter Try.func62, Try.ntmps62
    go_wp2_with (refine wpList_load_row rfl 64 _ rfl w.heap.size rfl 64 #[.int .i64 lo, .int .i64 mo, .int .i64 bi, .int .u32 q, .slice (some ⟨b, off, none⟩) N cap] (0, 0) _ G1.out Try.underlying64 rfl sizeCi ?_)
    refine (Hv.out _ (Hr.out.below HB.out)).mono ?_
    rintro e w1 ⟨rfl, hb⟩
    have B1 := Lib.hid (below_call HB.out HB.out.size hb)
    have c4 : w1.cell? ⟨w.heap.size, 4, none⟩ = some (.slice (some ⟨b, off, none⟩) N cap) := cell_of_row _ _ 4 _ _ _ (keep_block G1.out hb)
    clear hb
    go_wp2_with fail
    refine (Hc.out _ (Hr.out.below B1.out)).mono ?_
    rintro e w2 ⟨v, rfl, hown, hb⟩
    have B2 := Lib.hid (below_call B1.out B1.out.size hb)
    have O2 := Lib.hid (owns_base B1.out.size hown)
    clear hb hown
    go_wp2_with fail
    go_ret2
    exact ⟨v, rfl, O2.out, B2.out⟩
set_option maxRecDepth 100000 in
set_option maxHeartbeats 2000000 in
theorem endcut_spec (b off N cap : Nat) (lo mo bi q : Int) (L : List Int) (fl : ∀ z ∈ L, 0 ≤ z ∧ z ≤ 255) (hN : N ≤ 1048576) (w : World) (hr : Rd .u8 w (some ⟨b, off, none⟩) N L) :
    Calls Try.prog 61 #[.agg #[.int .i64 lo, .int .i64 mo, .int .i64 bi, .int .u32 q, .slice (some ⟨b, off, none⟩) N cap]] w fun e w' => ∃ v, e = .returned (.tuple #[v, .int .i64 (endE (fitP lo mo bi q L))]) ∧ w'.ownsRow w.heap.size 5 1 v (endN (fitP lo mo bi q L) N) ((endL (fitP lo mo bi q L) L).map (Value.int .u8)) ∧ Below w.heap.size w w' := by
  have Hr := Lib.hid hr
  have Hv := Lib.hid (fun W h0 h1 h2 h3 h4 h5 => cutter_ok w.heap.size (some ⟨b, off, none⟩) N cap lo mo bi q L fl hN W h0 h1 h2 h3 h4 h5)
  have G1 := Lib.hid (heap_alloc_last w (.cells #[.int .i64 lo, .int .i64 mo, .int .i64 bi, .int .u32 q, .slice (some ⟨b, off, none⟩) N cap] 64))
  have HB := Lib.hid ((Below.refl w.heap.size w).alloc (Nat.le_refl _) (.cells #[.int .i64 lo, .int .i64 mo, .int .i64 bi, .int .u32 q, .slice (some ⟨b, off, none⟩) N cap] 64))
  clear hr fl
  cases hv : fitP lo mo bi q L
  · rw [hv] at Hv
    clear hv
    go_enter Try.func61, Try.ntmps61
    go_wp2_with fail
    refine (Hv.out _ (cell_of_row _ _ 0 _ _ _ G1.out) (cell_of_row _ _ 1 _ _ _ G1.out) (cell_of_row _ _ 2 _ _ _ G1.out) (cell_of_row _ _ 3 _ _ _ G1.out) (cell_of_row _ _ 4 _ _ _ G1.out) (Hr.out.below HB.out)).mono ?_
    rintro e w1 ⟨rfl, hb⟩
    have B1 := Lib.hid (below_call HB.out HB.out.size hb)
    have O1 := Lib.hid (show (w1.alloc (.cells #[] 5)).ownsRow w.heap.size 5 1 (.slice (some ⟨w1.heap.size, 0, none⟩) 0 0) 0 [] from ⟨rfl, Or.inr ⟨w1.heap.size, 0, #[], rfl, B1.out.size, heap_alloc_last _ _, by omega, by unfold maxLen; omega, rfl, rfl⟩⟩)
    clear hb
    go_wp2_with fail
    go_ret2
    exact ⟨_, rfl, O1.out, B1.out.alloc B1.out.size _⟩
  · rw [hv] at Hv
    clear hv
    go_enter Try.func61, Try.ntmps61
    go_wp2_with fail
    refine (Hv.out _ (cell_of_row _ _ 0 _ _ _ G1.out) (cell_of_row _ _ 1 _ _ _ G1.out) (cell_of_row _ _ 2 _ _ _ G1.out) (cell_of_row _ _ 3 _ _ _ G1.out) (cell_of_row _ _ 4 _ _ _ G1.out) (Hr.out.below HB.out)).mono ?_
    rintro e w1 ⟨rfl, hb⟩
    have B1 := Lib.hid (below_call HB.out HB.out.size hb)
    have G2 := keep_block G1.out hb
    have c4 : (w1.alloc (.cells #[] 5)).cell? ⟨w.heap.size, 4, none⟩ = some (.slice (some ⟨b, off, none⟩) N cap) := cell_of_row _ _ 4 _ _ _ (keep_block G2 ((Below.refl w1.heap.size w1).alloc (Nat.le_refl _) (.cells #[] 5)))
    have O1 := Lib.hid (show (w1.alloc (.cells #[] 5)).ownsRow w.heap.size 5 1 (.slice (some ⟨w1.heap.size, 0, none⟩) 0 0) 0 [] from ⟨rfl, Or.inr ⟨w1.heap.size, 0, #[], rfl, B1.out.size, heap_alloc_last _ _, by omega, by unfold maxLen; omega, rfl, rfl⟩⟩)
    have B2 := Lib.hid (B1.out.alloc B1.out.size (.cells #[] 5))
    clear hb G2
    go_wp2_with (refine wpList_append_rd rfl _ _ rfl w.heap.size _ 0 [] rfl O1.out (some ⟨b, off, none⟩) N cap L rfl (Hr.out.below B2.out) (by omega) B2.out.size ?_; intro v1 w3 hown hb3)
    go_ret2
    refine ⟨v1, rfl, ?_, B2.out.trans hb3⟩
    have := hown
    rw [Nat.zero_add, List.nil_append] at this
    exact this
end Go.Proofs.Ytdamgodfgoackaa
