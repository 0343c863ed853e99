/- PadBlocks, as the specification has it. -/
import Derived.Test.YtdamgodfgoackaaHashI
import Derived.Test.YtdamgodfgoackaaBlocks
namespace Go.Proofs.Ytdamgodfgoackaa
open Go.ChangeShapes Go.WideShapes Go.ChangeAt Go.RowKit
set_option linter.unusedVariables false
theorem owns_slc {w : World} {base size n : Nat} {e : TypeId} {v : Value} {xs : List Value} (h : w.ownsRow base e size v n xs) : ∃ a cap, v = .slice a n cap := by
  rcases h.2 with ⟨rfl, rfl⟩ | ⟨g, cap, cur, rfl, _⟩
  · exact ⟨none, 0, rfl⟩
  · exact ⟨_, cap, rfl⟩
theorem blk_take {L : List Int} {j : Nat} (h : 32 * j + 32 ≤ L.length) : L.take (32 * j) ++ blk L (32 * j) = L.take (32 * (j + 1)) := by
  unfold blk
  rw [show 32 * (j + 1) = 32 * j + 32 by omega, List.take_add]
theorem wpList_buildSlice_one {P : Program} {ops : Array Oper} {rest : List Oper} {op : Oper} {a : Act} {w : World} {Q : Exit → Act → World → Prop} (hgd : op.guard = none) (t e : TypeId) (x : Operand) (ho : op.op = .buildSlice t 1 #[(0, x)])
    {i : TypeInfo} {z : Value} (hu : P.underlying t = some (.slice e)) (hi : P.info? e = some i) (hz : i.zero = some z) (v : Array Value) (hx : a.eval x = .agg v) (hs : v.size = i.size) (hb : i.size ≤ 2 ^ 24) (h0 : 0 < i.size)
    (h : wpList P ops Q rest (a.put op.dst (.slice (some ⟨w.heap.size, 0, none⟩) 1 1)) (w.alloc (.cells v e))) : wpList P ops Q (op :: rest) a w :=
  wpList_plain hgd fun K hK => by
    unfold Oper.wp execOp
    simp only [ho, List.map_toArray, List.map_cons, List.map_nil, hx, Sem.run_bind, Sem.run_pure, Result.andThen_ok, run_buildSlice_one hu hi hz v hs hb h0]
    exact hK _ _ h
set_option maxRecDepth 100000 in
set_option maxHeartbeats 2000000 in
theorem pads_spec (b off n cap : Nat) (l : List Int) (hn : n ≤ 4096) (w : World) (hl : l.length = n) (hb : b < w.heap.size) (hc : ∀ j, j < n → w.cell? ⟨b, off + j, none⟩ = some (.int .u8 (l[j]?.getD 0))) :
    Calls Try.prog 30 #[.slice (some ⟨b, off, none⟩) n cap] w fun e w' => ∃ v, e = .returned (.tuple #[v, .int .i64 0]) ∧ w'.ownsRow w.heap.size 23 32 v ((padL l n).length / 32) ((padL l n).map (Value.int .u8)) ∧ Below w.heap.size w w' := by
  obtain ⟨i0, z0, hi0, hz0, hz1, hs0, hb0⟩ := info_partsB
  have Hpad := Lib.hid ((pad_spec b off n cap l n (by omega) (by omega) (by omega) w hl hb hc).mono (fun e w' h => show ∃ g cp, e = .returned (.slice (some ⟨g, 0, none⟩) (padL l (n : Int)).length cp) ∧ Rd .u8 w' (some ⟨g, 0, none⟩) (padL l (n : Int)).length (padL l (n : Int)) ∧ Below w.heap.size w w' by
    obtain ⟨g, cp, cur, rfl, _, hh, ht, hb⟩ := h
    exact ⟨g, cp, rfl, rd_of_take hh ht, hb⟩))
  have Pm := Lib.hid (padL_mod l (n : Int))
  have Pn : Hid ((padL l (n : Int)).length ≤ 1048640) := Lib.hid (by rw [padL_len, hl]; unfold padN; omega)
  clear hl hb hc
  generalize padL l (n : Int) = L at Hpad Pm Pn
  have b0 : (n : Int) ≤ 4096 := by omega
  go_enter Try.func30, Try.ntmps30
  go_wp2_with fail
  refine Hpad.out.mono ?_
  rintro e w1 ⟨g, cp, rfl, hrd, hb⟩
  have B1 := Lib.hid hb
  have R1 := Lib.hid hrd
  clear hb hrd
  go_wp2_with fail
  go_loopw [5, 6] (fun v i wr => ∃ j : Nat, 32 * j ≤ L.length ∧ i = .int .i64 ((32 * j : Nat) : Int) ∧ (∃ a c, v = .slice a j c) ∧ wr.ownsRow w1.heap.size 23 32 v j ((L.take (32 * j)).map (Value.int .u8)) ∧ Below w1.heap.size w1 wr) (fun _ i _ => L.length - (intOf i).toNat)
  case atStart => exact ⟨0, by omega, rfl, ⟨_, _, rfl⟩, ⟨rfl, Or.inr ⟨w1.heap.size, 0, #[], rfl, Nat.le_refl _, heap_alloc_last _ _, by omega, by unfold maxLen; omega, rfl, rfl⟩⟩, (Below.refl _ _).alloc (Nat.le_refl _) _⟩
  case round =>
    obtain ⟨j, hj, rfl, ⟨a', c', rfl⟩, hown, hb⟩ := hrel
    have O2 := Lib.hid hown
    have B2 := Lib.hid hb
    clear hown hb
    by_cases hlt : 32 * j < L.length
    · have hp : 32 * j + 32 ≤ L.length := by have hq := Pm.out; omega
      have Hbl := Lib.hid (blk_len hp)
      have Hbk := Lib.hid (fun (W : World) h => block_spec (some ⟨g, 0, none⟩) L.length cp (32 * j) L Pn.out hp W h)
      have Htk := Lib.hid (blk_take hp)
      generalize blk L (32 * j) = K at Hbk Hbl Htk
      have hj2 : ((32 * j : Nat) : Int) < (L.length : Int) := by omega
      have hj3 : j ≤ 32770 := by have hq := Pn.out; omega
      generalize hJ : ((32 * j : Nat) : Int) = J at Hbk hj2
      have HJ := Lib.hid hJ
      have hJ0 : 0 ≤ J := by omega
      have hJ1 : J ≤ 1048640 := by have hq := Pn.out; omega
      clear hJ
      go_wp2_with fail
      refine (Hbk.out _ (R1.out.below B2.out)).mono ?_
      rintro e w3 ⟨rfl, hb⟩
      have B3 := Lib.hid (below_call B2.out B2.out.size hb)
      have O3 := Lib.hid (owns_below O2.out hb)
      clear hb
      go_wp2_with (first | (refine wpList_buildSlice_one rfl 46 23 _ rfl Try.underlying46 hi0 hz0 (ints .u8 K) rfl (by rw [ints_size, Hbl.out, hs0]) (by rw [hs0]; decide) (by rw [hs0]; decide) ?_) | (at_builtin; refine wpList_append_own _ rfl _ _ 46 rfl w1.heap.size 23 i0 z0 32 32 Try.underlying46 hi0 hz0 hs0 hb0 hz1 (by decide) _ j _ rfl (O3.out.alloc _) ⟨w3.heap.size, 0, none⟩ 1 1 (K.map (Value.int .u8)) rfl (by rw [List.length_map, Hbl.out]) ?c1 ?c2 ?c3 ?c4 ?c5 ?_))
      case c1 =>
        intro q u hu
        rw [addr_add]
        have hg := heap_alloc_last w3 (.cells (ints .u8 K) 23)
        rw [Nat.zero_add, cell_of_row _ w3.heap.size q _ _ _ hg, ← hu]
        simp [ints]
      case c2 =>
        intro u hu
        obtain ⟨z, _, rfl⟩ := List.mem_map.1 hu
        rfl
      case c3 => unfold maxLen; omega
      case c4 => omega
      case c5 => have := B3.out.size; simp; omega
      intro v4 w4 hown4 hgrow4 hnil4
      have B4 := Lib.hid ((B3.out.alloc B3.out.size (.cells (ints .u8 K) 23)).grown hgrow4 (by have := B3.out.size; simp; omega) (fun g e => (O3.out.lt g e).1))
      have O4 := Lib.hid (show w4.ownsRow w1.heap.size 23 32 v4 (j + 1) ((L.take (32 * (j + 1))).map (Value.int .u8)) by rw [← Htk.out, List.map_append]; simpa only [List.map_take] using hown4)
      obtain ⟨a4, c4, hv4⟩ := owns_slc hown4
      subst hv4
      clear hown4 hgrow4 hnil4
      go_wp2_with fail
      have HJ2 := HJ.out
      go_roundw
      case rel => exact ⟨j + 1, by omega, by go_num, ⟨_, _, rfl⟩, O4.out, B4.out⟩
      case measure => simp [intOf]; omega
    · have hjl : 32 * j = L.length := by omega
      have hj5 : L.length / 32 = j := by omega
      have O5 := Lib.hid (show wr.ownsRow w1.heap.size 23 32 (.slice a' j c') j (L.map (Value.int .u8)) by have := O2.out; rw [hjl, List.take_length] at this; exact this)
      generalize hJ : ((32 * j : Nat) : Int) = J
      have hJ2 : (L.length : Int) ≤ J := by omega
      clear hJ
      go_wp2_with fail
      go_ret2
      exact ⟨_, rfl, by rw [hj5]; exact owns_base B1.out.size O5.out, B1.out.trans (B2.out.mono B1.out.size)⟩
end Go.Proofs.Ytdamgodfgoackaa
