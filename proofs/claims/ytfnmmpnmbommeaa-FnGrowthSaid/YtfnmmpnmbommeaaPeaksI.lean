/- The peaks of a list, by the specification and by the program. Written by wip/gen/peaksi.py. -/
import Derived.Test.YtfnmmpnmbommeaaListK
import Derived.Test.YtfnmmpnmbommeaaStack
namespace Go.Proofs.Ytfnmmpnmbommeaa
open Go.ChangeShapes Go.WideShapes Go.ChangeAt Go.RowKit
set_option linter.unusedVariables false
/-- The keys of the greatest trees of r leaves, from the leaf q on. -/
def pks (kf : Nat → List Int) (q r : Nat) : List Int :=
  if h : r = 0 then [] else tkey kf q (half (r + 1)) ++ pks kf (q + half (r + 1)) (r - half (r + 1))
termination_by r
decreasing_by have := half_pos (r + 1); omega
/-- How many there are. -/
def pksN (r : Nat) : Nat := if h : r = 0 then 0 else pksN (r - half (r + 1)) + 1
termination_by r
decreasing_by have := half_pos (r + 1); omega
theorem pks_zero (kf : Nat → List Int) (q : Nat) : pks kf q 0 = [] := by rw [pks, dif_pos rfl]
theorem pks_pos (kf : Nat → List Int) (q r : Nat) (h : 0 < r) : pks kf q r = tkey kf q (half (r + 1)) ++ pks kf (q + half (r + 1)) (r - half (r + 1)) := by rw [pks, dif_neg (by omega)]
theorem pksN_zero : pksN 0 = 0 := by rw [pksN, dif_pos rfl]
theorem pksN_pos (r : Nat) (h : 0 < r) : pksN r = pksN (r - half (r + 1)) + 1 := by rw [pksN, dif_neg (by omega)]
theorem pksN_le : ∀ r, pksN r ≤ r := by
  intro r
  induction r using Nat.strongRecOn with
  | _ r ih =>
    by_cases h : r = 0
    · subst h; rw [pksN_zero]; exact Nat.le_refl _
    · have := half_pos (r + 1)
      have := ih (r - half (r + 1)) (by omega)
      rw [pksN_pos r (by omega)]
      omega
theorem pks_len {kf : Nat → List Int} : ∀ r q, (∀ i, i < r → (kf (q + i)).length = 32) → (pks kf q r).length = 32 * pksN r := by
  intro r
  induction r using Nat.strongRecOn with
  | _ r ih =>
    intro q hk
    by_cases h : r = 0
    · subst h; rw [pks_zero, pksN_zero]; rfl
    · have h1 := half_pos (r + 1)
      have h2 := half_lt (n := r + 1) (by omega)
      rw [pks_pos kf q r (by omega), pksN_pos r (by omega), List.length_append, tkey_len (by omega) (fun i hi => hk i (by omega)), ih _ (by omega) _ (fun i hi => by rw [Nat.add_assoc]; exact hk _ (by omega))]
      omega
theorem pks_range {kf : Nat → List Int} (hk : ∀ i, ∀ z ∈ kf i, 0 ≤ z ∧ z ≤ 255) : ∀ r q, ∀ z ∈ pks kf q r, 0 ≤ z ∧ z ≤ 255 := by
  intro r
  induction r using Nat.strongRecOn with
  | _ r ih =>
    intro q z hz
    by_cases h : r = 0
    · subst h; rw [pks_zero] at hz; exact absurd hz (by simp)
    · have h1 := half_pos (r + 1)
      rw [pks_pos kf q r (by omega), List.mem_append] at hz
      rcases hz with hz | hz
      · exact tkey_range (by omega) (fun i hi => hk _) z hz
      · exact ih _ (by omega) _ z hz
theorem part_spec (blk off n c q m : Nat) (fl : List Int) (h1 : 1 ≤ m) (hm : q + m ≤ n) (hn : n ≤ 1048576) (hc : m ≤ c) (hx : c ≤ maxLen) (fb : ∀ z ∈ fl, 0 ≤ z ∧ z ≤ 255) (w : World) (hr : RdK w (some ⟨blk, off, none⟩) n fl) :
    Calls Try.prog 80 #[.slice (some ⟨blk, off + q * 32, none⟩) m c] w fun e w' => e = .returned (.agg (ints .u8 (tkey (keyAt fl) q m))) ∧ Below w.heap.size w w' := by
  have h := key_spec m blk (off + q * 32) c ((fl.drop (32 * q)).take (32 * m)) w h1 (by omega) hc hx (fun z hz => fb z (List.mem_of_mem_drop (List.mem_of_mem_take hz))) ((hr.drop (by omega)).take (by omega))
  rwa [tkey_congr (kf := keyAt ((fl.drop (32 * q)).take (32 * m))) (kg := keyAt fl) m 0 q h1 (fun i hi => by rw [Nat.zero_add, keyAt_take hi, keyAt_drop])] at h
theorem part_impl (blk off n c q m : Nat) (fl : List Int) (h1 : 1 ≤ m) (hm : q + m ≤ n) (hn : n ≤ 1048576) (fb : ∀ z ∈ fl, 0 ≤ z ∧ z ≤ 255) (w : World) (hr : RdK w (some ⟨blk, off, none⟩) n fl) :
    Calls Try.prog 56 #[.slice (some ⟨blk, off + q * 32, none⟩) m c, .func (.func 51) #[] #[]] w fun e w' => e = .returned (.agg (ints .u8 (tkey (keyAt fl) q m))) ∧ Below w.heap.size w w' := by
  have h := leaves_impl blk (off + q * 32) m c ((fl.drop (32 * q)).take (32 * m)) h1 (by omega) (fun z hz => fb z (List.mem_of_mem_drop (List.mem_of_mem_take hz))) w ((hr.drop (by omega)).take (by omega))
  rwa [tkey_congr (kf := keyAt ((fl.drop (32 * q)).take (32 * m))) (kg := keyAt fl) m 0 q h1 (fun i hi => by rw [Nat.zero_add, keyAt_take hi, keyAt_drop])] at h
set_option maxHeartbeats 1000000 in
theorem greatest_spec (n : Nat) (h0 : 0 < n) (hn : n ≤ 1048575) (w : World) :
    Calls Try.prog 112 #[.int .i64 (n : Int)] w fun e w' => e = .returned (.int .i64 (half (n + 1) : Nat)) ∧ w = w' := by
  have Hh := Lib.hid (fun W => half_spec (n + 1) (by omega) (by omega) W)
  have hc : ((n + 1 : Nat) : Int) = (n : Int) + 1 := by omega
  rw [hc] at Hh
  clear hc
  have h1 : (n : Int) ≤ 1048575 := by omega
  have h2 : (0 : Int) < (n : Int) := by omega
  go_enter Try.func112, Try.ntmps112
  go_wp2_with fail
  refine (Hh.out _).mono ?_
  rintro e w1 ⟨rfl, rfl⟩
  go_wp2
  go_ret
  exact ⟨rfl, rfl⟩
theorem owns_slc {w : World} {base size n : Nat} {e : TypeId} {v : Value} {xs : List Value} (h : w.ownsRow base e size v n xs) : ∃ a cap, v = .slice a n cap := by
  rcases h.2 with ⟨rfl, rfl⟩ | ⟨g, cap, cur, rfl, _⟩
  · exact ⟨none, 0, rfl⟩
  · exact ⟨_, cap, rfl⟩
theorem wpList_buildSlice_one {P : Program} {ops : Array Oper} {rest : List Oper} {op : Oper} {a : Act} {w : World} {Q : Exit → Act → World → Prop} (hgd : op.guard = none) (t e : TypeId) (x : Operand) (ho : op.op = .buildSlice t 1 #[(0, x)])
    {i : TypeInfo} {z : Value} (hu : P.underlying t = some (.slice e)) (hi : P.info? e = some i) (hz : i.zero = some z) (v : Array Value) (hx : a.eval x = .agg v) (hs : v.size = i.size) (hb : i.size ≤ 2 ^ 24) (h0 : 0 < i.size)
    (h : wpList P ops Q rest (a.put op.dst (.slice (some ⟨w.heap.size, 0, none⟩) 1 1)) (w.alloc (.cells v e))) : wpList P ops Q (op :: rest) a w :=
  wpList_plain hgd fun K hK => by
    unfold Oper.wp execOp
    simp only [ho, List.map_toArray, List.map_cons, List.map_nil, hx, Sem.run_bind, Sem.run_pure, Result.andThen_ok, run_buildSlice_one hu hi hz v hs hb h0]
    exact hK _ _ h
def lenV : Value → Nat
  | .slice _ n _ => n
  | _ => 0
set_option maxRecDepth 100000 in
set_option maxHeartbeats 8000000 in
theorem peaks_spec0 (a0 : Option Addr) (blk off n cap : Nat) (fl : List Int) (ha : 0 < n → a0 = some ⟨blk, off, none⟩) (hl : fl.length = 32 * n) (hn : n ≤ 1048575) (hc : n ≤ cap) (hm : cap ≤ maxLen) (fb : ∀ z ∈ fl, 0 ≤ z ∧ z ≤ 255) (w : World) (hr : 0 < n → RdK w (some ⟨blk, off, none⟩) n fl) :
    Calls Try.prog 82 #[.slice a0 n cap] w fun e w' => ∃ v, e = .returned v ∧ w'.ownsRow w.heap.size 29 32 v (pksN n) ((pks (keyAt fl) 0 n).map (Value.int .u8)) ∧ Below w.heap.size w w' := by
  have HLN := Lib.hid hl
  have HA := Lib.hid ha
  have HR := Lib.hid hr
  obtain ⟨i0, z0, hi, hz0, hz1, hz2, hzs, hzc⟩ := keyParts
  have Hi := Lib.hid hi
  clear hi hr ha hl
  go_enter Try.func82, Try.ntmps82
  go_wp2_with fail
  go_loopw [0, 3] (fun x v wr => ∃ q j r c : Nat, ∃ A pre, q + r = n ∧ j + pksN r = pksN n ∧ pre.length = 32 * j ∧ Hid (pre ++ pks (keyAt fl) q r = pks (keyAt fl) 0 n) ∧ x = .slice A r c ∧ (0 < r → A = some ⟨blk, off + q * 32, none⟩) ∧ r ≤ c ∧ c ≤ maxLen ∧ (∃ a c, v = .slice a j c) ∧ wr.ownsRow w.heap.size 29 32 v j (pre.map (Value.int .u8)) ∧ Below w.heap.size w wr) (fun x v _ => lenV x)
  case atStart => exact ⟨0, 0, n, cap, a0, [], by omega, by omega, rfl, Lib.hid rfl, rfl, fun h => by rw [HA.out h]; simp, hc, hm, ⟨_, _, rfl⟩, owns_empty w 29 32, (Below.refl _ _).alloc (Nat.le_refl _) _⟩
  case round =>
    obtain ⟨q, j, r, c, A, pre, hq, hj, hpl, HP, rfl, hA, hrc, hcm, ⟨a', c', rfl⟩, hown, hb⟩ := hrel
    have O2 := Lib.hid hown
    have B2 := Lib.hid hb
    have HPL := Lib.hid hpl
    have HJ := Lib.hid hj
    have HN := Lib.hid (pksN_le n)
    clear hown hb hpl hj
    by_cases hlt : 0 < r
    · obtain rfl := hA hlt
      have h1 := half_pos (r + 1)
      have h2 := half_lt (n := r + 1) (by omega)
      have Hg := Lib.hid (fun W => greatest_spec r hlt (by omega) W)
      have Hk := Lib.hid (fun (W : World) (h : Below w.heap.size w W) => part_spec blk off n c q (half (r + 1)) fl h1 (by omega) (by omega) (by omega) hcm fb W ((HR.out (by omega)).below h))
      have HJ2 := Lib.hid (pksN_pos r hlt)
      have HP2 := HP.out
      rw [pks_pos _ _ _ hlt, ← List.append_assoc] at HP2
      have HP3 := Lib.hid HP2
      have Hvl := Lib.hid (tkey_len (kf := keyAt fl) (b := q) (n := half (r + 1)) (by omega) (fun i hi => keyAt_len HLN.out (by omega)))
      clear HP HP2
      generalize tkey (keyAt fl) q (half (r + 1)) = K at Hk HP3 Hvl
      generalize half (r + 1) = m at *
      have d0 : (0 : Int) < (r : Int) := by omega
      have d1 : (m : Int) ≤ (r : Int) := by omega
      have d2 : (m : Int) ≤ (c : Int) := by omega
      have d3 : (0 : Int) ≤ (m : Int) := by omega
      have d4 : (r : Int) ≤ (c : Int) := by omega
      have hj3 : j ≤ 1048575 := by have := HN.out; have := HJ.out; have := HJ2.out; omega
      unfold maxLen at hcm
      go_wp2_with fail
      refine (Hg.out _).mono ?_
      rintro e w3 ⟨rfl, rfl⟩
      go_wp2_with fail
      refine (Hk.out _ (B2.out.mono (Nat.le_refl _))).mono ?_
      rintro e w3 ⟨rfl, hb⟩
      have B3 := Lib.hid (below_call B2.out B2.out.size hb)
      have O3 := Lib.hid (owns_below O2.out hb)
      clear hb
      go_wp2_with (first | (refine wpList_buildSlice_one rfl 24 29 _ rfl Try.underlying24 Hi.out hz0 (ints .u8 K) rfl (by rw [ints_size, Hvl.out, hz1]) (by rw [hz1]; decide) (by rw [hz1]; decide) ?_) | (at_builtin; refine wpList_append_own _ rfl _ _ 24 rfl (w.heap.size) 29 i0 z0 32 32 Try.underlying24 Hi.out hz0 hz1 hz2 hzs (by decide) _ j _ rfl (O3.out.alloc _) ⟨w3.heap.size, 0, none⟩ 1 1 (K.map (Value.int .u8)) rfl (by rw [List.length_map, Hvl.out]) ?c1 ?c2 ?c3 ?c4 ?c5 ?_))
      case c1 =>
        intro p u hu
        rw [addr_add]
        have hg := heap_alloc_last w3 (.cells (ints .u8 K) 29)
        rw [Nat.zero_add, cell_of_row _ w3.heap.size p _ _ _ hg, ← hu]
        simp [ints]
      case c2 =>
        intro u hu
        obtain ⟨z, _, rfl⟩ := List.mem_map.1 hu
        rfl
      case c3 => unfold maxLen; omega
      case c4 => omega
      case c5 => have := B3.out.size; simp; omega
      intro v4 w4 hown4 hgrow4 hnil4
      have B4 := Lib.hid ((B3.out.alloc B3.out.size (.cells (ints .u8 K) 29)).grown hgrow4 (by have := B3.out.size; simp; omega) (fun g e => (O3.out.lt g e).1))
      have O4 := Lib.hid (show w4.ownsRow (w.heap.size) 29 32 v4 (j + 1) ((pre ++ K).map (Value.int .u8)) by rw [List.map_append]; exact hown4)
      obtain ⟨a4, c4, hv4⟩ := owns_slc hown4
      subst hv4
      clear hown4 hgrow4 hnil4
      go_wp2_with fail
      go_roundw
      case rel => exact ⟨q + m, j + 1, r - m, c - m, _, pre ++ K, by omega, by have := HJ.out; have := HJ2.out; omega, by rw [List.length_append, HPL.out, Hvl.out]; omega, HP3, rfl, fun h => by first | (rw [if_neg (by omega)]; congr 2; omega) | (congr 2; omega) | (simp; omega), by omega, by unfold maxLen; omega, ⟨_, _, rfl⟩, O4.out, B4.out⟩
      case measure => simp [lenV]; omega
    · obtain rfl : r = 0 := by omega
      have HP2 := HP.out
      rw [pks_zero, List.append_nil] at HP2
      have hjn : pksN n = j := by have := HJ.out; rw [pksN_zero] at this; omega
      have HE := Lib.hid HP2
      have HJE := Lib.hid hjn
      clear HP HP2 hjn
      go_wp2_with fail
      go_ret
      exact ⟨_, rfl, by rw [← HE.out, HJE.out]; exact O2.out, B2.out⟩
set_option maxRecDepth 100000 in
set_option maxHeartbeats 8000000 in
theorem peaks_impl0 (a0 : Option Addr) (blk off n cap : Nat) (fl : List Int) (ha : 0 < n → a0 = some ⟨blk, off, none⟩) (hl : fl.length = 32 * n) (hn : n ≤ 256) (hc : n ≤ cap) (hm : cap ≤ maxLen) (fb : ∀ z ∈ fl, 0 ≤ z ∧ z ≤ 255) (w : World) (hr : 0 < n → RdK w (some ⟨blk, off, none⟩) n fl) :
    Calls Try.prog 19 #[.slice a0 n cap] w fun e w' => ∃ v, e = .returned (.tuple #[v, .int .i64 0]) ∧ w'.ownsRow w.heap.size 29 32 v (pksN n) ((pks (keyAt fl) 0 n).map (Value.int .u8)) ∧ Below w.heap.size w w' := by
  have HLN := Lib.hid hl
  have HA := Lib.hid ha
  have HR := Lib.hid hr
  obtain ⟨i0, z0, hi, hz0, hz1, hz2, hzs, hzc⟩ := keyParts
  have Hi := Lib.hid hi
  clear hi hr ha hl
  have hn2 : (n : Int) ≤ 256 := by omega
  go_enter Try.func19, Try.ntmps19
  go_wp2_with fail
  go_loopw [4, 5] (fun v x wr => ∃ q j r c : Nat, ∃ A pre, q + r = n ∧ j + pksN r = pksN n ∧ pre.length = 32 * j ∧ Hid (pre ++ pks (keyAt fl) q r = pks (keyAt fl) 0 n) ∧ x = .slice A r c ∧ (0 < r → A = some ⟨blk, off + q * 32, none⟩) ∧ r ≤ c ∧ c ≤ maxLen ∧ (∃ a c, v = .slice a j c) ∧ wr.ownsRow w.heap.size 29 32 v j (pre.map (Value.int .u8)) ∧ Below w.heap.size w wr) (fun v x _ => lenV x)
  case atStart => exact ⟨0, 0, n, cap, a0, [], by omega, by omega, rfl, Lib.hid rfl, rfl, fun h => by rw [HA.out h]; simp, hc, hm, ⟨_, _, rfl⟩, World.ownsRow_nil _ _ _ _, Below.refl _ _⟩
  case round =>
    obtain ⟨q, j, r, c, A, pre, hq, hj, hpl, HP, rfl, hA, hrc, hcm, ⟨a', c', rfl⟩, hown, hb⟩ := hrel
    have O2 := Lib.hid hown
    have B2 := Lib.hid hb
    have HPL := Lib.hid hpl
    have HJ := Lib.hid hj
    have HN := Lib.hid (pksN_le n)
    clear hown hb hpl hj
    by_cases hlt : 0 < r
    · obtain rfl := hA hlt
      have h1 := half_pos (r + 1)
      have h2 := half_lt (n := r + 1) (by omega)
      have Hg := Lib.hid (fun W => power_impl r hlt (by omega) W)
      have Hk := Lib.hid (fun (W : World) (h : Below w.heap.size w W) => part_impl blk off n c q (half (r + 1)) fl h1 (by omega) (by omega) fb W ((HR.out (by omega)).below h))
      have HJ2 := Lib.hid (pksN_pos r hlt)
      have HP2 := HP.out
      rw [pks_pos _ _ _ hlt, ← List.append_assoc] at HP2
      have HP3 := Lib.hid HP2
      have Hvl := Lib.hid (tkey_len (kf := keyAt fl) (b := q) (n := half (r + 1)) (by omega) (fun i hi => keyAt_len HLN.out (by omega)))
      clear HP HP2
      generalize tkey (keyAt fl) q (half (r + 1)) = K at Hk HP3 Hvl
      generalize half (r + 1) = m at *
      have d0 : (0 : Int) < (r : Int) := by omega
      have d1 : (m : Int) ≤ (r : Int) := by omega
      have d2 : (m : Int) ≤ (c : Int) := by omega
      have d3 : (0 : Int) ≤ (m : Int) := by omega
      have d4 : (r : Int) ≤ (c : Int) := by omega
      have hj3 : j ≤ 1048575 := by have := HN.out; have := HJ.out; have := HJ2.out; omega
      unfold maxLen at hcm
      go_wp2_with fail
      refine (Hg.out _).mono ?_
      rintro e w3 ⟨rfl, rfl⟩
      go_wp2_with fail
      refine (Hk.out _ (B2.out.mono (Nat.le_refl _))).mono ?_
      rintro e w3 ⟨rfl, hb⟩
      have B3 := Lib.hid (below_call B2.out B2.out.size hb)
      have O3 := Lib.hid (owns_below O2.out hb)
      clear hb
      go_wp2_with (first | (refine wpList_buildSlice_one rfl 24 29 _ rfl Try.underlying24 Hi.out hz0 (ints .u8 K) rfl (by rw [ints_size, Hvl.out, hz1]) (by rw [hz1]; decide) (by rw [hz1]; decide) ?_) | (at_builtin; refine wpList_append_own _ rfl _ _ 24 rfl (w.heap.size) 29 i0 z0 32 32 Try.underlying24 Hi.out hz0 hz1 hz2 hzs (by decide) _ j _ rfl (O3.out.alloc _) ⟨w3.heap.size, 0, none⟩ 1 1 (K.map (Value.int .u8)) rfl (by rw [List.length_map, Hvl.out]) ?c1 ?c2 ?c3 ?c4 ?c5 ?_))
      case c1 =>
        intro p u hu
        rw [addr_add]
        have hg := heap_alloc_last w3 (.cells (ints .u8 K) 29)
        rw [Nat.zero_add, cell_of_row _ w3.heap.size p _ _ _ hg, ← hu]
        simp [ints]
      case c2 =>
        intro u hu
        obtain ⟨z, _, rfl⟩ := List.mem_map.1 hu
        rfl
      case c3 => unfold maxLen; omega
      case c4 => omega
      case c5 => have := B3.out.size; simp; omega
      intro v4 w4 hown4 hgrow4 hnil4
      have B4 := Lib.hid ((B3.out.alloc B3.out.size (.cells (ints .u8 K) 29)).grown hgrow4 (by have := B3.out.size; simp; omega) (fun g e => (O3.out.lt g e).1))
      have O4 := Lib.hid (show w4.ownsRow (w.heap.size) 29 32 v4 (j + 1) ((pre ++ K).map (Value.int .u8)) by rw [List.map_append]; exact hown4)
      obtain ⟨a4, c4, hv4⟩ := owns_slc hown4
      subst hv4
      clear hown4 hgrow4 hnil4
      go_wp2_with fail
      go_roundw
      case rel => exact ⟨q + m, j + 1, r - m, c - m, _, pre ++ K, by omega, by have := HJ.out; have := HJ2.out; omega, by rw [List.length_append, HPL.out, Hvl.out]; omega, HP3, rfl, fun h => by first | (rw [if_neg (by omega)]; congr 2; omega) | (congr 2; omega) | (simp; omega), by omega, by unfold maxLen; omega, ⟨_, _, rfl⟩, O4.out, B4.out⟩
      case measure => simp [lenV]; omega
    · obtain rfl : r = 0 := by omega
      have HP2 := HP.out
      rw [pks_zero, List.append_nil] at HP2
      have hjn : pksN n = j := by have := HJ.out; rw [pksN_zero] at this; omega
      have HE := Lib.hid HP2
      have HJE := Lib.hid hjn
      clear HP HP2 hjn
      go_wp2_with fail
      go_ret2
      exact ⟨_, rfl, by rw [← HE.out, HJE.out]; exact O2.out, B2.out⟩
def peaksN (n : Nat) : Nat := if 256 < n then 0 else pksN n
def peaksV (fl : List Int) (n : Nat) : List Int := if 256 < n then [] else pks (keyAt fl) 0 n
def peaksE (n : Nat) : Int := if 256 < n then 3 else 0
theorem peaksN_le (n : Nat) : peaksN n ≤ 256 := by
  unfold peaksN
  split
  · omega
  · have := pksN_le n; omega
theorem peaksV_len {fl : List Int} {n : Nat} (h : fl.length = 32 * n) : (peaksV fl n).length = 32 * peaksN n := by
  unfold peaksV peaksN
  split
  · rfl
  · exact pks_len n 0 (fun i hi => by rw [Nat.zero_add]; exact keyAt_len h hi)
theorem RdK.some {w : World} {a : Option Addr} {n : Nat} {fl : List Int} (hr : RdK w a n fl) : ∃ blk off, (0 < n → a = some ⟨blk, off, none⟩) ∧ (0 < n → RdK w (some ⟨blk, off, none⟩) n fl) := by
  by_cases h : 0 < n
  · obtain ⟨b, o, rfl⟩ := hr.form h
    exact ⟨b, o, fun _ => rfl, fun _ => hr⟩
  · exact ⟨0, 0, fun h' => absurd h' h, fun h' => absurd h' h⟩
set_option maxRecDepth 100000 in
set_option maxHeartbeats 2000000 in
theorem peaks_spec (a : Option Addr) (n cap : Nat) (fl : List Int) (hn : n ≤ 1048576) (hc : n ≤ cap) (hm : cap ≤ maxLen) (fb : ∀ z ∈ fl, 0 ≤ z ∧ z ≤ 255) (w : World) (hr : RdK w a n fl) :
    Calls Try.prog 37 #[.slice a n cap] w fun e w' => ∃ v, e = .returned (.tuple #[v, .int .i64 (peaksE n)]) ∧ w'.ownsRow w.heap.size 29 32 v (peaksN n) ((peaksV fl n).map (Value.int .u8)) ∧ Below w.heap.size w w' := by
  unfold peaksE peaksN peaksV
  by_cases h : 256 < n
  · rw [if_pos h, if_pos h, if_pos h]
    have h1 : (256 : Int) < (n : Int) := by omega
    have O1 := Lib.hid (owns_empty w 29 32)
    have B1 := Lib.hid ((Below.refl w.heap.size w).alloc (Nat.le_refl _) (.cells #[] 29))
    go_enter Try.func37, Try.ntmps37
    go_wp2_with fail
    go_ret2
    exact ⟨_, rfl, O1.out, B1.out⟩
  · rw [if_neg h, if_neg h, if_neg h]
    obtain ⟨blk, off, ha, hr2⟩ := hr.some
    have Hp := Lib.hid (peaks_spec0 a blk off n cap fl ha hr.1 (by omega) hc hm fb w hr2)
    have h1 : (n : Int) ≤ (256 : Int) := by omega
    clear ha hr2 hr
    generalize pks (keyAt fl) 0 n = V at Hp ⊢
    generalize pksN n = N at Hp ⊢
    go_enter Try.func37, Try.ntmps37
    go_wp2_with fail
    refine Hp.out.mono ?_
    rintro e w1 ⟨v, rfl, ho, hb⟩
    have O1 := Lib.hid ho
    have B1 := Lib.hid hb
    clear ho hb
    go_wp2_with fail
    go_ret2
    exact ⟨_, rfl, O1.out, B1.out⟩
set_option maxRecDepth 100000 in
set_option maxHeartbeats 2000000 in
theorem peaks_impl (a : Option Addr) (n cap : Nat) (fl : List Int) (hn : n ≤ 1048576) (hc : n ≤ cap) (hm : cap ≤ maxLen) (fb : ∀ z ∈ fl, 0 ≤ z ∧ z ≤ 255) (w : World) (hr : RdK w a n fl) :
    Calls Try.prog 19 #[.slice a n cap] w fun e w' => ∃ v, e = .returned (.tuple #[v, .int .i64 (peaksE n)]) ∧ w'.ownsRow w.heap.size 29 32 v (peaksN n) ((peaksV fl n).map (Value.int .u8)) ∧ Below w.heap.size w w' := by
  unfold peaksE peaksN peaksV
  by_cases h : 256 < n
  · rw [if_pos h, if_pos h, if_pos h]
    have h1 : (256 : Int) < (n : Int) := by omega
    go_enter Try.func19, Try.ntmps19
    go_wp2_with fail
    go_ret2
    exact ⟨_, rfl, World.ownsRow_nil _ _ _ _, Below.refl _ _⟩
  · rw [if_neg h, if_neg h, if_neg h]
    obtain ⟨blk, off, ha, hr2⟩ := hr.some
    exact peaks_impl0 a blk off n cap fl ha hr.1 (by omega) hc hm fb w hr2
end Go.Proofs.Ytfnmmpnmbommeaa
