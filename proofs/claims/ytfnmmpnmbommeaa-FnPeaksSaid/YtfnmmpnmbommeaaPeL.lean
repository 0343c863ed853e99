/- The statement on peaks: its walk. Written by wip/gen/pel.py. -/
import Derived.Test.YtfnmmpnmbommeaaSrcB
import Derived.Test.YtfnmmpnmbommeaaLists
import Derived.Test.YtfnmmpnmbommeaaPkM
import Derived.Test.YtfnmmpnmbommeaaAddI
import Derived.Test.YtfnmmpnmbommeaaPeakI
import Derived.Test.YtfnmmpnmbommeaaListK
namespace Go.Proofs.Ytfnmmpnmbommeaa
open Go.ChangeShapes Go.WideShapes Go.ChangeAt Go.RowKit
set_option linter.unusedVariables false
set_option linter.unusedSimpArgs false
theorem pks_congrL {kf kg : Nat → List Int} : ∀ r q p, (∀ i, i < r → kf (q + i) = kg (p + i)) → pks kf q r = pks kg p r := by
  intro r
  induction r using Nat.strongRecOn with
  | _ r ih =>
    intro q p hk
    by_cases h : r = 0
    · subst h; rw [pks_zero, pks_zero]
    · have h1 := half_pos (r + 1)
      have h2 := half_lt (n := r + 1) (by omega)
      rw [pks_pos kf q r (by omega), pks_pos kg p r (by omega), tkey_congr (half (r + 1)) q p (by omega) (fun i hi => hk i (by omega)), ih _ (by omega) (q + half (r + 1)) (p + half (r + 1)) (fun i hi => by rw [Nat.add_assoc, Nat.add_assoc]; exact hk _ (by omega))]
theorem wpList_append_rowsL {P : Program} {ops : Array Oper} {rest : List Oper} {w : World} {o : Oper} {a : Act} {Q : Exit → Act → World → Prop} (hgd : o.guard = none) {base base2 : Nat} (s x : Operand) (t : TypeId)
    (ho : o.op = .call { callee := .builtin .append, args := #[s, x], argTypes := #[t, t] }) (e : TypeId) (i : TypeInfo) (z : Value) (size bytes : Nat) (ht : P.underlying t = some (.slice e)) (hi : P.info? e = some i) (hz : i.zero = some z)
    (hsize : i.size = size) (hby : i.bytes = bytes) (hzs : z.cells.size = size) (hsz : 0 < size) (v : Value) (n : Nat) (xs : List Value) (hs : a.eval s = v) (hown : w.ownsRow base e size v n xs)
    (u : Value) (m : Nat) (ys : List Value) (hx : a.eval x = u) (hown2 : w.ownsRow base2 e size u m ys) (h1 : ∀ y ∈ ys, y.oneCell' = true) (h63 : n + m ≤ maxLen) (hbytes : (n + m) * bytes ≤ 140737488355328) (hbase : base ≤ w.heap.size)
    (h : ∀ v' w', w'.ownsRow base e size v' (n + m) (xs ++ ys) → w.grownBy w' v.ownBlock → wpList P ops Q rest (a.put o.dst v') w') : wpList P ops Q (o :: rest) a w := by
  obtain ⟨v', w', hr, h2, h3⟩ := run_append_rows (P := P) t o.type e i z size bytes ht hi hz hsize hby hzs hsz v n xs hown u m ys hown2 h1 h63 hbytes hbase
  exact wpList_append_ran hgd s x t t ho v u hs hx hr (h v' w' h2 h3)
theorem wpList_load_row_gL {P : Program} {ops : Array Oper} {rest : List Oper} {o : Oper} {a : Act} {w : World} {Q : Exit → Act → World → Prop} (hw : Region.wanted o (yielded ops a.tmps) = true) (ty : TypeId) (x : Operand) (ho : o.op = .load ty x)
    (g : Nat) (hx : a.eval x = .pointer (some ⟨g, 0, none⟩)) (t : TypeId) (cs : Array Value) (fr : Nat × Nat) (d : TypeDesc) (hg : w.heap[g]? = some (.cells cs t fr))
    (hu : P.underlying ty = some d) (hd : (match d with | .struct _ | .array _ _ => true | _ => false) = true) (hi : (P.info? ty).map (·.size) = some cs.size)
    (h : wpList P ops Q rest (a.put o.dst (.agg cs)) w) : wpList P ops Q (o :: rest) a w :=
  wpList_step fun _ hK => by rw [if_pos hw]; exact wp_load_row ty x ho g hx t cs fr d hg hu hd hi (hK _ _ h)
theorem owned_formL {w : World} {base n size : Nat} {e : TypeId} {v : Value} {xs : List Value} (h : w.ownsRow base e size v n xs) : (v = .slice none 0 0 ∧ n = 0) ∨ ∃ b c, v = .slice (some ⟨b, 0, none⟩) n c ∧ n ≤ c ∧ c ≤ maxLen := by
  rcases h.2 with ⟨rfl, rfl⟩ | ⟨g, cap, cur, rfl, hb, hg, hc, hm, r⟩
  · exact Or.inl ⟨rfl, rfl⟩
  · exact Or.inr ⟨g, cap, rfl, hc, hm⟩
theorem keyAt_takeL {fl : List Int} {r i : Nat} (h : i < r) : keyAt (fl.take (32 * r)) i = keyAt fl i := keyAt_take h
/-- The key of the first leaves. -/
def firstK (fl : List Int) (r : Nat) : List Int := if r = 0 then hashK 3 [] else tkey (keyAt fl) 0 r
theorem firstK_good {fl : List Int} {L r : Nat} (hl : fl.length = 32 * L) (fb : ∀ z ∈ fl, 0 ≤ z ∧ z ≤ 255) (hr : r ≤ L) : (firstK fl r).length = 32 := by
  unfold firstK
  split
  · exact hashK_len _ _
  · exact tkey_len (by omega) (fun i hi => keyAt_len hl (by omega))
set_option maxRecDepth 100000 in
set_option maxHeartbeats 16000000 in
theorem pe_in (a1 a2 : Option Addr) (n1 n2 c1 c2 : Nat) (l1 l2 : List Int) (hn1 : n1 ≤ 3000) (hn2 : n2 ≤ 3000) (fb1 : ∀ z ∈ l1, 0 ≤ z ∧ z ≤ 255) (fb2 : ∀ z ∈ l2, 0 ≤ z ∧ z ≤ 255) (w : World) (hr1 : Rd .u8 w a1 n1 l1) (hr2 : Rd .u8 w a2 n2 l2) :
    Calls Try.prog 3 #[.slice a1 n1 c1, .slice a2 n2 c2] w fun e w' => e = .returned (.bool true) ∧ Below w.heap.size w w' := by
  have Hz := Lib.hid z32_ints
  obtain ⟨i0, z0, hi, hz0, hz1, hz2, hzs, hzc⟩ := keyParts
  have Hi := Lib.hid hi
  have Hlg := Lib.hid (fun U => long_no a1 a2 n1 n2 c1 c2 ⟨hn1, hn2⟩ U)
  have Hk1 := Lib.hid (keys_src a1 n1 c1 l1 9 (by omega) fb1 (by omega) w hr1)
  have Hk2 := Lib.hid (fun U (hU : Below w.heap.size w U) => keys_src a2 n2 c2 l2 9 (by omega) fb2 (by omega) U (hr2.below hU))
  clear hr1 hr2 fb1 fb2 hi
  go_enter Try.func3, Try.ntmps3
  go_wp2_with fail
  refine (Hlg.out _).mono ?_
  rintro x w0 ⟨rfl, rfl⟩
  go_wp2_with fail
  refine Hk1.out.mono ?_
  rintro x w1 ⟨v1, m1, f1, rfl, o1, hm1, hl1, hf1, hb1⟩
  have B1 := Lib.hid hb1
  have O1 := Lib.hid o1
  have F1 := Lib.hid hf1
  clear o1 hb1 hf1
  go_wp2_with fail
  refine (Hk2.out _ B1.out).mono ?_
  rintro x w2 ⟨v2, m2, f2, rfl, o2, hm2, hl2, hf2, hb2⟩
  have O1' := Lib.hid (owns_below O1.out hb2)
  have O2 := Lib.hid o2
  have F2 := Lib.hid hf2
  have B2 := Lib.hid (below_call B1.out B1.out.size hb2)
  clear o2 hb2 hf2
  go_wp2_with (at_builtin; refine wpList_append_rowsL rfl _ _ 24 rfl 29 i0 z0 32 32 Try.underlying24 Hi.out hz0 hz1 hz2 hzs (by decide) v1 m1 _ rfl O1'.out v2 m2 _ rfl O2.out ?c1 ?c2 ?c3 ?c4 ?_)
  case c1 =>
    intro u hu
    obtain ⟨z, _, rfl⟩ := List.mem_map.1 hu
    rfl
  case c2 => unfold maxLen; omega
  case c3 => omega
  case c4 => exact B2.out.size
  intro v3 w3 hown3 hgrow3
  have B3 := Lib.hid (B2.out.grown hgrow3 B2.out.size (fun g e => (O1'.out.lt g e).1))
  rw [← List.map_append] at hown3
  have FB : Hid (∀ z ∈ f1 ++ f2, 0 ≤ z ∧ z ≤ 255) := Lib.hid (fun z hz => by
    rcases List.mem_append.1 hz with hz | hz
    · exact F1.out z hz
    · exact F2.out z hz)
  have hl3 : (f1 ++ f2).length = 32 * (m1 + m2) := by rw [List.length_append, hl1, hl2]; omega
  generalize f1 ++ f2 = fl at hown3 FB hl3
  have hL : m1 + m2 ≤ 18 := by omega
  generalize m1 + m2 = L at hown3 hl3 hL
  have HL := Lib.hid hl3
  obtain ⟨la', lc', hv', hR3⟩ := RdK.owned hl3 hown3
  have hf := owned_formL hown3
  clear hown3 hgrow3 O1 O1' O2 F1 F2 B1 B2 hm1 hm2 hl1 hl2 hl3 Hk1 Hk2 Hlg
  have Hsk := Lib.hid (fun (r : Nat) (hr : r ≤ 18) a b ca cb pl U h1 h2 => same_keys a b (pksN r) ca cb pl (by have := pksN_le r; omega) U h1 h2)
  have HKL := Lib.hid (fun r (hr : r ≤ L) => firstK_good HL.out FB.out hr)
  have HPL := Lib.hid (fun r (hr : r ≤ L) => (pks_len (kf := keyAt fl) r 0 (fun i hi => by rw [Nat.zero_add]; exact keyAt_len HL.out (by omega))))
  have HPR := Lib.hid (fun (r : Nat) => pks_range (kf := keyAt fl) (fun i => keyAt_range FB.out i) r 0)
  have Hkop := Lib.hid (fun r (hr : r ≤ L) A C U hU => by
    have := kop_impl A (pksN r) C (r : Int) (pks (keyAt fl) 0 r) (by have := pksN_le r; omega) (HPR.out r) U hU
    have hg := kop_grow (kf := keyAt fl) (r := r) (by omega) (fun i hi => keyAt_len HL.out (by omega))
    rw [hg.2, show kopE (pksN r) (r : Int) = 0 from hg.1] at this
    exact this)
  have Hadd := Lib.hid (fun r (hr : r < L) A C U hU => by
    have := ad_impl A (pksN r) C (r : Int) (pks (keyAt fl) 0 r) (keyAt fl r) (by have := pksN_le r; omega) (HPR.out r) (keyAt_len HL.out hr) (keyAt_range FB.out r) U hU
    have hg := add_grow (kf := keyAt fl) (r := r) (by omega) (fun i hi => keyAt_len HL.out (by omega))
    rw [hg.1, hg.2.1, hg.2.2] at this
    exact this)
  have Hend := Lib.hid (fun A C U hU => by
    have := ad_impl A (pksN L + 1) C (L : Int) (pks (keyAt fl) 0 L ++ z32) z32 (by have := pksN_le L; omega) (fun z hz => by
      rcases List.mem_append.1 hz with hz | hz
      · exact HPR.out L z hz
      · exact z32_byteB z hz) rfl z32_byteB U hU
    have hg : gcode (pksN L + 1) (L : Int) 255 = 4 := by
      have e := pksN_ones L (by omega)
      have := pksN_le L
      unfold gcode
      rw [if_neg (by omega), if_neg (by omega), Int.toNat_natCast, if_pos (by rw [e]; omega)]
    rw [hg] at this
    exact this)
  rcases hf with ⟨hv, hL0⟩ | ⟨lb, lc, hv, hlc, hlm⟩
  · rw [hv] at hv'
    cases hv'
    subst hv
    have p0 := pksN_zero
    have q0 : pks (keyAt fl) 0 0 = [] := pks_zero _ _
    have Hkop0 := Lib.hid (fun A C U (hU : RdK U A 0 []) => by
      have := Hkop.out 0 (Nat.le_refl _) A C U
      rw [p0, q0] at this
      have := this hU
      rw [if_pos rfl] at this
      have h2 : Calls Try.prog 21 #[.slice A 0 C, .int .i64 0] U fun x w' => x = .returned (.tuple #[.agg (ints .u8 (firstK fl 0)), .int .i64 0]) ∧ Below U.heap.size U w' := by
        unfold firstK
        rw [if_pos rfl]
        exact this
      exact h2)
    have Hend0 := Lib.hid (fun A C U (hU : RdK U A 1 z32) => by
      have := Hend.out A C U
      rw [p0, q0] at this
      have h2 : Calls Try.prog 23 #[.slice A 1 C, .int .i64 0, .agg (ints .u8 z32)] U fun e w' => ∃ v, e = .returned (.tuple #[v, .int .i64 4]) ∧ w'.ownsRow U.heap.size 29 32 v (adN (0 + 1) ((0 : Nat) : Int)) ((adV ([] ++ z32) (0 + 1) ((0 : Nat) : Int) z32).map (Value.int .u8)) ∧ Below U.heap.size U w' := this hU
      exact h2)
    have Hpk := Lib.hid (fun U => by
      have := peaks_impl none 0 0 [] (by omega) (Nat.le_refl _) (by omega) (by simp) U ⟨rfl, Or.inl rfl⟩
      unfold peaksE peaksN peaksV at this
      rw [if_neg (by omega), if_neg (by omega), if_neg (by omega), p0, pks_zero] at this
      exact this)
    have Hlk := Lib.hid (fun U => by
      have := listkey_impl none 0 0 [] (by omega) (by simp) U ⟨rfl, Or.inl rfl⟩
      have e : lkeyV [] 0 = firstK fl 0 := by
        unfold lkeyV firstK
        rw [if_neg (by omega), if_pos rfl, if_pos rfl]
      unfold lkeyE at this
      rw [e, if_neg (by omega)] at this
      exact this)
    clear Hkop Hend Hadd HPL HPR HKL Hsk hR3 p0 q0
    go_wp2_with fail
    have O4 := Lib.hid (owns_empty w3 29 32)
    have LB := (Below.refl w3.heap.size w3).alloc (Nat.le_refl _) (.cells #[] 29)
    have B4 := Lib.hid (below_call B3.out B3.out.size LB)
    clear LB
    go_loopw [6, 7] (fun pv nv wr => ∃ (C : Nat) (A : Option Addr), nv = .int .i64 0 ∧ pv = .slice A 0 C ∧ RdK wr A 0 [] ∧ Below w.heap.size w wr) (fun _ _ _ => 0)
    case atStart => exact ⟨0, _, rfl, rfl, ⟨rfl, Or.inl rfl⟩, B4.out⟩
    case round =>
      clear O4 B4 B3
      obtain ⟨C, A, rfl, rfl, hp, hb⟩ := hrel
      have RP := Lib.hid hp
      have BR := Lib.hid hb
      clear hp hb
      have HP := Lib.hid (Hpk.out wr)
      go_wp2_with fail
      refine HP.out.mono ?_
      rintro x w5 ⟨v5, rfl, ho5, hb5⟩
      obtain ⟨da, dc, rfl, hd5⟩ := RdK.owned (L := []) rfl ho5
      have D5 := Lib.hid hd5
      have B5 := Lib.hid (below_call BR.out BR.out.size hb5)
      have RP5 := Lib.hid (RP.out.below hb5)
      clear hd5 ho5 hb5 HP
      have HK := Lib.hid (Hlk.out w5)
      have HK2 := Lib.hid Hkop0.out
      have HKV := Lib.hid (firstK_good (fl := fl) (L := 0) HL.out FB.out (Nat.le_refl 0))
      have hq : ∀ U, (binOp .neq 29 (.agg (ints .u8 (firstK fl 0))) (.agg (ints .u8 (firstK fl 0)))).run Try.prog U = .ok (.bool false) U := fun U => (neqKeyL (firstK fl 0) (firstK fl 0) HKV.out HKV.out U).trans (by simp)
      generalize firstK fl 0 = KV at HK HK2 HKV hq
      go_wp2_with fail
      refine HK.out.mono ?_
      rintro x w6 ⟨rfl, hb6⟩
      have L6 := laid_below w6 (ints .u8 z32) (ints .u8 KV) 29
      have BW6 := hb6.trans (L6.mono hb6.size)
      have G6 := Lib.hid (laid_new w6 (ints .u8 z32) (ints .u8 KV) 29)
      have B6 := Lib.hid (below_call B5.out B5.out.size BW6)
      have RP6 := Lib.hid (RP5.out.below BW6)
      have D6 := Lib.hid (D5.out.below BW6)
      clear L6 BW6 hb6 HK
      go_wp2_with (refine wpList_store_row rfl 29 (.tmp 10) _ rfl w6.heap.size (ints .u8 KV) rfl rfl 29 (ints .u8 z32) (by rw [Hz.out]; exact heap_alloc_last _ _) (by rw [ints_size, HKV.out]; exact sizeKey) (by rw [ints_size, ints_size, HKV.out]; rfl) (ints_one _ _) ?_)
      rw [← Hz.out]
      generalize hW6 : (w6.alloc (.cells (ints .u8 z32) 29)).setRow w6.heap.size (ints .u8 KV) = W6 at G6 B6 RP6 D6 ⊢
      generalize w6.heap.size = g6 at G6 ⊢
      clear hW6
      refine (HK2.out A C W6 RP6.out).mono ?_
      rintro x w7 ⟨rfl, hb7⟩
      have L7 := laid_below w7 (ints .u8 z32) (ints .u8 KV) 29
      have BW7 := hb7.trans (L7.mono hb7.size)
      have G7 := Lib.hid (laid_new w7 (ints .u8 z32) (ints .u8 KV) 29)
      have G67 := Lib.hid (keep_block G6.out BW7)
      have B7 := Lib.hid (below_call B6.out B6.out.size BW7)
      have RP7 := Lib.hid (RP6.out.below BW7)
      have D7 := Lib.hid (D6.out.below BW7)
      clear L7 BW7 hb7 HK2
      go_wp2_with (refine wpList_store_row rfl 29 (.tmp 12) _ rfl w7.heap.size (ints .u8 KV) rfl rfl 29 (ints .u8 z32) (by rw [Hz.out]; exact heap_alloc_last _ _) (by rw [ints_size, HKV.out]; exact sizeKey) (by rw [ints_size, ints_size, HKV.out]; rfl) (ints_one _ _) ?_)
      rw [← Hz.out]
      generalize hW7 : (w7.alloc (.cells (ints .u8 z32) 29)).setRow w7.heap.size (ints .u8 KV) = W7 at G7 G67 B7 RP7 D7 ⊢
      generalize w7.heap.size = g7 at G7 ⊢
      clear hW7
      refine (same_keys _ _ 0 _ _ [] (by omega) W7 D7.out RP7.out).mono ?_
      rintro x w8 ⟨rfl, hb8⟩
      have G78 := Lib.hid (keep_block G7.out hb8)
      have G68 := Lib.hid (keep_block G67.out hb8)
      have B8 := Lib.hid (below_call B7.out B7.out.size hb8)
      have RP8 := Lib.hid (RP7.out.below hb8)
      clear hb8
      have LB := (Below.refl w8.heap.size w8).alloc (Nat.le_refl _) (.cells #[] 29)
      have O8 := Lib.hid (owns_empty w8 29 32)
      have RP8a := Lib.hid (RP8.out.below LB)
      have B8a := Lib.hid (below_call B8.out B8.out.size LB)
      have Z8 : Hid (w8.heap.size < (w8.alloc (.cells #[] 29)).heap.size) := Lib.hid (by simp)
      clear LB
      go_wp2_with (first | (refine wpList_load_row_gL (by rfl) 29 (.tmp 12) rfl g7 rfl 29 (ints .u8 KV) (0, 0) _ G78.out Try.underlying29 rfl (by rw [ints_size, HKV.out]; exact sizeKey) ?_) | (refine wpList_load_row_gL (by rfl) 29 (.tmp 10) rfl g6 rfl 29 (ints .u8 KV) (0, 0) _ G68.out Try.underlying29 rfl (by rw [ints_size, HKV.out]; exact sizeKey) ?_) | (at_builtin; refine wpList_append_rdk rfl _ _ rfl w8.heap.size _ 0 _ rfl O8.out A 0 C [] rfl RP8a.out (by omega) (Nat.le_of_lt Z8.out) ?_; intro v9 w9 hown9 hb9) | (refine wpList_buildSlice_one rfl 24 29 _ rfl Try.underlying24 Hi.out hz0 (ints .u8 z32) (by rw [Hz.out]; rfl) (by rw [ints_size, hz1]; rfl) (by rw [hz1]; decide) (by rw [hz1]; decide) ?_) | (at_builtin; refine wpList_append_own _ rfl _ _ 24 rfl w8.heap.size 29 i0 z0 32 32 Try.underlying24 Hi.out hz0 hz1 hz2 hzs (by decide) _ _ _ rfl (hown9.alloc _) ⟨w9.heap.size, 0, none⟩ 1 1 (z32.map (Value.int .u8)) rfl rfl ?c1 ?c2 ?c3 ?c4 ?c5 ?_))
      case c1 =>
        intro p u hu
        rw [addr_add]
        have hg := heap_alloc_last w9 (.cells (ints .u8 z32) 29)
        rw [Nat.zero_add, cell_of_row _ w9.heap.size p _ _ _ hg, ← hu]
        simp [ints]
      case c2 =>
        intro u hu
        obtain ⟨z, _, rfl⟩ := List.mem_map.1 hu
        rfl
      case c3 => unfold maxLen; omega
      case c4 => omega
      case c5 => have := hb9.size; have := Z8.out; simp; omega
      intro v10 w10 hown10 hgrow10 hnil10
      have BA := ((Below.refl w8.heap.size w9).alloc (by have := hb9.size; have := Z8.out; omega) (.cells (ints .u8 z32) 29)).grown hgrow10 (by have := hb9.size; have := Z8.out; simp; omega) (fun g e => (hown9.lt g e).1)
      have B10 := Lib.hid (B8a.out.trans ((hb9.trans BA).mono B8.out.size))
      have hown11 : w10.ownsRow w8.heap.size 29 32 v10 1 (z32.map (Value.int .u8)) := by
              first
          | exact hown10
          | (have := hown10
             rw [Nat.zero_add] at this
             exact this)
          | (simpa using hown10)
      obtain ⟨ea, ec, rfl, hd10⟩ := RdK.owned (L := z32) rfl hown11
      have D10 := Lib.hid hd10
      clear hown9 hb9 hown10 hown11 hgrow10 hnil10 BA hd10
      go_wp2_with fail
      try rw [← Hz.out]
      refine (Hend0.out ea ec _ D10.out).mono ?_
      rintro x w11 ⟨v11, rfl, ho11, hb11⟩
      have B11 := Lib.hid (below_call B10.out B10.out.size hb11)
      clear ho11 hb11
      go_wp2_with fail
      go_ret
      exact ⟨rfl, B11.out⟩
  · rw [hv] at hv'
    obtain ⟨e1, -, -⟩ := Value.slice.inj hv'
    rw [← e1] at hR3
    clear e1 hv'
    subst hv
    have Hpk := Lib.hid (fun r (hr : r ≤ L) U (hU : RdK U (some ⟨lb, 0, none⟩) L fl) => by
      have := peaks_impl (some ⟨lb, 0, none⟩) r lc (fl.take (32 * r)) (by omega) (by omega) hlm (fun z hz => FB.out z (List.mem_of_mem_take hz)) U (hU.take hr)
      unfold peaksE peaksN peaksV at this
      rw [if_neg (by omega), if_neg (by omega), if_neg (by omega), pks_congrL (kf := keyAt (fl.take (32 * r))) (kg := keyAt fl) r 0 0 (fun i hi => by rw [Nat.zero_add]; exact keyAt_take hi)] at this
      exact this)
    have Hlk := Lib.hid (fun r (hr : r ≤ L) U (hU : RdK U (some ⟨lb, 0, none⟩) L fl) => by
      have := listkey_impl (some ⟨lb, 0, none⟩) r lc (fl.take (32 * r)) (by omega) (fun z hz => FB.out z (List.mem_of_mem_take hz)) U (hU.take hr)
      have e : lkeyV (fl.take (32 * r)) r = firstK fl r := by
        unfold lkeyV firstK
        rw [if_neg (by omega)]
        split
        · rfl
        · exact tkey_congr r 0 0 (by omega) (fun i hi => by rw [Nat.zero_add]; exact keyAt_take hi)
      unfold lkeyE at this
      rw [e, if_neg (by omega)] at this
      exact this)
    have HR3 := Lib.hid hR3
    clear hR3
    go_wp2_with fail
    have O4 := Lib.hid (owns_empty w3 29 32)
    have LB := (Below.refl w3.heap.size w3).alloc (Nat.le_refl _) (.cells #[] 29)
    have B4 := Lib.hid (below_call B3.out B3.out.size LB)
    have R4 := Lib.hid (HR3.out.below LB)
    clear LB
    go_loopw [6, 7] (fun pv nv wr => ∃ (r C : Nat) (A : Option Addr), r ≤ L ∧ nv = .int .i64 (r : Int) ∧ pv = .slice A (pksN r) C ∧ RdK wr A (pksN r) (pks (keyAt fl) 0 r) ∧ RdK wr (some ⟨lb, 0, none⟩) L fl ∧ Below w.heap.size w wr) (fun _ nv _ => L - (intOf nv).toNat)
    case atStart => exact ⟨0, 0, _, by omega, rfl, by rw [pksN_zero], by rw [pksN_zero, pks_zero]; exact ⟨rfl, Or.inl rfl⟩, R4.out, B4.out⟩
    case round =>
      clear O4 B4 R4 B3 HR3
      obtain ⟨r, C, A, hr, rfl, rfl, hp, hR, hb⟩ := hrel
      have RP := Lib.hid hp
      have RL := Lib.hid hR
      have BR := Lib.hid hb
      clear hp hR hb
      have k1 : (r : Int) ≤ (L : Int) := by omega
      have k2 : (r : Int) ≤ (lc : Int) := by omega
      have k3 : (0 : Int) ≤ (r : Int) := by omega
      have k4 : r ≤ lc := by omega
      have k5 : ¬ lc < r := by omega
      have k6 : (r : Int) ≤ 18 := by omega
      have HP := Lib.hid (Hpk.out r hr wr RL.out)
      go_wp2_with fail
      refine HP.out.mono ?_
      rintro x w5 ⟨v5, rfl, ho5, hb5⟩
      obtain ⟨da, dc, rfl, hd5⟩ := RdK.owned (HPL.out r hr) ho5
      have D5 := Lib.hid hd5
      have B5 := Lib.hid (below_call BR.out BR.out.size hb5)
      have RL5 := Lib.hid (RL.out.below hb5)
      have RP5 := Lib.hid (RP.out.below hb5)
      clear hd5 ho5 hb5 HP
      have HK := Lib.hid (Hlk.out r hr w5 RL5.out)
      have HK2 := Lib.hid (fun A C U hU => Hkop.out r hr A C U hU)
      have HKV := Lib.hid (HKL.out r hr)
      have hq : ∀ U, (binOp .neq 29 (.agg (ints .u8 (firstK fl r))) (.agg (ints .u8 (firstK fl r)))).run Try.prog U = .ok (.bool false) U := fun U => (neqKeyL (firstK fl r) (firstK fl r) HKV.out HKV.out U).trans (by simp)
      rw [show (if r = 0 then hashK 3 [] else tkey (keyAt fl) 0 r) = firstK fl r from rfl] at HK2
      generalize firstK fl r = KV at HK HK2 HKV hq
      go_wp2_with fail
      refine HK.out.mono ?_
      rintro x w6 ⟨rfl, hb6⟩
      have L6 := laid_below w6 (ints .u8 z32) (ints .u8 KV) 29
      have BW6 := hb6.trans (L6.mono hb6.size)
      have G6 := Lib.hid (laid_new w6 (ints .u8 z32) (ints .u8 KV) 29)
      have B6 := Lib.hid (below_call B5.out B5.out.size BW6)
      have RL6 := Lib.hid (RL5.out.below BW6)
      have RP6 := Lib.hid (RP5.out.below BW6)
      have D6 := Lib.hid (D5.out.below BW6)
      clear L6 BW6 hb6 HK
      go_wp2_with (refine wpList_store_row rfl 29 (.tmp 10) _ rfl w6.heap.size (ints .u8 KV) rfl rfl 29 (ints .u8 z32) (by rw [Hz.out]; exact heap_alloc_last _ _) (by rw [ints_size, HKV.out]; exact sizeKey) (by rw [ints_size, ints_size, HKV.out]; rfl) (ints_one _ _) ?_)
      rw [← Hz.out]
      generalize hW6 : (w6.alloc (.cells (ints .u8 z32) 29)).setRow w6.heap.size (ints .u8 KV) = W6 at G6 B6 RL6 RP6 D6 ⊢
      generalize w6.heap.size = g6 at G6 ⊢
      clear hW6
      refine (HK2.out A C W6 RP6.out).mono ?_
      rintro x w7 ⟨rfl, hb7⟩
      have L7 := laid_below w7 (ints .u8 z32) (ints .u8 KV) 29
      have BW7 := hb7.trans (L7.mono hb7.size)
      have G7 := Lib.hid (laid_new w7 (ints .u8 z32) (ints .u8 KV) 29)
      have G67 := Lib.hid (keep_block G6.out BW7)
      have B7 := Lib.hid (below_call B6.out B6.out.size BW7)
      have RL7 := Lib.hid (RL6.out.below BW7)
      have RP7 := Lib.hid (RP6.out.below BW7)
      have D7 := Lib.hid (D6.out.below BW7)
      clear L7 BW7 hb7 HK2
      go_wp2_with (refine wpList_store_row rfl 29 (.tmp 12) _ rfl w7.heap.size (ints .u8 KV) rfl rfl 29 (ints .u8 z32) (by rw [Hz.out]; exact heap_alloc_last _ _) (by rw [ints_size, HKV.out]; exact sizeKey) (by rw [ints_size, ints_size, HKV.out]; rfl) (ints_one _ _) ?_)
      rw [← Hz.out]
      generalize hW7 : (w7.alloc (.cells (ints .u8 z32) 29)).setRow w7.heap.size (ints .u8 KV) = W7 at G7 G67 B7 RL7 RP7 D7 ⊢
      generalize w7.heap.size = g7 at G7 ⊢
      clear hW7
      refine (Hsk.out r (by omega) _ _ _ _ _ W7 D7.out RP7.out).mono ?_
      rintro x w8 ⟨rfl, hb8⟩
      have G78 := Lib.hid (keep_block G7.out hb8)
      have G68 := Lib.hid (keep_block G67.out hb8)
      have B8 := Lib.hid (below_call B7.out B7.out.size hb8)
      have RL8 := Lib.hid (RL7.out.below hb8)
      have RP8 := Lib.hid (RP7.out.below hb8)
      clear hb8
      by_cases hrl : r < L
      · have hne : ((r : Int) == (L : Int)) = false := by rw [beq_eq_false_iff_ne]; omega
        have i1 : (r : Int) < (L : Int) := by omega
        have HKr := Lib.hid (RL8.out.key r hrl)
        have HKl := Lib.hid (keyAt_len HL.out hrl)
        have HA := Lib.hid (fun A C U hU => Hadd.out r hrl A C U hU)
        generalize keyAt fl r = key at HKr HKl HA
        go_wp2_with (first | (refine wpList_load_row_gL (by rfl) 29 (.tmp 12) rfl g7 rfl 29 (ints .u8 KV) (0, 0) _ G78.out Try.underlying29 rfl (by rw [ints_size, HKV.out]; exact sizeKey) ?_) | (refine wpList_load_row_gL (by rfl) 29 (.tmp 10) rfl g6 rfl 29 (ints .u8 KV) (0, 0) _ G68.out Try.underlying29 rfl (by rw [ints_size, HKV.out]; exact sizeKey) ?_) | (refine wpList_load_ints rfl 29 (.tmp 83) rfl lb (r * 32) rfl .u8 key _ (by have := HKr.out; rw [Nat.zero_add] at this; exact this) Try.underlying29 rfl (by rw [HKl.out]; exact sizeKey) ?_))
        refine (HA.out A C _ RP8.out).mono ?_
        rintro x w9 ⟨v9, rfl, ho9, hb9⟩
        obtain ⟨pa, pc, rfl, hd9⟩ := RdK.owned (HPL.out (r + 1) (by omega)) ho9
        have D9 := Lib.hid hd9
        have B9 := Lib.hid (below_call B8.out B8.out.size hb9)
        have RL9 := Lib.hid (RL8.out.below hb9)
        clear hd9 ho9 hb9
        go_wp2_with fail
        go_roundw
        case rel => exact ⟨r + 1, pc, pa, by omega, by go_num, rfl, D9.out, RL9.out, B9.out⟩
        case measure => simp [intOf]; omega
      · obtain rfl : r = L := by omega
        have hpl := HPL.out r (Nat.le_refl _)
        have HPN := Lib.hid (pksN_le r)
        have LB := (Below.refl w8.heap.size w8).alloc (Nat.le_refl _) (.cells #[] 29)
        have O8 := Lib.hid (owns_empty w8 29 32)
        have RP8a := Lib.hid (RP8.out.below LB)
        have B8a := Lib.hid (below_call B8.out B8.out.size LB)
        have Z8 : Hid (w8.heap.size < (w8.alloc (.cells #[] 29)).heap.size) := Lib.hid (by simp)
        clear LB
        generalize pks (keyAt fl) 0 r = PL at *
        generalize pksN r = pn at *
        go_wp2_with (first | (refine wpList_load_row_gL (by rfl) 29 (.tmp 12) rfl g7 rfl 29 (ints .u8 KV) (0, 0) _ G78.out Try.underlying29 rfl (by rw [ints_size, HKV.out]; exact sizeKey) ?_) | (refine wpList_load_row_gL (by rfl) 29 (.tmp 10) rfl g6 rfl 29 (ints .u8 KV) (0, 0) _ G68.out Try.underlying29 rfl (by rw [ints_size, HKV.out]; exact sizeKey) ?_) | (at_builtin; refine wpList_append_rdk rfl _ _ rfl w8.heap.size _ 0 _ rfl O8.out A pn C PL rfl RP8a.out (by have := HPN.out; omega) (Nat.le_of_lt Z8.out) ?_; intro v9 w9 hown9 hb9) | (refine wpList_buildSlice_one rfl 24 29 _ rfl Try.underlying24 Hi.out hz0 (ints .u8 z32) (by rw [Hz.out]; rfl) (by rw [ints_size, hz1]; rfl) (by rw [hz1]; decide) (by rw [hz1]; decide) ?_) | (at_builtin; refine wpList_append_own _ rfl _ _ 24 rfl w8.heap.size 29 i0 z0 32 32 Try.underlying24 Hi.out hz0 hz1 hz2 hzs (by decide) _ (0 + pn) _ rfl (hown9.alloc _) ⟨w9.heap.size, 0, none⟩ 1 1 (z32.map (Value.int .u8)) rfl rfl ?c1 ?c2 ?c3 ?c4 ?c5 ?_))
        case c1 =>
          intro p u hu
          rw [addr_add]
          have hg := heap_alloc_last w9 (.cells (ints .u8 z32) 29)
          rw [Nat.zero_add, cell_of_row _ w9.heap.size p _ _ _ hg, ← hu]
          simp [ints]
        case c2 =>
          intro u hu
          obtain ⟨z, _, rfl⟩ := List.mem_map.1 hu
          rfl
        case c3 => have := HPN.out; unfold maxLen; omega
        case c4 => have := HPN.out; omega
        case c5 => have := hb9.size; have := Z8.out; simp; omega
        intro v10 w10 hown10 hgrow10 hnil10
        have BA := ((Below.refl w8.heap.size w9).alloc (by have := hb9.size; have := Z8.out; omega) (.cells (ints .u8 z32) 29)).grown hgrow10 (by have := hb9.size; have := Z8.out; simp; omega) (fun g e => (hown9.lt g e).1)
        have B10 := Lib.hid (B8a.out.trans ((hb9.trans BA).mono B8.out.size))
        have hown11 : w10.ownsRow w8.heap.size 29 32 v10 (pn + 1) ((PL ++ z32).map (Value.int .u8)) := by
          rw [List.map_append]
          first
            | exact hown10
            | (have := hown10
               rw [Nat.zero_add] at this
               exact this)
            | (simpa using hown10)
        obtain ⟨ea, ec, rfl, hd10⟩ := RdK.owned (by rw [List.length_append, hpl]; show 32 * pn + 32 = _; omega) hown11
        have D10 := Lib.hid hd10
        clear hown9 hb9 hown10 hown11 hgrow10 hnil10 BA hd10
        go_wp2_with fail
        try rw [← Hz.out]
        refine (Hend.out ea ec _ D10.out).mono ?_
        rintro x w11 ⟨v11, rfl, ho11, hb11⟩
        have B11 := Lib.hid (below_call B10.out B10.out.size hb11)
        clear ho11 hb11
        go_wp2_with fail
        go_ret
        exact ⟨rfl, B11.out⟩
theorem FnPeaks_walk (a1 : Option Addr) (n1 c1 : Nat) (z1 : List Int) (a2 : Option Addr) (n2 c2 : Nat) (z2 : List Int) (w : World) (f1 : IsRow .u8 w a1 n1 c1 z1) (f2 : IsRow .u8 w a2 n2 c2 z2) :
    Calls Try.prog 3 #[.slice a1 n1 c1, .slice a2 n2 c2] w fun e w' => e = .returned (.bool true) ∧ Below w.heap.size w w' := by
  by_cases h : n1 ≤ 3000 ∧ n2 ≤ 3000
  · exact pe_in a1 a2 n1 n2 c1 c2 (z1.take n1) (z2.take n2) h.1 h.2 (fun z hz => bounds_u8 (rd_wf f1 z hz)) (fun z hz => bounds_u8 (rd_wf f2 z hz)) w (rd_of_row f1) (rd_of_row f2)
  · have Hlg := Lib.hid (fun U => long_yes a1 a2 n1 n2 c1 c2 h U)
    clear h
    go_enter Try.func3, Try.ntmps3
    go_wp2_with fail
    refine (Hlg.out _).mono ?_
    rintro x w0 ⟨rfl, rfl⟩
    go_wp2_with fail
    go_ret
    exact ⟨rfl, Below.refl _ _⟩
end Go.Proofs.Ytfnmmpnmbommeaa
