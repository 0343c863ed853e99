/- The statement on growth: its walk. Written by wip/gen/gwl.py. -/
import Derived.Test.YtfnmmpnmbommeaaRangeI
import Derived.Test.YtfnmmpnmbommeaaPeakS
import Derived.Test.YtfnmmpnmbommeaaConcK
import Derived.Test.YtfnmmpnmbommeaaAddS
import Derived.Test.YtfnmmpnmbommeaaPeaksI
import Derived.Test.YtfnmmpnmbommeaaCgI
import Derived.Laws.BitsAllLaws
import Derived.Test.YtfnmmpnmbommeaaSrcL
import Derived.Test.YtfnmmpnmbommeaaListK
namespace Go.Proofs.Ytfnmmpnmbommeaa
open Go.ChangeShapes Go.WideShapes Go.ChangeAt Go.RowKit
set_option linter.unusedVariables false
set_option linter.unusedSimpArgs false
def rpE (n : Nat) (i j : Int) : Int := if 256 < n then 3 else if 0 ≤ i ∧ i < j ∧ j ≤ (n : Int) then 0 else 2
def rpN (n : Nat) (i j : Int) : Nat := if 256 < n then 0 else if 0 ≤ i ∧ i < j ∧ j ≤ (n : Int) then rgN n i j else 0
def rpV (fl : List Int) (n : Nat) (i j : Int) : List Int := if 256 < n then [] else if 0 ≤ i ∧ i < j ∧ j ≤ (n : Int) then rg (keyAt fl) 0 n i j else []
theorem rpN_le (n : Nat) (i j : Int) : rpN n i j ≤ 256 := by
  unfold rpN
  split
  · omega
  · split
    · have := rgN_le n i j (by omega); omega
    · omega
theorem rpV_len {fl : List Int} {n : Nat} {i j : Int} (h : fl.length = 32 * n) : (rpV fl n i j).length = 32 * rpN n i j := by
  unfold rpV rpN
  split
  · rfl
  · split
    · rename_i h2
      exact rg_len n 0 i j (by omega) (fun k hk => by rw [Nat.zero_add]; exact keyAt_len h hk)
    · rfl
set_option maxRecDepth 100000 in
set_option maxHeartbeats 2000000 in
theorem rp_spec (a : Option Addr) (n cap : Nat) (fl : List Int) (i j : Int) (hn : n ≤ 1048576) (hc : n ≤ cap) (hm : cap ≤ maxLen) (fb : ∀ z ∈ fl, 0 ≤ z ∧ z ≤ 255) (w : World) (hr : RdK w a n fl) :
    Calls Try.prog 47 #[.slice a n cap, .int .i64 i, .int .i64 j] w fun e w' => ∃ v, e = .returned (.tuple #[v, .int .i64 (rpE n i j)]) ∧ w'.ownsRow w.heap.size 29 32 v (rpN n i j) ((rpV fl n i j).map (Value.int .u8)) ∧ Below w.heap.size w w' := by
  unfold rpE rpN rpV
  have O1 := Lib.hid (owns_empty w 29 32)
  have B1 := Lib.hid ((Below.refl w.heap.size w).alloc (Nat.le_refl _) (.cells #[] 29))
  by_cases h : 256 < n
  · rw [if_pos h, if_pos h, if_pos h]
    have h1 : (256 : Int) < (n : Int) := by omega
    go_enter Try.func47, Try.ntmps47
    go_wp2_with fail
    go_ret2
    exact ⟨_, rfl, O1.out, B1.out⟩
  · rw [if_neg h, if_neg h, if_neg h]
    have h1 : (n : Int) ≤ (256 : Int) := by omega
    have h0 : (0 : Int) ≤ (n : Int) := by omega
    by_cases h2 : 0 ≤ i ∧ i < j ∧ j ≤ (n : Int)
    · rw [if_pos h2, if_pos h2, if_pos h2]
      obtain ⟨h3, h4, h5⟩ := h2
      obtain ⟨b, o, rfl⟩ := hr.form (by omega)
      have Hp := Lib.hid (range_spec n b o cap i j fl w (by omega) hn hc hm (by omega) (by omega) (by omega) (by omega) fb hr)
      clear hr fb
      have k1 : ¬ i < 0 := by omega
      have k2 : ¬ j ≤ i := by omega
      have k3 : ¬ (n : Int) < j := by omega
      generalize rgN n i j = N at Hp ⊢
      generalize rg (keyAt fl) 0 n i j = V at Hp ⊢
      go_enter Try.func47, Try.ntmps47
      go_wp2_with fail
      refine Hp.out.mono ?_
      rintro e w1 ⟨v, rfl, ho, hb⟩
      have O1 := Lib.hid ho
      have B1 := Lib.hid hb
      clear ho hb
      go_wp2_with fail
      go_ret2
      exact ⟨_, rfl, O1.out, B1.out⟩
    · rw [if_neg h2, if_neg h2, if_neg h2]
      clear hr fb
      by_cases h3 : i < 0
      · go_enter Try.func47, Try.ntmps47
        go_wp2_with fail
        go_ret2
        exact ⟨_, rfl, O1.out, B1.out⟩
      · by_cases h4 : j ≤ i
        · go_enter Try.func47, Try.ntmps47
          go_wp2_with fail
          go_ret2
          exact ⟨_, rfl, O1.out, B1.out⟩
        · have h5 : (n : Int) < j := by omega
          go_enter Try.func47, Try.ntmps47
          go_wp2_with fail
          go_ret2
          exact ⟨_, rfl, O1.out, B1.out⟩
set_option maxRecDepth 100000 in
set_option maxHeartbeats 4000000 in
theorem rp_impl (a : Option Addr) (n cap : Nat) (fl : List Int) (i j : Int) (hn : n ≤ 1048576) (hc : n ≤ cap) (hm : cap ≤ maxLen) (fb : ∀ z ∈ fl, 0 ≤ z ∧ z ≤ 255) (w : World) (hr : RdK w a n fl) :
    Calls Try.prog 27 #[.slice a n cap, .int .i64 i, .int .i64 j] w fun e w' => ∃ v, e = .returned (.tuple #[v, .int .i64 (rpE n i j)]) ∧ w'.ownsRow w.heap.size 29 32 v (rpN n i j) ((rpV fl n i j).map (Value.int .u8)) ∧ Below w.heap.size w w' := by
  unfold rpE rpN rpV
  have A0 := Lib.hid (heap3_0 w (.cells #[.slice a n cap] 24) (.cells #[.int .i64 i] 2) (.cells #[.int .i64 j] 2))
  have A1 := Lib.hid (heap3_1 w (.cells #[.slice a n cap] 24) (.cells #[.int .i64 i] 2) (.cells #[.int .i64 j] 2))
  have A2 := Lib.hid (heap3_2 w (.cells #[.slice a n cap] 24) (.cells #[.int .i64 i] 2) (.cells #[.int .i64 j] 2))
  have B3 := Lib.hid ((((Below.refl w.heap.size w).alloc (Nat.le_refl _) (.cells #[.slice a n cap] 24)).alloc (by simp) (.cells #[.int .i64 i] 2)).alloc (by simp; omega) (.cells #[.int .i64 j] 2))
  obtain ⟨W3, hW3⟩ : ∃ W3, ((w.alloc (.cells #[.slice a n cap] 24)).alloc (.cells #[.int .i64 i] 2)).alloc (.cells #[.int .i64 j] 2) = W3 := ⟨_, rfl⟩
  have HSZ : Hid (W3.heap.size = w.heap.size + 1 + 1 + 1) := Lib.hid (by rw [← hW3]; simp)
  rw [hW3] at A0 A1 A2 B3
  have cl := cell_of_one A0.out
  have ci := cell_of_one A1.out
  have cj := cell_of_one A2.out
  by_cases h : 256 < n
  · rw [if_pos h, if_pos h, if_pos h]
    have h1 : (256 : Int) < (n : Int) := by omega
    go_enter Try.func27, Try.ntmps27
    go_wp2_with fail
    go_ret2
    exact ⟨_, rfl, World.ownsRow_nil _ _ _ _, B3.out⟩
  · rw [if_neg h, if_neg h, if_neg h]
    have h1 : (n : Int) ≤ (256 : Int) := by omega
    have h0 : (0 : Int) ≤ (n : Int) := by omega
    by_cases h2 : 0 ≤ i ∧ i < j ∧ j ≤ (n : Int)
    · rw [if_pos h2, if_pos h2, if_pos h2]
      obtain ⟨h3, h4, h5⟩ := h2
      obtain ⟨b, o, rfl⟩ := hr.form (by omega)
      obtain ⟨i', rfl⟩ := Int.eq_ofNat_of_zero_le h3
      obtain ⟨j', rfl⟩ := Int.eq_ofNat_of_zero_le (show 0 ≤ j by omega)
      have Hw := Lib.hid (fun W => walkR_impl w (w.heap.size + 1) (w.heap.size + 1 + 1) W3.heap.size w.heap.size (W3.heap.size + 1) b o n cap i' j' fl (by omega) hc hm fb (by omega) (by omega) hr (by have := HSZ.out; omega) (by have := HSZ.out; omega) (by have := HSZ.out; omega) (by omega) (by have := HSZ.out; omega) n 0 0 (.slice none 0 0) [] W (by omega) (by omega) (by omega))
      simp only [Nat.zero_add, List.nil_append, Int.natCast_zero, Int.ofNat_zero, Int.sub_zero] at Hw
      rw [show spanA 0 n = #[.int .i64 0, .int .i64 (n : Int)] by simp [spanA]] at Hw
      have A4 := Lib.hid (heap_alloc2_old W3 (.cells #[.slice none 0 0] 24) (.cells #[.func (.func 71) #[] #[.pointer (some ⟨w.heap.size + 1, 0, none⟩), .pointer (some ⟨w.heap.size + 1 + 1, 0, none⟩), .pointer (some ⟨W3.heap.size, 0, none⟩), .pointer (some ⟨w.heap.size, 0, none⟩), .pointer (some ⟨W3.heap.size + 1, 0, none⟩)]] 90))
      have A5 := Lib.hid (heap_alloc2_new W3 (.cells #[.slice none 0 0] 24) (.cells #[.func (.func 71) #[] #[.pointer (some ⟨w.heap.size + 1, 0, none⟩), .pointer (some ⟨w.heap.size + 1 + 1, 0, none⟩), .pointer (some ⟨W3.heap.size, 0, none⟩), .pointer (some ⟨w.heap.size, 0, none⟩), .pointer (some ⟨W3.heap.size + 1, 0, none⟩)]] 90))
      have B5 := Lib.hid (((Below.refl W3.heap.size W3).alloc (Nat.le_refl _) (.cells #[.slice none 0 0] 24)).alloc (by simp) (.cells #[.func (.func 71) #[] #[.pointer (some ⟨w.heap.size + 1, 0, none⟩), .pointer (some ⟨w.heap.size + 1 + 1, 0, none⟩), .pointer (some ⟨W3.heap.size, 0, none⟩), .pointer (some ⟨w.heap.size, 0, none⟩), .pointer (some ⟨W3.heap.size + 1, 0, none⟩)]] 90))
      have cw := cell_of_one A5.out
      have cl5 := cell_of_one (keep_block A0.out B5.out)
      clear hr fb
      have k1 : ¬ (i' : Int) < 0 := by omega
      have k2 : ¬ (j' : Int) ≤ (i' : Int) := by omega
      have k3 : ¬ (n : Int) < (j' : Int) := by omega
      generalize rgN n (i' : Int) (j' : Int) = N at Hw ⊢
      generalize rg (keyAt fl) 0 n (i' : Int) (j' : Int) = V at Hw ⊢
      go_enter Try.func27, Try.ntmps27
      go_wp2_with fail
      clear hW3 cw cl ci cj cl5
      generalize (W3.alloc (.cells #[.slice none 0 0] 24)).alloc (.cells #[.func (.func 71) #[] #[.pointer (some ⟨w.heap.size + 1, 0, none⟩), .pointer (some ⟨w.heap.size + 1 + 1, 0, none⟩), .pointer (some ⟨W3.heap.size, 0, none⟩), .pointer (some ⟨w.heap.size, 0, none⟩), .pointer (some ⟨W3.heap.size + 1, 0, none⟩)]] 90) = W5 at A4 A5 B5 ⊢
      have B6 := Lib.hid (B3.out.trans (B5.out.mono B3.out.size))
      refine (Hw.out W5 B6.out.size ⟨keep_block A1.out B5.out, keep_block A2.out B5.out, keep_block A0.out B5.out, A5.out, B6.out⟩ A4.out (World.ownsRow_nil _ _ _ _)).mono ?_
      rintro e w1 ⟨rfl, s1, v1, p1, o1⟩
      have B7 := Lib.hid (B6.out.trans s1.below)
      have O7 := Lib.hid o1
      have cp := cell_of_one p1
      clear s1 p1 o1
      go_wp2_with fail
      go_ret2
      exact ⟨_, rfl, O7.out, B7.out⟩
    · rw [if_neg h2, if_neg h2, if_neg h2]
      clear hr fb
      by_cases h3 : i < 0
      · go_enter Try.func27, Try.ntmps27
        go_wp2_with fail
        go_ret2
        exact ⟨_, rfl, World.ownsRow_nil _ _ _ _, B3.out⟩
      · by_cases h4 : j ≤ i
        · go_enter Try.func27, Try.ntmps27
          go_wp2_with fail
          go_ret2
          exact ⟨_, rfl, World.ownsRow_nil _ _ _ _, B3.out⟩
        · have h5 : (n : Int) < j := by omega
          go_enter Try.func27, Try.ntmps27
          go_wp2_with fail
          go_ret2
          exact ⟨_, rfl, World.ownsRow_nil _ _ _ _, B3.out⟩
end Go.Proofs.Ytfnmmpnmbommeaa
namespace Go.Proofs.Ytfnmmpnmbommeaa
open Go.ChangeShapes Go.WideShapes Go.ChangeAt Go.RowKit
set_option linter.unusedVariables false
set_option linter.unusedSimpArgs false
theorem pks_congr {kf kg : Nat → List Int} : ∀ r q p, (∀ i, i < r → kf (q + i) = kg (p + i)) → pks kf q r = pks kg p r := by
  intro r
  induction r using Nat.strongRecOn with
  | _ r ih =>
    intro q p hk
    by_cases h : r = 0
    · subst h; rw [pks_zero, pks_zero]
    · have h1 := half_pos (r + 1)
      have h2 := half_lt (n := r + 1) (by omega)
      rw [pks_pos kf q r (by omega), pks_pos kg p r (by omega), tkey_congr (half (r + 1)) q p (by omega) (fun i hi => hk i (by omega)), ih _ (by omega) (q + half (r + 1)) (p + half (r + 1)) (fun i hi => by rw [Nat.add_assoc, Nat.add_assoc]; exact hk _ (by omega))]
theorem wpList_append_rows {P : Program} {ops : Array Oper} {rest : List Oper} {w : World} {o : Oper} {a : Act} {Q : Exit → Act → World → Prop} (hgd : o.guard = none) {base base2 : Nat} (s x : Operand) (t : TypeId)
    (ho : o.op = .call { callee := .builtin .append, args := #[s, x], argTypes := #[t, t] }) (e : TypeId) (i : TypeInfo) (z : Value) (size bytes : Nat) (ht : P.underlying t = some (.slice e)) (hi : P.info? e = some i) (hz : i.zero = some z)
    (hsize : i.size = size) (hby : i.bytes = bytes) (hzs : z.cells.size = size) (hsz : 0 < size) (v : Value) (n : Nat) (xs : List Value) (hs : a.eval s = v) (hown : w.ownsRow base e size v n xs)
    (u : Value) (m : Nat) (ys : List Value) (hx : a.eval x = u) (hown2 : w.ownsRow base2 e size u m ys) (h1 : ∀ y ∈ ys, y.oneCell' = true) (h63 : n + m ≤ maxLen) (hbytes : (n + m) * bytes ≤ 140737488355328) (hbase : base ≤ w.heap.size)
    (h : ∀ v' w', w'.ownsRow base e size v' (n + m) (xs ++ ys) → w.grownBy w' v.ownBlock → wpList P ops Q rest (a.put o.dst v') w') : wpList P ops Q (o :: rest) a w := by
  obtain ⟨v', w', hr, h2, h3⟩ := run_append_rows (P := P) t o.type e i z size bytes ht hi hz hsize hby hzs hsz v n xs hown u m ys hown2 h1 h63 hbytes hbase
  exact wpList_append_ran hgd s x t t ho v u hs hx hr (h v' w' h2 h3)
def gpE (n : Nat) (m : Int) : Int := if 256 < n then 3 else if 1 ≤ m ∧ m ≤ (n : Int) then 0 else 2
def gpN (n : Nat) (m : Int) : Nat := if 256 < n then 0 else if 1 ≤ m ∧ m ≤ (n : Int) then pksN m.toNat + rgN n 0 m else 0
def gpV (fl : List Int) (n : Nat) (m : Int) : List Int := if 256 < n then [] else if 1 ≤ m ∧ m ≤ (n : Int) then pks (keyAt fl) 0 m.toNat ++ rg (keyAt fl) 0 n 0 m else []
theorem gpN_le (n : Nat) (m : Int) : gpN n m ≤ 512 := by
  unfold gpN
  split
  · omega
  · split
    · have := rgN_le n 0 m (by omega); have := pksN_le m.toNat; omega
    · omega
theorem gpV_len {fl : List Int} {n : Nat} {m : Int} (h : fl.length = 32 * n) : (gpV fl n m).length = 32 * gpN n m := by
  unfold gpV gpN
  split
  · rfl
  · split
    · rename_i h2
      rw [List.length_append, rg_len n 0 0 m (by omega) (fun k hk => by rw [Nat.zero_add]; exact keyAt_len h hk), pks_len m.toNat 0 (fun k hk => by rw [Nat.zero_add]; exact keyAt_len h (by omega))]
      omega
    · rfl
set_option maxRecDepth 100000 in
set_option maxHeartbeats 4000000 in
theorem gp_spec (a : Option Addr) (n cap : Nat) (fl : List Int) (m : Int) (hn : n ≤ 1048576) (hc : n ≤ cap) (hm : cap ≤ maxLen) (fb : ∀ z ∈ fl, 0 ≤ z ∧ z ≤ 255) (w : World) (hr : RdK w a n fl) :
    Calls Try.prog 45 #[.slice a n cap, .int .i64 m] w fun e w' => ∃ v, e = .returned (.tuple #[v, .int .i64 (gpE n m)]) ∧ w'.ownsRow w.heap.size 29 32 v (gpN n m) ((gpV fl n m).map (Value.int .u8)) ∧ Below w.heap.size w w' := by
  unfold gpE gpN gpV
  obtain ⟨i0, z0, hi0, hz0, hz1, hz2, hzs, hzc⟩ := keyParts
  have Hi := Lib.hid hi0
  clear hi0 hzc
  have O1 := Lib.hid (owns_empty w 29 32)
  have B1 := Lib.hid ((Below.refl w.heap.size w).alloc (Nat.le_refl _) (.cells #[] 29))
  by_cases h : 256 < n
  · rw [if_pos h, if_pos h, if_pos h]
    have h1 : (256 : Int) < (n : Int) := by omega
    go_enter Try.func45, Try.ntmps45
    go_wp2_with fail
    go_ret2
    exact ⟨_, rfl, O1.out, B1.out⟩
  · rw [if_neg h, if_neg h, if_neg h]
    have h1 : (n : Int) ≤ (256 : Int) := by omega
    have h0 : (0 : Int) ≤ (n : Int) := by omega
    by_cases h2 : 1 ≤ m ∧ m ≤ (n : Int)
    · rw [if_pos h2, if_pos h2, if_pos h2]
      obtain ⟨q, rfl⟩ := Int.eq_ofNat_of_zero_le (show 0 ≤ m by omega)
      obtain ⟨b, o, rfl⟩ := hr.form (by omega)
      rw [Int.toNat_natCast]
      have Hb := Lib.hid (fun W => in_true (q : Int) 1 (n : Int) h2.1 h2.2 W)
      have Hp := Lib.hid (by
        have := peaks_spec0 (some ⟨b, o, none⟩) b o q cap (fl.take (32 * q)) (fun _ => rfl) (by rw [List.length_take, hr.1]; omega) (by omega) (by omega) hm (fun z hz => fb z (List.mem_of_mem_take hz)) w (fun _ => hr.take (by omega))
        rwa [pks_congr (kf := keyAt (fl.take (32 * q))) (kg := keyAt fl) q 0 0 (fun i hi => by rw [Nat.zero_add]; exact keyAt_take hi)] at this)
      have Hq := Lib.hid (fun W (hB : Below w.heap.size w W) => range_spec n b o cap 0 (q : Int) fl W (by omega) hn hc hm (by omega) (by omega) (by omega) (by omega) fb (hr.below hB))
      have HD := Lib.hid (show pksN q + rgN n 0 (q : Int) ≤ 1048576 by have := rgN_le n 0 (q : Int) (by omega); have := pksN_le q; omega)
      have k1 : (1 : Int) ≤ (q : Int) := h2.1
      have k2 : (q : Int) ≤ (n : Int) := h2.2
      have k3 : (q : Int) ≤ (cap : Int) := by omega
      have k4 : q ≤ cap := by omega
      have k5 : ¬ cap < q := by omega
      clear h2 hr fb
      generalize pksN q = N1 at Hp HD ⊢
      generalize pks (keyAt fl) 0 q = V1 at Hp ⊢
      generalize rgN n 0 (q : Int) = N2 at Hq HD ⊢
      generalize rg (keyAt fl) 0 n 0 (q : Int) = V2 at Hq ⊢
      go_enter Try.func45, Try.ntmps45
      go_wp2_with fail
      refine (Hb.out _).mono ?_
      rintro e w1 ⟨rfl, rfl⟩
      go_wp2_with fail
      refine Hp.out.mono ?_
      rintro e w1 ⟨v1, rfl, ho, hb⟩
      have O2 := Lib.hid ho
      have B2 := Lib.hid hb
      clear ho hb
      go_wp2_with fail
      refine (Hq.out _ B2.out).mono ?_
      rintro e w2 ⟨v2, rfl, ho, hb⟩
      have P3 := Lib.hid ho
      have O3 := Lib.hid (owns_below O2.out hb)
      have B3 := Lib.hid (below_call B2.out B2.out.size hb)
      clear ho hb
      go_wp2_with (at_builtin; refine wpList_append_rows rfl _ _ 24 rfl 29 i0 z0 32 32 Try.underlying24 Hi.out hz0 hz1 hz2 hzs (by decide) v1 N1 _ rfl O3.out v2 N2 _ rfl P3.out ?c1 ?c2 ?c3 ?c4 ?_)
      case c1 =>
        intro u hu
        obtain ⟨z, _, rfl⟩ := List.mem_map.1 hu
        rfl
      case c2 => have := HD.out; unfold maxLen; omega
      case c3 => have := HD.out; omega
      case c4 => exact B3.out.size
      intro v4 w4 hown4 hgrow4
      have O4 := Lib.hid hown4
      have B4 := Lib.hid (B3.out.grown hgrow4 B3.out.size (fun g e => (O3.out.lt g e).1))
      clear hown4 hgrow4
      go_wp2_with fail
      go_ret2
      exact ⟨_, rfl, by rw [List.map_append]; exact O4.out, B4.out⟩
    · rw [if_neg h2, if_neg h2, if_neg h2]
      have Hb := Lib.hid (fun W => in_false m 1 (n : Int) h2 W)
      clear h2 hr fb
      go_enter Try.func45, Try.ntmps45
      go_wp2_with fail
      refine (Hb.out _).mono ?_
      rintro e w1 ⟨rfl, rfl⟩
      go_wp2_with fail
      go_ret2
      exact ⟨_, rfl, O1.out, B1.out⟩
theorem rdsk_two {w : World} {g : Nat} {t : TypeId} {a1 a2 : Option Addr} {n1 n2 c1 c2 : Nat} {l1 l2 : List Int} (h : w.heap[g]? = some (.cells #[.slice a1 n1 c1, .slice a2 n2 c2] t (0, 0))) (r1 : RdK w a1 n1 l1) (r2 : RdK w a2 n2 l2) :
    RdSK w (some ⟨g, 0, none⟩) 2 [(n1, l1), (n2, l2)] := by
  refine ⟨rfl, Or.inr ⟨g, 0, rfl, (Array.getElem?_eq_some_iff.1 h).1, fun j hj => ?_⟩⟩
  match j, hj with
  | 0, _ => exact ⟨a1, c1, (cell_of_row w g 0 _ _ _ h).trans rfl, r1⟩
  | 1, _ => exact ⟨a2, c2, (cell_of_row w g 1 _ _ _ h).trans rfl, r2⟩
set_option maxRecDepth 100000 in
set_option maxHeartbeats 4000000 in
theorem gp_impl (a : Option Addr) (n cap : Nat) (fl : List Int) (m : Int) (hn : n ≤ 1048576) (hc : n ≤ cap) (hm : cap ≤ maxLen) (fb : ∀ z ∈ fl, 0 ≤ z ∧ z ≤ 255) (w : World) (hr : RdK w a n fl) :
    Calls Try.prog 25 #[.slice a n cap, .int .i64 m] w fun e w' => ∃ v, e = .returned (.tuple #[v, .int .i64 (gpE n m)]) ∧ w'.ownsRow w.heap.size 29 32 v (gpN n m) ((gpV fl n m).map (Value.int .u8)) ∧ Below w.heap.size w w' := by
  have Hq := Lib.hid (rp_impl a n cap fl 0 m hn hc hm fb w hr)
  unfold gpE gpN gpV
  by_cases h : 256 < n
  · rw [if_pos h, if_pos h, if_pos h]
    unfold rpE rpN rpV at Hq
    rw [if_pos h, if_pos h, if_pos h] at Hq
    clear hr fb
    go_enter Try.func25, Try.ntmps25
    go_wp2_with fail
    refine Hq.out.mono ?_
    rintro e w1 ⟨v, rfl, ho, hb⟩
    have B1 := Lib.hid hb
    clear ho hb
    go_wp2_with fail
    go_ret2
    exact ⟨_, rfl, World.ownsRow_nil _ _ _ _, B1.out⟩
  · rw [if_neg h, if_neg h, if_neg h]
    by_cases h2 : 1 ≤ m ∧ m ≤ (n : Int)
    · rw [if_pos h2, if_pos h2, if_pos h2]
      have h3 : (0 : Int) ≤ 0 ∧ 0 < m ∧ m ≤ (n : Int) := by omega
      unfold rpE rpN rpV at Hq
      rw [if_neg h, if_neg h, if_neg h, if_pos h3, if_pos h3, if_pos h3] at Hq
      obtain ⟨q, rfl⟩ := Int.eq_ofNat_of_zero_le (show 0 ≤ m by omega)
      obtain ⟨b, o, rfl⟩ := hr.form (by omega)
      rw [Int.toNat_natCast]
      have Hp := Lib.hid (fun W (hB : Below w.heap.size w W) => by
        have := peaks_impl (some ⟨b, o, none⟩) q cap (fl.take (32 * q)) (by omega) (by omega) hm (fun z hz => fb z (List.mem_of_mem_take hz)) W ((hr.below hB).take (by omega))
        unfold peaksE peaksN peaksV at this
        rw [if_neg (by omega), if_neg (by omega), if_neg (by omega)] at this
        rwa [pks_congr (kf := keyAt (fl.take (32 * q))) (kg := keyAt fl) q 0 0 (fun i hi => by rw [Nat.zero_add]; exact keyAt_take hi)] at this)
      have HD := Lib.hid (show pksN q + rgN n 0 (q : Int) ≤ 1048576 by have := rgN_le n 0 (q : Int) (by omega); have := pksN_le q; omega)
      have L1 := Lib.hid (pks_len (kf := keyAt fl) q 0 (fun k hk => by rw [Nat.zero_add]; exact keyAt_len hr.1 (by omega)))
      have L2 := Lib.hid (rg_len (kf := keyAt fl) n 0 0 (q : Int) (by omega) (fun k hk => by rw [Nat.zero_add]; exact keyAt_len hr.1 hk))
      have k1 : (1 : Int) ≤ (q : Int) := h2.1
      have k2 : (q : Int) ≤ (n : Int) := h2.2
      have k3 : (q : Int) ≤ (cap : Int) := by omega
      have k4 : q ≤ cap := by omega
      have k5 : ¬ cap < q := by omega
      clear h2 h3 hr fb
      generalize pksN q = N1 at Hp HD L1 ⊢
      generalize pks (keyAt fl) 0 q = V1 at Hp L1 ⊢
      generalize rgN n 0 (q : Int) = N2 at Hq HD L2 ⊢
      generalize rg (keyAt fl) 0 n 0 (q : Int) = V2 at Hq L2 ⊢
      go_enter Try.func25, Try.ntmps25
      go_wp2_with fail
      refine Hq.out.mono ?_
      rintro e w1 ⟨v2, rfl, ho, hb⟩
      have O1 := Lib.hid ho
      have B1 := Lib.hid hb
      clear ho hb
      go_wp2_with fail
      refine (Hp.out _ B1.out).mono ?_
      rintro e w2 ⟨v1, rfl, ho, hb⟩
      obtain ⟨a1, c1, rfl, R1⟩ := RdK.owned L1.out ho
      obtain ⟨a2, c2, rfl, R2⟩ := RdK.owned L2.out (owns_below O1.out hb)
      have R1 := Lib.hid R1
      have R2 := Lib.hid R2
      have B2 := Lib.hid (below_call B1.out B1.out.size hb)
      clear ho hb
      have LI := (Below.refl w2.heap.size w2).alloc (Nat.le_refl _) (.cells #[.slice a1 N1 c1, .slice a2 N2 c2] 24)
      have B3 := Lib.hid (below_call B2.out B2.out.size LI)
      have Hc := Lib.hid (concatK_impl (some ⟨w2.heap.size, 0, none⟩) 2 2 [(N1, V1), (N2, V2)] (by omega) (by have := HD.out; simp [cntK]; omega) _ (rdsk_two (heap_alloc_last w2 (.cells #[.slice a1 N1 c1, .slice a2 N2 c2] 24)) (R1.out.below LI) (R2.out.below LI)))
      rw [show cntK [(N1, V1), (N2, V2)] 2 = N1 + N2 by simp [cntK], show catK [(N1, V1), (N2, V2)] 2 = V1 ++ V2 by simp [catK]] at Hc
      clear LI
      go_wp2_with fail
      refine Hc.out.mono ?_
      rintro e w4 ⟨v4, rfl, ho, hb⟩
      have O4 := Lib.hid (owns_base B3.out.size ho)
      have B4 := Lib.hid (below_call B3.out B3.out.size hb)
      clear ho hb
      go_wp2_with fail
      go_ret2
      exact ⟨_, rfl, O4.out, B4.out⟩
    · rw [if_neg h2, if_neg h2, if_neg h2]
      have h3 : ¬ ((0 : Int) ≤ 0 ∧ 0 < m ∧ m ≤ (n : Int)) := by omega
      unfold rpE rpN rpV at Hq
      rw [if_neg h, if_neg h, if_neg h, if_neg h3, if_neg h3, if_neg h3] at Hq
      clear hr fb h2 h3
      go_enter Try.func25, Try.ntmps25
      go_wp2_with fail
      refine Hq.out.mono ?_
      rintro e w1 ⟨v, rfl, ho, hb⟩
      have B1 := Lib.hid hb
      clear ho hb
      go_wp2_with fail
      go_ret2
      exact ⟨_, rfl, World.ownsRow_nil _ _ _ _, B1.out⟩
end Go.Proofs.Ytfnmmpnmbommeaa
namespace Go.Proofs.Ytfnmmpnmbommeaa
open Go.ChangeShapes Go.WideShapes Go.ChangeAt Go.RowKit
set_option linter.unusedVariables false
set_option linter.unusedSimpArgs false
/-- The peaks, one by one. -/
def PK (kf : Nat → List Int) (q r : Nat) : List (List Int) :=
  if h : r = 0 then [] else tkey kf q (half (r + 1)) :: PK kf (q + half (r + 1)) (r - half (r + 1))
termination_by r
decreasing_by have := half_pos (r + 1); omega
theorem PK_zero (kf : Nat → List Int) (q : Nat) : PK kf q 0 = [] := by rw [PK, dif_pos rfl]
theorem PK_pos (kf : Nat → List Int) (q r : Nat) (h : 0 < r) : PK kf q r = tkey kf q (half (r + 1)) :: PK kf (q + half (r + 1)) (r - half (r + 1)) := by rw [PK, dif_neg (by omega)]
theorem pks_flat (kf : Nat → List Int) : ∀ r q, pks kf q r = (PK kf q r).flatten := by
  intro r
  induction r using Nat.strongRecOn with
  | _ r ih =>
    intro q
    by_cases h : r = 0
    · subst h; rw [pks_zero, PK_zero]; rfl
    · have h1 := half_pos (r + 1)
      rw [pks_pos kf q r (by omega), PK_pos kf q r (by omega), List.flatten_cons, ih _ (by omega)]
theorem PK_len (kf : Nat → List Int) : ∀ r q, (PK kf q r).length = pksN r := by
  intro r
  induction r using Nat.strongRecOn with
  | _ r ih =>
    intro q
    by_cases h : r = 0
    · subst h; rw [pksN_zero, PK_zero]; rfl
    · have h1 := half_pos (r + 1)
      rw [pksN_pos r (by omega), PK_pos kf q r (by omega), List.length_cons, ih _ (by omega)]
theorem PK_each {kf : Nat → List Int} : ∀ r q, (∀ i, i < r → (kf (q + i)).length = 32) → ∀ x ∈ PK kf q r, x.length = 32 := by
  intro r
  induction r using Nat.strongRecOn with
  | _ r ih =>
    intro q hk x hx
    by_cases h : r = 0
    · subst h; rw [PK_zero] at hx; exact absurd hx (by simp)
    · have h1 := half_pos (r + 1)
      have h2 := half_lt (n := r + 1) (by omega)
      rw [PK_pos kf q r (by omega)] at hx
      rcases List.mem_cons.1 hx with rfl | hx
      · exact tkey_len (by omega) (fun i hi => hk i (by omega))
      · exact ih _ (by omega) _ (fun i hi => by rw [Nat.add_assoc]; exact hk _ (by omega)) x hx
theorem top_pow {r : Nat} (h : 0 < r) : ∃ k, half (r + 1) = 2 ^ k ∧ 2 ^ k ≤ r ∧ r < 2 * 2 ^ k := by
  have h2 := half_lt (n := r + 1) (by omega)
  have h3 := half_ge (n := r + 1) (by omega)
  have e : half (r + 1) = 2 ^ Nat.log2 r := by unfold half; rw [Nat.add_sub_cancel]
  rw [e] at h2 h3
  exact ⟨Nat.log2 r, e, by omega, by omega⟩
theorem pow_small {k b : Nat} (h : 2 ^ k < 2 ^ b) : k < b := (Nat.pow_lt_pow_iff_right (by omega)).1 h
theorem tz_in : ∀ k, k < 8 → ∀ r, r < 256 → 2 ^ k ≤ r → r + 1 < 2 * 2 ^ k → tz 10 r = tz 10 (r - 2 ^ k) := by decide +kernel
theorem tz_all : ∀ k, k < 8 → tz 10 (2 * 2 ^ k - 1) = tz 10 (2 ^ k - 1) + 1 := by decide +kernel
theorem ones_in : ∀ k, k < 9 → ∀ r, r < 257 → 2 ^ k ≤ r → r < 2 * 2 ^ k → onesF 10 r = onesF 10 (r - 2 ^ k) + 1 := by decide +kernel
theorem pksN_ones : ∀ r, r ≤ 256 → pksN r = ones r := by
  intro r
  induction r using Nat.strongRecOn with
  | _ r ih =>
    intro hr
    by_cases h : r = 0
    · subst h; rw [pksN_zero]; rfl
    · obtain ⟨k, e, h1, h2⟩ := top_pow (r := r) (by omega)
      have hk : k < 9 := pow_small (b := 9) (by omega)
      have := Nat.two_pow_pos k
      rw [pksN_pos r (by omega), e, ih _ (by omega) (by omega)]
      exact (ones_in k hk r (by omega) h1 h2).symm
/-- What becomes of the last peaks and a leaf. -/
def cK (L : List (List Int)) (leaf : List Int) : Nat → List Int
  | 0 => leaf
  | d + 1 => nodeK (L[L.length - 1 - d]?.getD []) (cK L leaf d)
theorem cK_cons (x : List Int) (L : List (List Int)) (leaf : List Int) : ∀ d, d ≤ L.length → cK (x :: L) leaf d = cK L leaf d
  | 0, _ => rfl
  | d + 1, h => by
    rw [cK, cK, cK_cons x L leaf d (by omega), show (x :: L).length - 1 - d = (L.length - 1 - d) + 1 by simp; omega, List.getElem?_cons_succ]
theorem PK_grow (kf : Nat → List Int) : ∀ r, r < 256 → ∀ q, tz 10 r ≤ (PK kf q r).length ∧ PK kf q (r + 1) = (PK kf q r).take ((PK kf q r).length - tz 10 r) ++ [cK (PK kf q r) (kf (q + r)) (tz 10 r)] := by
  intro r
  induction r using Nat.strongRecOn with
  | _ r ih =>
    intro hr q
    by_cases h : r = 0
    · subst h
      have e : half 2 = 1 := by decide +kernel
      refine ⟨by rw [PK_zero]; decide, ?_⟩
      rw [PK_pos kf q 1 (by omega), e, PK_zero, PK_zero, tkey_one]
      rfl
    · obtain ⟨k, e, h1, h2⟩ := top_pow (r := r) (by omega)
      have hk : k < 8 := pow_small (b := 8) (by omega)
      have hp := Nat.two_pow_pos k
      have eR := PK_pos kf q r (by omega)
      rw [e] at eR
      by_cases h3 : r + 1 < 2 * 2 ^ k
      · have e2 : half (r + 1 + 1) = 2 ^ k := half_eq (by omega) (by omega)
        have eR1 := PK_pos kf q (r + 1) (by omega)
        rw [e2, show r + 1 - 2 ^ k = r - 2 ^ k + 1 by omega] at eR1
        obtain ⟨g1, g2⟩ := ih (r - 2 ^ k) (by omega) (by omega) (q + 2 ^ k)
        rw [show q + 2 ^ k + (r - 2 ^ k) = q + r by omega, ← tz_in k hk r hr h1 h3] at g2
        rw [← tz_in k hk r hr h1 h3] at g1
        rw [eR1, eR, g2, cK_cons _ _ _ _ g1]
        refine ⟨by rw [List.length_cons]; omega, ?_⟩
        rw [List.length_cons, show (PK kf (q + 2 ^ k) (r - 2 ^ k)).length + 1 - tz 10 r = ((PK kf (q + 2 ^ k) (r - 2 ^ k)).length - tz 10 r) + 1 by omega, List.take_succ_cons, List.cons_append]
      · have h4 : r = 2 * 2 ^ k - 1 := by omega
        have e3 : 2 ^ (k + 1) = 2 * 2 ^ k := by rw [Nat.pow_succ, Nat.mul_comm]
        have e2 : half (r + 1 + 1) = 2 ^ (k + 1) := half_eq (by omega) (by omega)
        have eh : half (2 * 2 ^ k) = 2 ^ k := half_eq (by omega) (by omega)
        have eR1 := PK_pos kf q (r + 1) (by omega)
        rw [e2, e3, show r + 1 - 2 * 2 ^ k = 0 by omega, PK_zero, tkey_two kf q (2 * 2 ^ k) (by omega), eh, show 2 * 2 ^ k - 2 ^ k = 2 ^ k by omega] at eR1
        obtain ⟨g1, g2⟩ := ih (2 ^ k - 1) (by omega) (by omega) (q + 2 ^ k)
        have ez : tz 10 r = tz 10 (2 ^ k - 1) + 1 := by rw [h4]; exact tz_all k hk
        have es : PK kf (q + 2 ^ k) (2 ^ k - 1 + 1) = [tkey kf (q + 2 ^ k) (2 ^ k)] := by
          rw [PK_pos kf _ _ (by omega), show half (2 ^ k - 1 + 1 + 1) = 2 ^ k from half_eq (by omega) (by omega), show 2 ^ k - 1 + 1 - 2 ^ k = 0 by omega, PK_zero]
        rw [es, show q + 2 ^ k + (2 ^ k - 1) = q + r by omega] at g2
        rw [show r - 2 ^ k = 2 ^ k - 1 by omega] at eR
        have gl := congrArg List.length g2
        rw [List.length_append, List.length_take, List.length_singleton, List.length_singleton] at gl
        have glen : (PK kf (q + 2 ^ k) (2 ^ k - 1)).length = tz 10 (2 ^ k - 1) := by omega
        rw [glen, Nat.sub_self, List.take_zero, List.nil_append] at g2
        have gc : tkey kf (q + 2 ^ k) (2 ^ k) = cK (PK kf (q + 2 ^ k) (2 ^ k - 1)) (kf (q + r)) (tz 10 (2 ^ k - 1)) := (List.cons.inj g2).1
        rw [eR1, eR, ez]
        refine ⟨by rw [List.length_cons, glen]; omega, ?_⟩
        rw [List.length_cons, glen, Nat.sub_self, List.take_zero, List.nil_append, cK, cK_cons _ _ _ _ (by omega), ← gc, List.length_cons, glen, show tz 10 (2 ^ k - 1) + 1 - 1 - tz 10 (2 ^ k - 1) = 0 by omega]
        rfl
/-- The key to which peaks lead. -/
def oR (L : List (List Int)) : Nat → List Int
  | 0 => L[L.length - 1]?.getD []
  | d + 1 => nodeK (L[L.length - 2 - d]?.getD []) (oR L d)
theorem oR_cons (x : List Int) (L : List (List Int)) : ∀ d, d + 1 ≤ L.length → oR (x :: L) d = oR L d
  | 0, h => by rw [oR, oR, show (x :: L).length - 1 = (L.length - 1) + 1 by simp; omega, List.getElem?_cons_succ]
  | d + 1, h => by rw [oR, oR, oR_cons x L d (by omega), show (x :: L).length - 2 - d = (L.length - 2 - d) + 1 by simp; omega, List.getElem?_cons_succ]
theorem PK_key (kf : Nat → List Int) : ∀ r, 0 < r → ∀ q, oR (PK kf q r) ((PK kf q r).length - 1) = tkey kf q r := by
  intro r
  induction r using Nat.strongRecOn with
  | _ r ih =>
    intro h q
    obtain ⟨k, e, h1, h2⟩ := top_pow h
    have hp := Nat.two_pow_pos k
    rw [PK_pos kf q r h, e]
    by_cases h3 : r = 2 ^ k
    · rw [h3, Nat.sub_self, PK_zero]
      rfl
    · have hi := ih (r - 2 ^ k) (by omega) (by omega) (q + 2 ^ k)
      have hl : 0 < (PK kf (q + 2 ^ k) (r - 2 ^ k)).length := by
        rw [PK_pos kf _ _ (by omega)]
        simp
      have eh : half r = 2 ^ k := half_eq (by omega) (by omega)
      rw [tkey_two kf q r (by omega), eh, ← hi]
      generalize PK kf (q + 2 ^ k) (r - 2 ^ k) = L at hl
      obtain ⟨m, hm⟩ : ∃ m, L.length = m + 1 := ⟨L.length - 1, by omega⟩
      rw [List.length_cons, Nat.add_sub_cancel, hm, oR, Nat.add_sub_cancel, oR_cons _ _ _ (by omega), List.length_cons, hm, show m + 1 + 1 - 2 - m = 0 by omega]
      rfl
theorem keyAt_flat : ∀ (L : List (List Int)), (∀ x ∈ L, x.length = 32) → ∀ i, i < L.length → keyAt L.flatten i = L[i]?.getD []
  | [], _, i, h => absurd h (by simp)
  | x :: L, hx, 0, _ => by
    have h1 := hx x (by simp)
    unfold keyAt
    rw [Nat.mul_zero, List.drop_zero, List.flatten_cons, List.take_append_of_le_length (by omega), List.take_of_length_le (by omega)]
    rfl
  | x :: L, hx, i + 1, h => by
    have h1 := hx x (by simp)
    have hi := keyAt_flat L (fun y hy => hx y (by simp [hy])) i (by simpa using h)
    unfold keyAt at hi ⊢
    rw [List.flatten_cons, List.drop_append, List.drop_eq_nil_of_le (by omega), List.nil_append, h1, show 32 * (i + 1) - 32 = 32 * i by omega, hi, List.getElem?_cons_succ]
theorem take_flat : ∀ (L : List (List Int)), (∀ x ∈ L, x.length = 32) → ∀ m, m ≤ L.length → L.flatten.take (32 * m) = (L.take m).flatten
  | [], _, m, _ => by simp
  | x :: L, _, 0, _ => by simp
  | x :: L, hx, m + 1, h => by
    have h1 := hx x (by simp)
    have hi := take_flat L (fun y hy => hx y (by simp [hy])) m (by simpa using h)
    rw [List.flatten_cons, List.take_append, List.take_of_length_le (by omega), h1, show 32 * (m + 1) - 32 = 32 * m by omega, hi, List.take_succ_cons, List.flatten_cons]
theorem addK_flat (L : List (List Int)) (hx : ∀ x ∈ L, x.length = 32) (leaf : List Int) : ∀ d, d ≤ L.length → addK L.flatten leaf L.length d = cK L leaf d
  | 0, _ => rfl
  | d + 1, h => by rw [addK, cK, addK_flat L hx leaf d (by omega), keyAt_flat L hx _ (by omega)]
theorem ofR_flat (L : List (List Int)) (hx : ∀ x ∈ L, x.length = 32) : ∀ d, d + 1 ≤ L.length → ofR L.flatten L.length d = oR L d
  | 0, h => by rw [ofR, oR, keyAt_flat L hx _ (by omega)]
  | d + 1, h => by rw [ofR, oR, ofR_flat L hx d (by omega), keyAt_flat L hx _ (by omega)]
/-- A leaf more. -/
theorem add_grow {kf : Nat → List Int} {r : Nat} (hr : r < 256) (hk : ∀ i, i < r → (kf i).length = 32) : gcode (pksN r) (r : Int) 255 = 0 ∧ adN (pksN r) (r : Int) = pksN (r + 1) ∧ adV (pks kf 0 r) (pksN r) (r : Int) (kf r) = pks kf 0 (r + 1) := by
  have hg : gcode (pksN r) (r : Int) 255 = 0 := by
    have e := pksN_ones r (by omega)
    have := pksN_le r
    unfold gcode
    rw [if_neg (by omega), if_neg (by omega), Int.toNat_natCast, if_neg (by rw [e]; simp)]
  have hx := PK_each (kf := kf) r 0 (fun i hi => by rw [Nat.zero_add]; exact hk i hi)
  obtain ⟨g1, g2⟩ := PK_grow kf r hr 0
  have hl := PK_len kf r 0
  rw [Nat.zero_add] at g2
  refine ⟨hg, ?_, ?_⟩
  · unfold adN
    rw [if_pos hg, Int.toNat_natCast, ← PK_len kf (r + 1) 0, g2, List.length_append, List.length_take, List.length_singleton, ← hl]
    omega
  · unfold adV
    rw [if_pos hg, Int.toNat_natCast, pks_flat kf (r + 1) 0, pks_flat kf r 0, g2, ← hl, take_flat _ hx _ (by omega), addK_flat _ hx _ _ g1, List.flatten_append]
    simp
/-- The key of the list. -/
theorem kop_grow {kf : Nat → List Int} {r : Nat} (hr : r ≤ 256) (hk : ∀ i, i < r → (kf i).length = 32) : gcode (pksN r) (r : Int) 256 = 0 ∧ kopV (pks kf 0 r) (pksN r) (r : Int) = (if r = 0 then hashK 3 [] else tkey kf 0 r) := by
  have hg : gcode (pksN r) (r : Int) 256 = 0 := by
    have e := pksN_ones r (by omega)
    have := pksN_le r
    unfold gcode
    rw [if_neg (by omega), if_neg (by omega), Int.toNat_natCast, if_neg (by rw [e]; simp)]
  refine ⟨hg, ?_⟩
  unfold kopV
  rw [if_neg (by rw [hg]; simp)]
  by_cases h : r = 0
  · rw [if_pos (by omega), if_pos h]
  · rw [if_neg (by omega), if_neg h]
    have hx := PK_each (kf := kf) r 0 (fun i hi => by rw [Nat.zero_add]; exact hk i hi)
    have hl := PK_len kf r 0
    have hl0 : 0 < pksN r := by rw [pksN_pos r (by omega)]; omega
    rw [pks_flat, ← hl, ofR_flat _ hx _ (by omega)]
    exact PK_key kf r (by omega) 0
end Go.Proofs.Ytfnmmpnmbommeaa
namespace Go.Proofs.Ytfnmmpnmbommeaa
open Go.ChangeShapes Go.WideShapes Go.ChangeAt Go.RowKit
set_option linter.unusedVariables false
set_option linter.unusedSimpArgs false
/-- The peaks of the first m leaves that lie in a part, one by one; and the other parts. -/
def PLk (kf : Nat → List Int) (m n b : Nat) : List (List Int) :=
  if kdG m b n = 0 then (if m ≤ b then [] else [tkey kf b n]) else if h : n ≤ 1 then [] else PLk kf m (half n) b ++ PLk kf m (n - half n) (b + half n)
termination_by n
decreasing_by
  · exact half_lt (by omega)
  · have := half_pos n; have := half_lt (n := n) (by omega); omega
def OLk (kf : Nat → List Int) (m n b : Nat) : List (List Int) :=
  if kdG m b n = 0 then (if m ≤ b then [tkey kf b n] else []) else if h : n ≤ 1 then [] else OLk kf m (half n) b ++ OLk kf m (n - half n) (b + half n)
termination_by n
decreasing_by
  · exact half_lt (by omega)
  · have := half_pos n; have := half_lt (n := n) (by omega); omega
theorem PLk_over {kf : Nat → List Int} {m n b : Nat} (h : m ≤ b) : PLk kf m n b = [] := by
  rw [PLk, if_pos (by unfold kdG; rw [if_pos (Or.inr h)]), if_pos h]
theorem OLk_over {kf : Nat → List Int} {m n b : Nat} (h : m ≤ b) : OLk kf m n b = [tkey kf b n] := by
  rw [OLk, if_pos (by unfold kdG; rw [if_pos (Or.inr h)]), if_pos h]
theorem PLk_peak {kf : Nat → List Int} {m n b : Nat} (h : kdG m b n = 0) (h2 : ¬ m ≤ b) : PLk kf m n b = [tkey kf b n] := by rw [PLk, if_pos h, if_neg h2]
theorem OLk_peak {kf : Nat → List Int} {m n b : Nat} (h : kdG m b n = 0) (h2 : ¬ m ≤ b) : OLk kf m n b = [] := by rw [OLk, if_pos h, if_neg h2]
theorem PLk_two {kf : Nat → List Int} {m n b : Nat} (h : ¬ kdG m b n = 0) (h2 : 1 < n) : PLk kf m n b = PLk kf m (half n) b ++ PLk kf m (n - half n) (b + half n) := by rw [PLk, if_neg h, dif_neg (by omega)]
theorem OLk_two {kf : Nat → List Int} {m n b : Nat} (h : ¬ kdG m b n = 0) (h2 : 1 < n) : OLk kf m n b = OLk kf m (half n) b ++ OLk kf m (n - half n) (b + half n) := by rw [OLk, if_neg h, dif_neg (by omega)]
theorem PLk_len (kf : Nat → List Int) (m : Nat) : ∀ n b, 1 ≤ n → (PLk kf m n b).length = needP m n b ∧ (OLk kf m n b).length = needO m n b := by
  intro n
  induction n using Nat.strongRecOn with
  | _ n ih =>
    intro b h1
    by_cases h : kdG m b n = 0
    · by_cases hb : m ≤ b
      · rw [PLk_over hb, OLk_over hb, needP_over hb, needO_over hb]; exact ⟨rfl, rfl⟩
      · rw [PLk_peak h hb, OLk_peak h hb]
        unfold needP needO
        rw [needW_read h, needW_read h]
        unfold isP isO
        rw [if_neg hb, if_neg hb]
        exact ⟨rfl, rfl⟩
    · have h3 := kdG_more h h1
      have a1 := half_pos n
      have a2 := half_lt (n := n) (by omega)
      obtain ⟨p1, o1⟩ := ih _ a2 b a1
      obtain ⟨p2, o2⟩ := ih (n - half n) (by omega) (b + half n) (by omega)
      rw [PLk_two h h3, OLk_two h h3, List.length_append, List.length_append, p1, p2, o1, o2]
      unfold needP needO
      rw [needW_two h h3, needW_two h h3]
      exact ⟨rfl, rfl⟩
/-- The key that is read is that of the part. -/
theorem kg2_tkey {kf kg : Nat → List Int} {m K : Nat} : ∀ n b pp po, 1 ≤ n → (∀ i, i < (PLk kf m n b).length → kg (pp + i) = (PLk kf m n b)[i]?.getD []) → (∀ i, i < (OLk kf m n b).length → kg (K + (po + i)) = (OLk kf m n b)[i]?.getD []) → kg2 m K kg n b pp po = tkey kf b n := by
  intro n
  induction n using Nat.strongRecOn with
  | _ n ih =>
    intro b pp po h1 hP hO
    by_cases h : kdG m b n = 0
    · by_cases hb : m ≤ b
      · rw [kg2_over hb]
        rw [OLk_over hb] at hO
        exact hO 0 (by simp)
      · rw [kg2_peak h hb]
        rw [PLk_peak h hb] at hP
        exact hP 0 (by simp)
    · have h3 := kdG_more h h1
      have a1 := half_pos n
      have a2 := half_lt (n := n) (by omega)
      obtain ⟨p1, o1⟩ := PLk_len kf m (half n) b a1
      rw [PLk_two h h3] at hP
      rw [OLk_two h h3] at hO
      rw [kg2_two h h3, tkey_two kf b n (by omega)]
      rw [ih (half n) a2 b pp po a1 (fun i hi => by
        rw [hP i (by rw [List.length_append]; omega), List.getElem?_append_left hi]) (fun i hi => by
        rw [hO i (by rw [List.length_append]; omega), List.getElem?_append_left hi])]
      rw [ih (n - half n) (by omega) (b + half n) (pp + needP m (half n) b) (po + needO m (half n) b) (by omega) (fun i hi => by
        rw [Nat.add_assoc, hP _ (by rw [List.length_append, p1]; omega), List.getElem?_append_right (by omega), p1, Nat.add_sub_cancel_left]) (fun i hi => by
        rw [show po + needO m (half n) b + i = po + (needO m (half n) b + i) by omega, hO _ (by rw [List.length_append, o1]; omega), List.getElem?_append_right (by omega), o1, Nat.add_sub_cancel_left])]
theorem ones_one : ∀ n : Nat, n < 257 → onesF 10 n = 0 → n = 0 := by decide +kernel
theorem PLk_peaks (kf : Nat → List Int) (m : Nat) : ∀ n b, 1 ≤ n → n ≤ 256 → PLk kf m n b = PK kf b (min (m - b) n) := by
  intro n
  induction n using Nat.strongRecOn with
  | _ n ih =>
    intro b h1 hn
    by_cases hb : m ≤ b
    · rw [PLk_over hb, show min (m - b) n = 0 by omega, PK_zero]
    · by_cases h : kdG m b n = 0
      · have h3 : b + n ≤ m ∧ ones n = 1 := by
          unfold kdG at h
          split at h
          · rename_i h4
            rcases h4 with h4 | h4
            · exact h4
            · omega
          · omega
        obtain ⟨k, e, g1, g2⟩ := top_pow (r := n) (by omega)
        have hk : k < 9 := pow_small (b := 9) (by omega)
        have ho := ones_in k hk n (by omega) g1 g2
        have ho1 : onesF 10 n = 1 := h3.2
        have hz := ones_one (n - 2 ^ k) (by omega) (by omega)
        rw [PLk_peak h hb, show min (m - b) n = n by omega, PK_pos kf b n (by omega), e, show n - 2 ^ k = 0 by omega, PK_zero, show 2 ^ k = n by omega]
      · have h3 := kdG_more h h1
        have a1 := half_pos n
        have a2 := half_lt (n := n) (by omega)
        have a3 := half_ge (n := n) (by omega)
        have hnot : ¬ (b + n ≤ m ∧ ones n = 1) := fun hh => h (by unfold kdG; rw [if_pos (Or.inl hh)])
        obtain ⟨k, hk, hp⟩ := half_pow (n := n) (by omega) hn
        have o2 := ones_pow (k + 1) (by omega)
        have e2 : 2 ^ (k + 1) = 2 * 2 ^ k := by rw [Nat.pow_succ, Nat.mul_comm]
        rw [PLk_two h h3, ih _ a2 b a1 (by omega), ih _ (by omega) (b + half n) (by omega) (by omega)]
        rw [hp] at a1 a2 a3 ⊢
        by_cases h4 : m - b ≤ 2 ^ k
        · rw [show min (m - b) (2 ^ k) = m - b by omega, show min (m - (b + 2 ^ k)) (n - 2 ^ k) = 0 by omega, show min (m - b) n = m - b by omega, PK_zero, List.append_nil]
        · have hx : min (m - b) n < 2 * 2 ^ k := by
            rcases Nat.lt_or_ge (min (m - b) n) (2 * 2 ^ k) with h5 | h5
            · exact h5
            · exfalso
              have h6 : n = 2 * 2 ^ k := by omega
              exact hnot ⟨by omega, by rw [h6, ← e2]; exact o2⟩
          have eh : half (2 ^ k + 1) = 2 ^ k := half_eq (by omega) (by omega)
          have eh2 : half (min (m - b) n + 1) = 2 ^ k := half_eq (by omega) (by omega)
          rw [show min (m - b) (2 ^ k) = 2 ^ k by omega, PK_pos kf b (2 ^ k) (by omega), eh, Nat.sub_self, PK_zero, PK_pos kf b (min (m - b) n) (by omega), eh2, show min (m - (b + 2 ^ k)) (n - 2 ^ k) = min (m - b) n - 2 ^ k by omega]
          rfl
theorem OLk_in (kf : Nat → List Int) (m : Nat) : ∀ n b, 1 ≤ n → b + n ≤ m → OLk kf m n b = [] := by
  intro n b h1 h2
  have := (PLk_len kf m n b h1).2
  rw [needO_in n b h1 h2] at this
  exact List.eq_nil_of_length_eq_zero this
theorem OLk_range (kf : Nat → List Int) (m : Nat) : ∀ n b, 1 ≤ n → (OLk kf m n b).flatten = rg kf b n (-(b : Int)) ((m : Int) - (b : Int)) := by
  intro n
  induction n using Nat.strongRecOn with
  | _ n ih =>
    intro b h1
    by_cases hb : m ≤ b
    · rw [OLk_over hb, rg_miss (Or.inl (by omega))]
      simp
    · by_cases h2 : b + n ≤ m
      · rw [OLk_in kf m n b h1 h2, rg_inner n b _ _ h1 (by omega) (by omega)]
        rfl
      · have h : ¬ kdG m b n = 0 := by
          unfold kdG
          rw [if_neg (by omega)]
          omega
        have h3 := kdG_more h h1
        have a1 := half_pos n
        have a2 := half_lt (n := n) (by omega)
        have hr := rg_two (kf := kf) (b := b) (n := n) (i := -(b : Int)) (j := (m : Int) - (b : Int)) (by omega) (by omega)
        rw [OLk_two h h3, List.flatten_append, ih _ a2 b a1, ih _ (by omega) (b + half n) (by omega), hr, show -((b + half n : Nat) : Int) = -(b : Int) - ((half n : Nat) : Int) by omega, show (m : Int) - ((b + half n : Nat) : Int) = (m : Int) - (b : Int) - ((half n : Nat) : Int) by omega]
theorem flat_len : ∀ (L : List (List Int)), (∀ x ∈ L, x.length = 32) → L.flatten.length = 32 * L.length
  | [], _ => rfl
  | x :: L, h => by
    have h1 := h x (by simp)
    have h2 := flat_len L (fun y hy => h y (by simp [hy]))
    rw [List.flatten_cons, List.length_append, h1, h2, List.length_cons]
    omega
theorem OLk_each {kf : Nat → List Int} {m : Nat} : ∀ n b, 1 ≤ n → (∀ i, i < n → (kf (b + i)).length = 32) → ∀ x ∈ OLk kf m n b, x.length = 32 := by
  intro n
  induction n using Nat.strongRecOn with
  | _ n ih =>
    intro b h1 hk x hx
    by_cases h : kdG m b n = 0
    · by_cases hb : m ≤ b
      · rw [OLk_over hb, List.mem_singleton] at hx
        rw [hx]
        exact tkey_len h1 hk
      · rw [OLk_peak h hb] at hx
        exact absurd hx (by simp)
    · have h3 := kdG_more h h1
      have a1 := half_pos n
      have a2 := half_lt (n := n) (by omega)
      rw [OLk_two h h3] at hx
      rcases List.mem_append.1 hx with hx | hx
      · exact ih _ a2 b a1 (fun i hi => hk i (by omega)) x hx
      · exact ih _ (by omega) (b + half n) (by omega) (fun i hi => by rw [Nat.add_assoc]; exact hk _ (by omega)) x hx
theorem gr_ok {kf : Nat → List Int} {n m : Nat} (h1 : 1 ≤ m) (h2 : m ≤ n) (h3 : n ≤ 256) (hk : ∀ i, i < n → (kf i).length = 32) :
    ones m = pksN m ∧ pksN m + rgN n 0 (m : Int) = need (kdG m) n 0 ∧ kgen (kdG m) lfG (keyAt (pks kf 0 m ++ rg kf 0 n 0 (m : Int))) n 0 0 = tkey kf 0 n ∧ ofR ((pks kf 0 m ++ rg kf 0 n 0 (m : Int)).take (32 * ones m)) (ones m) (ones m - 1) = tkey kf 0 m := by
  have e0 := pksN_ones m (by omega)
  have eP : PLk kf m n 0 = PK kf 0 m := by rw [PLk_peaks kf m n 0 (by omega) h3, Nat.sub_zero, Nat.min_eq_left h2]
  have eO := OLk_range kf m n 0 (by omega)
  rw [show (-((0 : Nat) : Int)) = 0 by omega, show (m : Int) - ((0 : Nat) : Int) = (m : Int) by omega] at eO
  obtain ⟨lp, lo⟩ := PLk_len kf m n 0 (by omega)
  rw [eP, PK_len] at lp
  have hkm : ∀ i, i < m → (kf (0 + i)).length = 32 := fun i hi => by rw [Nat.zero_add]; exact hk i (by omega)
  have hPe := PK_each (kf := kf) m 0 hkm
  have hOe : ∀ x ∈ OLk kf m n 0, x.length = 32 := OLk_each n 0 (by omega) (fun i hi => by rw [Nat.zero_add]; exact hk i hi)
  have hall : ∀ x ∈ PK kf 0 m ++ OLk kf m n 0, x.length = 32 := fun x hx => by
    rcases List.mem_append.1 hx with hx | hx
    · exact hPe x hx
    · exact hOe x hx
  have ef : pks kf 0 m ++ rg kf 0 n 0 (m : Int) = (PK kf 0 m ++ OLk kf m n 0).flatten := by rw [List.flatten_append, pks_flat, eO]
  have hrn : rgN n 0 (m : Int) = needO m n 0 := by
    have hl := rg_len (kf := kf) n 0 0 (m : Int) (by omega) (fun k hk' => by rw [Nat.zero_add]; exact hk k hk')
    rw [← eO, flat_len _ hOe, lo] at hl
    omega
  have hK : (PK kf 0 m).length = ones m := by rw [PK_len, e0]
  refine ⟨e0.symm, ?_, ?_, ?_⟩
  · rw [need_PO m n 0 (by omega), ← lp, hrn]
  · rw [← kg2_kgen (m := m) (K := ones m) (kf := keyAt (pks kf 0 m ++ rg kf 0 n 0 (m : Int))) n 0 0 0 0 (by omega) (fun h => by omega) (fun _ => ⟨rfl, rfl⟩) (fun _ _ => by rw [Nat.zero_add, ← lp, e0])]
    refine kg2_tkey n 0 0 0 (by omega) (fun i hi => ?_) (fun i hi => ?_)
    · rw [ef, Nat.zero_add]
      rw [eP] at hi ⊢
      rw [keyAt_flat _ hall i (by rw [List.length_append]; omega), List.getElem?_append_left hi]
    · rw [ef, Nat.zero_add, keyAt_flat _ hall _ (by rw [List.length_append, hK]; omega), List.getElem?_append_right (by omega), hK, Nat.add_sub_cancel_left]
  · have hpl : (pks kf 0 m).length = 32 * ones m := by rw [pks_len m 0 hkm, e0]
    rw [List.take_left' hpl, pks_flat, ← hK, ofR_flat _ hPe _ (by
      have : 0 < (PK kf 0 m).length := by rw [PK_pos kf 0 m (by omega)]; simp
      omega)]
    exact PK_key kf m (by omega) 0
end Go.Proofs.Ytfnmmpnmbommeaa
namespace Go.Proofs.Ytfnmmpnmbommeaa
open Go.ChangeShapes Go.WideShapes Go.ChangeAt Go.RowKit
set_option linter.unusedVariables false
set_option linter.unusedSimpArgs false
set_option maxHeartbeats 2000000 in
theorem at_law (a : Option Addr) (n c : Nat) (l : List Int) (hn : n ≤ 1048576) (hl : ∀ z ∈ l, 0 ≤ z ∧ z ≤ 255) (k : Nat) (hk : k ≤ 100) (N : Int) (h1 : 1 ≤ N) (h2 : N ≤ 1000000) (w : World) (hr : Rd .u8 w a n l) :
    Calls Try.prog 24 #[.slice a n c, .int .i64 (k : Int), .int .i64 N] w fun x w' => ∃ r : Int, x = .returned (.int .i64 r) ∧ 0 ≤ r ∧ r < N ∧ w = w' := by
  by_cases h : k < n
  · obtain ⟨hll, h3⟩ := hr
    rcases h3 with h3 | ⟨b, o, rfl, hb, hcc⟩
    · omega
    · obtain ⟨z, z0, z1, hc⟩ : ∃ z : Int, 0 ≤ z ∧ z ≤ 255 ∧ w.cell? ⟨b, o + k, none⟩ = some (.int .u8 z) := by
        have hz := hl (l[k]'(by omega)) (List.getElem_mem _)
        have hc := hcc k h
        rw [List.getElem?_eq_getElem (show k < l.length by omega)] at hc
        exact ⟨_, hz.1, hz.2, hc⟩
      clear hcc hl
      have i0 : (0 : Int) ≤ (k : Int) := by omega
      have i1 : (k : Int) < (n : Int) := by omega
      have i2 : ¬ (n : Int) ≤ (k : Int) := by omega
      have i3 : ¬ N < 1 := by omega
      have i4 : (N == 0) = false := by rw [beq_eq_false_iff_ne]; omega
      have i5 : N ≠ 0 := by omega
      go_enter Try.func24, Try.ntmps24
      go_wp2
      go_ret
      exact ⟨_, rfl, Int.emod_nonneg _ i5, Int.emod_lt_of_pos _ (show 0 < N by omega), rfl⟩
  · have i2 : (n : Int) ≤ (k : Int) := by omega
    go_enter Try.func24, Try.ntmps24
    go_wp2
    go_ret
    exact ⟨0, rfl, by omega, by omega, rfl⟩
theorem gv_true {old now pl : List Int} {m n P : Nat} (h1 : 1 ≤ m) (h2 : m ≤ n) (h3 : n ≤ 256) (hP : P ≤ 256) (hk : ones m ≤ P) (h4 : ofR (pl.take (32 * ones m)) (ones m) (ones m - 1) = old) (h5 : P = need (kdG m) n 0) (h6 : kgen (kdG m) lfG (keyAt pl) n 0 0 = now) :
    cgV old now (m : Int) (n : Int) P pl = true ∧ cgE (m : Int) (n : Int) P = 0 := by
  have hC : cgC (m : Int) (n : Int) := ⟨by omega, by omega, by omega⟩
  have hn : ¬ 256 < P := by omega
  unfold cgV cgE cgB
  rw [if_neg hn, if_neg hn, if_pos hC, if_pos hC, Int.toNat_natCast, Int.toNat_natCast, h4, h6, decide_eq_true hk, decide_eq_true h5]
  simp
theorem gv_wrong {old o now pl : List Int} {m n P : Nat} (h1 : 1 ≤ m) (h2 : m ≤ n) (h3 : n ≤ 256) (hP : P ≤ 256) (h4 : ofR (pl.take (32 * ones m)) (ones m) (ones m - 1) = old) (h5 : old ≠ o) :
    cgV o now (m : Int) (n : Int) P pl = false ∧ cgE (m : Int) (n : Int) P = 0 := by
  have hC : cgC (m : Int) (n : Int) := ⟨by omega, by omega, by omega⟩
  have hn : ¬ 256 < P := by omega
  unfold cgV cgE cgB
  rw [if_neg hn, if_neg hn, if_pos hC, if_pos hC, Int.toNat_natCast, Int.toNat_natCast, h4, decide_eq_false h5]
  simp
theorem gv_long {old now pl : List Int} {m n P : Nat} (h1 : 1 ≤ m) (h2 : m ≤ n) (h3 : n ≤ 256) (hP : P ≤ 256) (h5 : P ≠ need (kdG m) n 0) :
    cgV old now (m : Int) (n : Int) P pl = false ∧ cgE (m : Int) (n : Int) P = 0 := by
  have hC : cgC (m : Int) (n : Int) := ⟨by omega, by omega, by omega⟩
  have hn : ¬ 256 < P := by omega
  unfold cgV cgE cgB
  rw [if_neg hn, if_neg hn, if_pos hC, if_pos hC, Int.toNat_natCast, Int.toNat_natCast, decide_eq_false h5]
  simp
theorem gv_more {old now pl : List Int} {n P : Nat} (hP : P ≤ 256) :
    cgV old now ((n : Int) + 1) (n : Int) P pl = false ∧ cgE ((n : Int) + 1) (n : Int) P = 2 := by
  have hC : ¬ cgC ((n : Int) + 1) (n : Int) := fun h => by have := h.2.1; omega
  have hn : ¬ 256 < P := by omega
  unfold cgV cgE
  rw [if_neg hn, if_neg hn, if_neg hC, if_neg hC]
  exact ⟨rfl, rfl⟩
theorem owns_keepX {g base e n size : Nat} {w w' : World} {v : Value} {xs : List Value} (hb : v.ownBlock ≠ some g) (o : w.ownsRow base e size v n xs) (k : Keep w.heap.size (· = g) w w') : w'.ownsRow base e size v n xs := by
  refine ⟨o.1, ?_⟩
  rcases o.2 with h0 | ⟨c, cap, cur, hv, hc, hh, r⟩
  · exact Or.inl h0
  · subst hv
    exact Or.inr ⟨c, cap, cur, rfl, hc, k.hold (fun e => hb (by rw [← e]; rfl)) hh, r⟩
theorem rg_rangeG {kf : Nat → List Int} (hk : ∀ i, ∀ z ∈ kf i, 0 ≤ z ∧ z ≤ 255) : ∀ (n b : Nat) (i j : Int), 1 ≤ n → ∀ z ∈ rg kf b n i j, 0 ≤ z ∧ z ≤ 255 := by
  intro n
  induction n using Nat.strongRecOn with
  | _ n ih =>
    intro b i j h1 z hz
    by_cases h : j ≤ 0 ∨ (n : Int) ≤ i
    · rw [rg_miss h] at hz
      exact tkey_range h1 (fun k _ => hk _) z hz
    · by_cases h2 : n ≤ 1 ∨ (i ≤ 0 ∧ (n : Int) ≤ j)
      · rw [rg_in h h2] at hz
        exact absurd hz (by simp)
      · have a1 := half_pos n
        have a2 := half_lt (n := n) (by omega)
        rw [rg_two h h2] at hz
        rcases List.mem_append.1 hz with hz | hz
        · exact ih _ a2 b i j a1 z hz
        · exact ih _ (by omega) _ _ _ (by omega) z hz
theorem one_of_heapG {w : World} {x : Nat} {t : TypeId} {size : Nat} {c : Array Value} (h : w.heap[x]? = some (.cells c t)) (hc : c.size = size) : w.ownsRow x t size (.slice (some ⟨x, 0, none⟩) 1 1) 1 c.toList :=
  ⟨by simp [hc], Or.inr ⟨x, 1, c, rfl, Nat.le_refl _, h, Nat.le_refl _, by unfold maxLen; omega, by omega, by rw [List.take_of_length_le (by simp [hc])]⟩⟩
theorem owned_formG {w : World} {base n size : Nat} {e : TypeId} {v : Value} {xs : List Value} (h : w.ownsRow base e size v n xs) (h0 : 0 < n) : ∃ b c, v = .slice (some ⟨b, 0, none⟩) n c ∧ n ≤ c ∧ c ≤ maxLen ∧ base ≤ b := by
  rcases h.2 with ⟨rfl, h1⟩ | ⟨g, cap, cur, rfl, hb, hg, hc, hm, r⟩
  · omega
  · exact ⟨g, cap, rfl, hc, hm, hb⟩
theorem flip_byte : ∀ x : Nat, x < 256 → x ^^^ 1 ≠ x ∧ x ^^^ 1 < 256 := by decide +kernel
theorem flip_val (x : Int) (h0 : 0 ≤ x) (h1 : x ≤ 255) : bits BinOp.xor IntKind.u8 x 1 ≠ x ∧ 0 ≤ bits BinOp.xor IntKind.u8 x 1 ∧ bits BinOp.xor IntKind.u8 x 1 ≤ 255 := by
  have h := u8_xor x 1 h0 (by omega) (by omega) (by omega)
  obtain ⟨f1, f2⟩ := flip_byte x.toNat (by omega)
  have e : (1 : Int).toNat = 1 := rfl
  rw [e] at h
  rw [h]
  omega
theorem set_ne {l : List Int} {i : Nat} {y : Int} (hi : i < l.length) (h : y ≠ l[i]) : l ≠ l.set i y := fun e => by
  have := congrArg (fun m => m[i]?) e
  simp only [List.getElem?_set_self hi, List.getElem?_eq_getElem hi] at this
  exact h (Option.some.inj this).symm
set_option maxRecDepth 100000 in
set_option maxHeartbeats 16000000 in
theorem gw_in (a1 a2 : Option Addr) (n1 n2 c1 c2 : Nat) (l1 l2 : List Int) (hn1 : n1 ≤ 3000) (hn2 : n2 ≤ 3000) (fb1 : ∀ z ∈ l1, 0 ≤ z ∧ z ≤ 255) (fb2 : ∀ z ∈ l2, 0 ≤ z ∧ z ≤ 255) (w : World) (hr1 : Rd .u8 w a1 n1 l1) (hr2 : Rd .u8 w a2 n2 l2) :
    Calls Try.prog 4 #[.slice a1 n1 c1, .slice a2 n2 c2] w fun e w' => e = .returned (.bool true) ∧ Below w.heap.size w w' := by
  have Hz := Lib.hid z32_ints
  obtain ⟨i0, z0, hi, hz0, hz1, hz2, hzs, hzc⟩ := keyParts
  have Hi := Lib.hid hi
  have Hlg := Lib.hid (fun U => long_no a1 a2 n1 n2 c1 c2 ⟨hn1, hn2⟩ U)
  have Hk1 := Lib.hid (keys_src a1 n1 c1 l1 10 (by omega) fb1 (by omega) w hr1)
  have Hat := Lib.hid (fun (k : Nat) (hk : k ≤ 100) (N : Int) (h1 : 1 ≤ N) (h2 : N ≤ 1000000) U (hU : Below w.heap.size w U) => at_law a2 n2 c2 l2 (by omega) fb2 k hk N h1 h2 U (hr2.below hU))
  clear hr1 hr2 fb1 fb2 hi
  go_enter Try.func4, Try.ntmps4
  go_wp2_with fail
  refine (Hlg.out _).mono ?_
  rintro x w0 ⟨rfl, rfl⟩
  go_wp2_with fail
  refine Hk1.out.mono ?_
  rintro x w1 ⟨v1, m1, f1, rfl, o1, hm1, hl1, hf1, hb1⟩
  have B1 := Lib.hid hb1
  have O1 := Lib.hid o1
  have F1 := Lib.hid hf1
  clear o1 hb1 hf1
  go_wp2_with fail
  refine (Hat.out 0 (by omega) 256 (by omega) (by omega) _ B1.out).mono ?_
  rintro x w1' ⟨r, rfl, r0, r1, rfl⟩
  have r2 : r ≤ 255 := by omega
  have HKY : Hid (L32 (z32.set 0 r)) := Lib.hid ⟨by rw [List.length_set]; rfl, fun z hz => by
    rcases List.mem_or_eq_of_mem_set hz with hz | rfl
    · exact z32_byteB z hz
    · omega⟩
  have HKZ : Hid (ints .u8 (z32.set 0 r) = #[.int .u8 r, .int .u8 0, .int .u8 0, .int .u8 0, .int .u8 0, .int .u8 0, .int .u8 0, .int .u8 0, .int .u8 0, .int .u8 0, .int .u8 0, .int .u8 0, .int .u8 0, .int .u8 0, .int .u8 0, .int .u8 0, .int .u8 0, .int .u8 0, .int .u8 0, .int .u8 0, .int .u8 0, .int .u8 0, .int .u8 0, .int .u8 0, .int .u8 0, .int .u8 0, .int .u8 0, .int .u8 0, .int .u8 0, .int .u8 0, .int .u8 0, .int .u8 0]) := Lib.hid rfl
  generalize z32.set 0 r = key at HKY HKZ
  go_wp2_with (first | (refine wpList_buildSlice_one rfl 24 29 _ rfl Try.underlying24 Hi.out hz0 (ints .u8 key) (by rw [HKZ.out]; rfl) (by rw [ints_size, HKY.out.1, hz1]) (by rw [hz1]; decide) (by rw [hz1]; decide) ?_) | (at_builtin; refine wpList_append_own _ rfl _ _ 24 rfl w.heap.size 29 i0 z0 32 32 Try.underlying24 Hi.out hz0 hz1 hz2 hzs (by decide) _ m1 _ rfl (O1.out.alloc _) ⟨w1.heap.size, 0, none⟩ 1 1 (key.map (Value.int .u8)) rfl (by rw [List.length_map, HKY.out.1]) ?c1 ?c2 ?c3 ?c4 ?c5 ?_))
  case c1 =>
    intro p u hu
    rw [addr_add]
    have hg := heap_alloc_last w1 (.cells (ints .u8 key) 29)
    rw [Nat.zero_add, cell_of_row _ w1.heap.size p _ _ _ hg, ← hu]
    simp [ints]
  case c2 =>
    intro u hu
    obtain ⟨z, _, rfl⟩ := List.mem_map.1 hu
    rfl
  case c3 => unfold maxLen; omega
  case c4 => omega
  case c5 => have := B1.out.size; simp; omega
  intro v3 w3 hown3 hgrow3 hnil3
  have B3 := Lib.hid ((B1.out.alloc B1.out.size (.cells (ints .u8 key) 29)).grown hgrow3 (by have := B1.out.size; simp; omega) (fun g e => (O1.out.lt g e).1))
  rw [← List.map_append] at hown3
  have FB : Hid (∀ z ∈ f1 ++ key, 0 ≤ z ∧ z ≤ 255) := Lib.hid (fun z hz => by
    rcases List.mem_append.1 hz with hz | hz
    · exact F1.out z hz
    · exact HKY.out.2 z hz)
  have HL := Lib.hid (show (f1 ++ key).length = 32 * (m1 + 1) by rw [List.length_append, hl1, HKY.out.1]; omega)
  generalize f1 ++ key = fl at hown3 FB HL
  have hL : m1 + 1 ≤ 11 := by omega
  have hL1 : 1 ≤ m1 + 1 := by omega
  generalize m1 + 1 = L at hown3 HL hL hL1
  obtain ⟨lb, lc, rfl, hlc, hlm, _⟩ := owned_formG hown3 hL1
  obtain ⟨_, _, e, hR⟩ := RdK.owned HL.out hown3
  obtain ⟨e1, -, -⟩ := Value.slice.inj e
  rw [← e1] at hR
  have R3 := Lib.hid hR
  clear e1 e hR hown3 hgrow3 hnil3 O1 F1 B1 HKY HKZ hm1 hl1 Hk1 Hlg r0 r1 r2
  have k1 : (1 : Int) ≤ (L : Int) := by omega
  have k2 : (L : Int) ≤ 11 := by omega
  go_wp2_with fail
  refine (Hat.out 1 (by omega) (L : Int) (by omega) (by omega) _ B3.out).mono ?_
  rintro x w3' ⟨r, rfl, r0, r1, rfl⟩
  obtain ⟨q, rfl⟩ := Int.eq_ofNat_of_zero_le r0
  have hM2 : 1 + q ≤ L := by omega
  have hM1 : 1 ≤ 1 + q := by omega
  have eM : (1 : Int) + (q : Int) = ((1 + q : Nat) : Int) := by omega
  have q1 : (q : Int) ≤ 11 := by omega
  have q0 : (0 : Int) ≤ (q : Int) := by omega
  clear r0 r1
  generalize hM : 1 + q = M at hM1 hM2 eM
  have kf := fun i (hi : i < L) => keyAt_len HL.out hi
  obtain ⟨g1, g2, g3, g4⟩ := gr_ok (kf := keyAt fl) hM1 hM2 (by omega) kf
  have HOl := Lib.hid (show L32 (tkey (keyAt fl) 0 M) from ⟨tkey_len (by omega) (fun i hi => by rw [Nat.zero_add]; exact kf i (by omega)), tkey_range (by omega) (fun i hi => keyAt_range FB.out _)⟩)
  have HNl := Lib.hid (show L32 (tkey (keyAt fl) 0 L) from ⟨tkey_len (by omega) (fun i hi => by rw [Nat.zero_add]; exact kf i (by omega)), tkey_range (by omega) (fun i hi => keyAt_range FB.out _)⟩)
  have HP1 := Lib.hid (show ones M ≤ pksN M + rgN L 0 (M : Int) by rw [g1]; omega)
  have HP2 := Lib.hid (show pksN M + rgN L 0 (M : Int) ≤ 100 by have := rgN_le L 0 (M : Int) (by omega); have := pksN_le M; omega)
  have HlM := Lib.hid (fun U (hU : RdK U (some ⟨lb, 0, none⟩) L fl) => by
    have := listkey_impl (some ⟨lb, 0, none⟩) M lc (fl.take (32 * M)) (by omega) (fun z hz => FB.out z (List.mem_of_mem_take hz)) U (hU.take hM2)
    have e : lkeyV (fl.take (32 * M)) M = tkey (keyAt fl) 0 M := by
      unfold lkeyV
      rw [if_neg (by omega), if_neg (by omega)]
      exact tkey_congr M 0 0 (by omega) (fun i hi => by rw [Nat.zero_add]; exact keyAt_take hi)
    unfold lkeyE at this
    rw [e, if_neg (by omega)] at this
    exact this)
  have HlL := Lib.hid (fun U (hU : RdK U (some ⟨lb, 0, none⟩) L fl) => by
    have := listkey_impl (some ⟨lb, 0, none⟩) L lc fl (by omega) FB.out U hU
    have e : lkeyV fl L = tkey (keyAt fl) 0 L := by
      unfold lkeyV
      rw [if_neg (by omega), if_neg (by omega)]
    unfold lkeyE at this
    rw [e, if_neg (by omega)] at this
    exact this)
  have HGp := Lib.hid (fun U (hU : RdK U (some ⟨lb, 0, none⟩) L fl) => by
    have := gp_impl (some ⟨lb, 0, none⟩) L lc fl (M : Int) (by omega) hlc hlm FB.out U hU
    unfold gpE gpN gpV at this
    have hn : ¬ 256 < L := by omega
    have hq : 1 ≤ (M : Int) ∧ (M : Int) ≤ (L : Int) := ⟨by omega, by omega⟩
    rw [if_neg hn, if_neg hn, if_neg hn, if_pos hq, if_pos hq, if_pos hq, Int.toNat_natCast] at this
    exact this)
  have HPl := Lib.hid (show (pks (keyAt fl) 0 M ++ rg (keyAt fl) 0 L 0 (M : Int)).length = 32 * (pksN M + rgN L 0 (M : Int)) by
    rw [List.length_append, pks_len M 0 (fun i hi => by rw [Nat.zero_add]; exact kf i (by omega)), rg_len L 0 0 (M : Int) (by omega) (fun i hi => by rw [Nat.zero_add]; exact kf i hi)]; omega)
  have HPR := Lib.hid (show ∀ z ∈ pks (keyAt fl) 0 M ++ rg (keyAt fl) 0 L 0 (M : Int), 0 ≤ z ∧ z ≤ 255 from fun z hz => by
    rcases List.mem_append.1 hz with hz | hz
    · exact pks_range (fun i => keyAt_range FB.out i) M 0 z hz
    · exact rg_rangeG (fun i => keyAt_range FB.out i) L 0 0 (M : Int) (by omega) z hz)
  generalize tkey (keyAt fl) 0 M = old at HOl HlM g4
  generalize tkey (keyAt fl) 0 L = now at HNl HlL g3
  generalize pks (keyAt fl) 0 M ++ rg (keyAt fl) 0 L 0 (M : Int) = pl at HGp HPl HPR g3 g4
  generalize pksN M + rgN L 0 (M : Int) = P at HGp HPl HP1 HP2 g2
  have HC1 := Lib.hid (fun A C U (hc : P ≤ C) (hm : C ≤ maxLen) (hU : RdK U A P pl) => by
    have := cg_impl old now A P C (M : Int) (L : Int) pl HOl.out.1 HNl.out.1 (by have := HP2.out; omega) hc hm HPR.out U hU
    have e := gv_true (old := old) (now := now) (pl := pl) (m := M) (n := L) (P := P) hM1 hM2 (by omega) (by have := HP2.out; omega) HP1.out g4 g2 g3
    rw [e.1, e.2] at this
    exact this)
  have HC2 := Lib.hid (fun (o : List Int) (ho : o.length = 32) (hne : old ≠ o) A C U (hc : P ≤ C) (hm : C ≤ maxLen) (hU : RdK U A P pl) => by
    have := cg_impl o now A P C (M : Int) (L : Int) pl ho HNl.out.1 (by have := HP2.out; omega) hc hm HPR.out U hU
    have e := gv_wrong (old := old) (o := o) (now := now) (pl := pl) (m := M) (n := L) (P := P) hM1 hM2 (by omega) (by have := HP2.out; omega) g4 hne
    rw [e.1, e.2] at this
    exact this)
  have HC3 := Lib.hid (fun A C U (hc : P + 1 ≤ C) (hm : C ≤ maxLen) (hU : RdK U A (P + 1) (pl ++ old)) => by
    have := cg_impl old now A (P + 1) C (M : Int) (L : Int) (pl ++ old) HOl.out.1 HNl.out.1 (by have := HP2.out; omega) hc hm (fun z hz => by
      rcases List.mem_append.1 hz with hz | hz
      · exact HPR.out z hz
      · exact HOl.out.2 z hz) U hU
    have e := gv_long (old := old) (now := now) (pl := pl ++ old) (m := M) (n := L) (P := P + 1) hM1 hM2 (by omega) (by have := HP2.out; omega) (by omega)
    rw [e.1, e.2] at this
    exact this)
  have HC4 := Lib.hid (fun A C U (hc : P ≤ C) (hm : C ≤ maxLen) (hU : RdK U A P pl) => by
    have := cg_impl old now A P C ((L : Int) + 1) (L : Int) pl HOl.out.1 HNl.out.1 (by have := HP2.out; omega) hc hm HPR.out U hU
    have e := gv_more (old := old) (now := now) (pl := pl) (n := L) (P := P) (by have := HP2.out; omega)
    rw [e.1, e.2] at this
    exact this)
  clear g1 g2 g3 g4 kf
  have k3 : (M : Int) ≤ (L : Int) := by omega
  have k4 : (M : Int) ≤ (lc : Int) := by omega
  have k5 : M ≤ lc := by omega
  have k6 : ¬ lc < M := by omega
  have k7 : (0 : Int) ≤ (M : Int) := by omega
  go_wp2_with fail
  refine (HlM.out _ R3.out).mono ?_
  rintro x w4 ⟨rfl, hb4⟩
  have L4 := laid_below w4 (ints .u8 z32) (ints .u8 old) 29
  have BW4 := hb4.trans (L4.mono hb4.size)
  have G4 := Lib.hid (laid_new w4 (ints .u8 z32) (ints .u8 old) 29)
  have B4 := Lib.hid (below_call B3.out B3.out.size BW4)
  have R4 := Lib.hid (R3.out.below BW4)
  clear L4 BW4 hb4 HlM
  go_wp2_with (refine wpList_store_row rfl 29 (.tmp 8) _ rfl w4.heap.size (ints .u8 old) rfl rfl 29 (ints .u8 z32) (by rw [Hz.out]; exact heap_alloc_last _ _) (by rw [ints_size, HOl.out.1]; exact sizeKey) (by rw [ints_size, ints_size, HOl.out.1]; rfl) (ints_one _ _) ?_)
  rw [← Hz.out]
  generalize hW4 : (w4.alloc (.cells (ints .u8 z32) 29)).setRow w4.heap.size (ints .u8 old) = W4 at G4 B4 R4 ⊢
  generalize w4.heap.size = x4 at G4 ⊢
  clear hW4
  refine (HlL.out _ R4.out).mono ?_
  rintro x w5 ⟨rfl, hb5⟩
  have L5 := laid_below w5 (ints .u8 z32) (ints .u8 now) 29
  have BW5 := hb5.trans (L5.mono hb5.size)
  have G5 := Lib.hid (laid_new w5 (ints .u8 z32) (ints .u8 now) 29)
  have G45 := Lib.hid (keep_block G4.out BW5)
  have B5 := Lib.hid (below_call B4.out B4.out.size BW5)
  have R5 := Lib.hid (R4.out.below BW5)
  clear L5 BW5 hb5 HlL
  go_wp2_with (refine wpList_store_row rfl 29 (.tmp 10) _ rfl w5.heap.size (ints .u8 now) rfl rfl 29 (ints .u8 z32) (by rw [Hz.out]; exact heap_alloc_last _ _) (by rw [ints_size, HNl.out.1]; exact sizeKey) (by rw [ints_size, ints_size, HNl.out.1]; rfl) (ints_one _ _) ?_)
  rw [← Hz.out]
  generalize hW5 : (w5.alloc (.cells (ints .u8 z32) 29)).setRow w5.heap.size (ints .u8 now) = W5 at G5 G45 B5 R5 ⊢
  generalize w5.heap.size = x5 at G5 ⊢
  clear hW5
  refine (HGp.out _ R5.out).mono ?_
  rintro x w6 ⟨v6, rfl, ho6, hb6⟩
  have G56 := Lib.hid (keep_block G5.out hb6)
  have G46 := Lib.hid (keep_block G45.out hb6)
  have B6 := Lib.hid (below_call B5.out B5.out.size hb6)
  have HPpos : 0 < P := by
    have := HP1.out
    have : 0 < ones M := ones_pos M (by omega) (by omega)
    omega
  obtain ⟨pb, pc, rfl, hpc, hpm, _⟩ := owned_formG ho6 HPpos
  obtain ⟨_, _, e, hR⟩ := RdK.owned HPl.out ho6
  obtain ⟨e1, -, -⟩ := Value.slice.inj e
  rw [← e1] at hR
  have P6 := Lib.hid hR
  have Q6 := Lib.hid ho6
  clear e1 e hR ho6 hb6 HGp
  go_wp2_with (first | (refine wpList_load_row rfl 29 (.tmp 8) rfl x4 rfl 29 (ints .u8 old) (0, 0) _ G46.out Try.underlying29 rfl (by rw [ints_size, HOl.out.1]; exact sizeKey) ?_) | (refine wpList_load_row rfl 29 (.tmp 10) rfl x5 rfl 29 (ints .u8 now) (0, 0) _ G56.out Try.underlying29 rfl (by rw [ints_size, HNl.out.1]; exact sizeKey) ?_))
  refine (HC1.out _ _ _ hpc hpm P6.out).mono ?_
  rintro x w7 ⟨rfl, hb7⟩
  have G57 := Lib.hid (keep_block G56.out hb7)
  have G47 := Lib.hid (keep_block G46.out hb7)
  have B7 := Lib.hid (below_call B6.out B6.out.size hb7)
  have P7 := Lib.hid (P6.out.below hb7)
  have Q7 := Lib.hid (owns_below Q6.out hb7)
  have L8 := laid_below w7 (ints .u8 z32) (ints .u8 old) 29
  have G88 := Lib.hid (laid_new w7 (ints .u8 z32) (ints .u8 old) 29)
  have G58 := Lib.hid (keep_block G57.out L8)
  have G48 := Lib.hid (keep_block G47.out L8)
  have B8 := Lib.hid (below_call B7.out B7.out.size L8)
  have P8 := Lib.hid (P7.out.below L8)
  have Q8 := Lib.hid (owns_below Q7.out L8)
  clear hb7 L8
  go_wp2_with (first | (refine wpList_load_row rfl 29 (.tmp 8) rfl x4 rfl 29 (ints .u8 old) (0, 0) _ G47.out Try.underlying29 rfl (by rw [ints_size, HOl.out.1]; exact sizeKey) ?_) | (refine wpList_store_row rfl 29 (.tmp 16) _ rfl w7.heap.size (ints .u8 old) rfl rfl 29 (ints .u8 z32) (by rw [Hz.out]; exact heap_alloc_last _ _) (by rw [ints_size, HOl.out.1]; exact sizeKey) (by rw [ints_size, ints_size, HOl.out.1]; rfl) (ints_one _ _) ?_))
  rw [← Hz.out]
  generalize hW8 : (w7.alloc (.cells (ints .u8 z32) 29)).setRow w7.heap.size (ints .u8 old) = W8 at G88 G58 G48 B8 P8 Q8 ⊢
  have HX8 : Hid (x4 ≠ w7.heap.size ∧ x5 ≠ w7.heap.size ∧ pb ≠ w7.heap.size ∧ w.heap.size ≤ w7.heap.size) := Lib.hid ⟨by have := (Array.getElem?_eq_some_iff.1 G47.out).1; omega, by have := (Array.getElem?_eq_some_iff.1 G57.out).1; omega, by
    rcases P7.out.2 with h0 | ⟨b', o', e, hb', _⟩
    · omega
    · cases e; omega, B7.out.size⟩
  generalize w7.heap.size = x8 at G88 HX8 ⊢
  clear hW8
  refine (Hat.out 2 (by omega) 32 (by omega) (by omega) _ B8.out).mono ?_
  rintro x W8' ⟨r, rfl, r0, r1, rfl⟩
  obtain ⟨i, rfl⟩ := Int.eq_ofNat_of_zero_le r0
  have hi32 : i < 32 := by omega
  have hio : i < old.length := by have := HOl.out.1; omega
  have i0' : (0 : Int) ≤ (i : Int) := by omega
  have i1' : (i : Int) < 32 := by omega
  obtain ⟨y, hy0, hy1, c8, hne⟩ : ∃ y : Int, 0 ≤ y ∧ y ≤ 255 ∧ W8.cell? ⟨x8, i, none⟩ = some (.int .u8 y) ∧ old ≠ old.set i (bits BinOp.xor IntKind.u8 y 1) := by
    have hx := HOl.out.2 (old[i]) (List.getElem_mem _)
    have c := (cell_of_row W8 x8 i _ _ _ G88.out).trans (ints_get .u8 old i hio)
    rw [List.getElem?_eq_getElem hio] at c
    exact ⟨old[i], hx.1, hx.2, c, set_ne hio (flip_val (old[i]) hx.1 hx.2).1⟩
  have f8 : W8.frozen? ⟨x8, i, none⟩ = false := frozen_of_row W8 x8 i _ _ G88.out
  have hfl := flip_val y hy0 hy1
  have G99 := Lib.hid (by have := heap_setCell_same W8 x8 i _ _ (.int .u8 (bits BinOp.xor IntKind.u8 y 1)) G88.out; rw [ints_set] at this; exact this)
  have LB := Below.setCell (p := ⟨x8, i, none⟩) (Below.refl w.heap.size W8) HX8.out.2.2.2 (.int .u8 (bits BinOp.xor IntKind.u8 y 1))
  have G49 := Lib.hid ((heap_setCell_other W8 ⟨x8, i, none⟩ x4 (.int .u8 (bits BinOp.xor IntKind.u8 y 1)) HX8.out.1).trans G48.out)
  have G59 := Lib.hid ((heap_setCell_other W8 ⟨x8, i, none⟩ x5 (.int .u8 (bits BinOp.xor IntKind.u8 y 1)) HX8.out.2.1).trans G58.out)
  have B9 := Lib.hid (B8.out.trans LB)
  have KX : Keep W8.heap.size (· = x8) W8 (W8.setCell ⟨x8, i, none⟩ (.int .u8 (bits BinOp.xor IntKind.u8 y 1))) := Keep.cellS rfl
  have Q9 := Lib.hid (owns_keepX (show (Value.slice (some ⟨pb, 0, none⟩) P pc).ownBlock ≠ some x8 from fun e => HX8.out.2.2.1 (Option.some.inj e)) Q8.out KX)
  obtain ⟨_, _, e, hR⟩ := RdK.owned HPl.out Q9.out
  obtain ⟨e1, -, -⟩ := Value.slice.inj e
  rw [← e1] at hR
  have P9 := Lib.hid hR
  have HWL : Hid ((old.set i (bits BinOp.xor IntKind.u8 y 1)).length = 32) := Lib.hid (by rw [List.length_set]; exact HOl.out.1)
  have HNE := Lib.hid hne
  generalize old.set i (bits BinOp.xor IntKind.u8 y 1) = wrong at G99 HWL HNE
  have b0 := hfl.2.1
  have b1 := hfl.2.2
  clear e1 e hR LB hne hfl r0 r1 KX
  go_wp2_with (first | (refine wpList_load_row rfl 29 (.tmp 16) rfl x8 rfl 29 (ints .u8 wrong) (0, 0) _ G99.out Try.underlying29 rfl (by rw [ints_size, HWL.out]; exact sizeKey) ?_) | (refine wpList_load_row rfl 29 (.tmp 10) rfl x5 rfl 29 (ints .u8 now) (0, 0) _ G59.out Try.underlying29 rfl (by rw [ints_size, HNl.out.1]; exact sizeKey) ?_))
  refine (HC2.out wrong HWL.out HNE.out _ _ _ hpc hpm P9.out).mono ?_
  rintro x w10 ⟨rfl, hb10⟩
  have G5a := Lib.hid (keep_block G59.out hb10)
  have G4a := Lib.hid (keep_block G49.out hb10)
  have B10 := Lib.hid (below_call B9.out B9.out.size hb10)
  have P10 := Lib.hid (P9.out.below hb10)
  have Q10 := Lib.hid (owns_below Q9.out hb10)
  clear hb10 c8 f8
  have HZo : Hid ((ints .u8 old).size = 32) := Lib.hid (by rw [ints_size]; exact HOl.out.1)
  have HTo : Hid ((ints .u8 old).toList = old.map (Value.int .u8)) := Lib.hid (by simp [ints])
  have HPo : Hid (∀ y ∈ pl.map (Value.int .u8), y.oneCell' = true) := Lib.hid (fun u hu => by
    obtain ⟨z, _, rfl⟩ := List.mem_map.1 hu
    rfl)
  have HOo : Hid (∀ y ∈ (ints .u8 old).toList, y.oneCell' = true) := Lib.hid (fun u hu => by
    rw [HTo.out] at hu
    obtain ⟨z, _, rfl⟩ := List.mem_map.1 hu
    rfl)
  go_upto_region 13 with fail
  go_cut [19, 20] (fun s19 s20 wx => s19 = .bool false ∧ s20 = .int .i64 0 ∧ Below w10.heap.size w10 wx)
  case first =>
    refine wp_region_held_drew (S := Below (w10).heap.size (w10)) (by kernel_rfl) ((Below.refl _ _).drew) (fun hS => ?_)
    generalize w10.drew = U0 at hS ⊢
    refine take_at (i := 0) (v := .agg (ints .u8 old)) rfl rfl (by kernel_rfl) (by kernel_rfl) (by kernel_rfl) (fun _ _ _ h => h) (yields_box (by rfl) 29 _ rfl (x4) rfl _ 29 _ G4a.out Try.underlying29 rfl (by rw [ints_size, HOl.out.1]; exact sizeKey)) hS ?_
    try simp only [List.setIfInBounds_toArray, List.set_cons_zero, List.set_cons_succ]
    refine take_at (i := 1) (v := .int .i64 (M : Int)) rfl rfl (by kernel_rfl) (by kernel_rfl) (by kernel_rfl) (fun _ _ _ h => h) (Or.inl ⟨by rfl, fun U hU => by go_simp⟩) hS ?_
    try simp only [List.setIfInBounds_toArray, List.set_cons_zero, List.set_cons_succ]
    refine take_at (i := 2) (v := .agg (ints .u8 now)) rfl rfl (by kernel_rfl) (by kernel_rfl) (by kernel_rfl) (fun _ _ _ h => h) (yields_box (by rfl) 29 _ rfl (x5) rfl _ 29 _ G5a.out Try.underlying29 rfl (by rw [ints_size, HNl.out.1]; exact sizeKey)) hS ?_
    try simp only [List.setIfInBounds_toArray, List.set_cons_zero, List.set_cons_succ]
    refine take_at (i := 3) (v := .int .i64 (L : Int)) rfl rfl (by kernel_rfl) (by kernel_rfl) (by kernel_rfl) (fun _ _ _ h => h) (Or.inl ⟨by rfl, fun U hU => by go_simp⟩) hS ?_
    try simp only [List.setIfInBounds_toArray, List.set_cons_zero, List.set_cons_succ]
    refine take_at (i := 5) (v := .slice (some ⟨pb, 0, none⟩) P pc) rfl rfl (by kernel_rfl) (by kernel_rfl) (by kernel_rfl) (fun _ _ _ h => h) (Or.inl ⟨by rfl, fun U hU => by go_simp⟩) hS ?_
    try simp only [List.setIfInBounds_toArray, List.set_cons_zero, List.set_cons_succ]
    refine take_at (i := 7) (v := .agg (ints .u8 old)) rfl rfl (by kernel_rfl) (by kernel_rfl) (by kernel_rfl) (fun _ _ _ h => h) (yields_box (by rfl) 29 _ rfl (x4) rfl _ 29 _ G4a.out Try.underlying29 rfl (by rw [ints_size, HOl.out.1]; exact sizeKey)) hS ?_
    try simp only [List.setIfInBounds_toArray, List.set_cons_zero, List.set_cons_succ]
    refine wpAnyH_ready (rs := [4, 8]) (by kernel_rfl) (by simp) ?_
    refine AllReadyH.cons rfl (fun KQ hK => ?_) (AllReadyH.cons rfl (fun KQ hK => ?_) AllReadyH.nil)
    · rw [if_pos (by rfl)]
      go_simp
      have hE := owns_base hS.size (owns_empty U0 29 32)
      refine hK.out _ _ (hS.alloc hS.size _) (fun hS => ?_)
      clear hK
      generalize U0.heap.size = be at hE ⊢
      generalize U0.alloc (.cells #[] 29) = U1 at hE hS ⊢
      refine wpAnyH_ready (rs := [6, 8]) (by kernel_rfl) (by simp) ?_
      refine AllReadyH.cons rfl (fun KQ hK => ?_) (AllReadyH.cons rfl (fun KQ hK => ?_) AllReadyH.nil)
      · rw [if_pos (by rfl)]
        refine wp_append_rows _ _ 24 rfl 29 i0 z0 32 32 Try.underlying24 Hi.out hz0 hz1 hz2 hzs (by decide) _ 0 _ rfl hE _ P _ rfl (owns_below Q10.out hS) HPo.out (by have := HP2.out; unfold maxLen; omega) (by have := HP2.out; omega) hS.size ?_
        intro v6 U2 hown hgrow
        simp only [Act.put]
        refine hK.out _ _ (hS.grown hgrow hS.size (fun g e => (hE.lt g e).1)) (fun hS => ?_)
        clear hK
        refine wpAnyH_ready (rs := [8]) (by kernel_rfl) (by simp) ?_
        refine AllReadyH.cons rfl (fun KQ hK => ?_) AllReadyH.nil
        rw [if_pos (by rfl)]
        refine wp_buildSlice_one 24 29 _ rfl Try.underlying24 Hi.out hz0 (ints .u8 old) rfl (by rw [HZo.out, hz1]) (by rw [hz1]; decide) (by rw [hz1]; decide) ?_
        simp only [Act.put]
        have hX := heap_alloc_last U2 (.cells (ints .u8 old) 29)
        have hown := owns_below hown ((Below.refl U2.heap.size U2).alloc (Nat.le_refl _) (.cells (ints .u8 old) 29))
        refine hK.out _ _ (hS.alloc hS.size _) (fun hS => ?_)
        clear hK
        generalize U2.heap.size = gx at hX ⊢
        generalize U2.alloc (.cells (ints .u8 old) 29) = U3 at hX hown hS ⊢
        refine wpAnyH_ready (rs := [9]) (by kernel_rfl) (by simp) ?_
        refine AllReadyH.cons rfl (fun KQ hK => ?_) AllReadyH.nil
        rw [if_pos (by rfl)]
        refine wp_append_rows _ _ 24 rfl 29 i0 z0 32 32 Try.underlying24 Hi.out hz0 hz1 hz2 hzs (by decide) _ (0 + P) _ rfl hown _ 1 _ rfl (one_of_heapG hX HZo.out) HOo.out (by have := HP2.out; unfold maxLen; omega) (by have := HP2.out; omega) hS.size ?_
        intro v9 U9 hown9 hgrow9
        simp only [Act.put]
        refine hK.out _ _ (hS.grown hgrow9 hS.size (fun g e => (hown.lt g e).1)) (fun hS => ?_)
        clear hK
        rw [HTo.out, List.nil_append, ← List.map_append, Nat.zero_add] at hown9
        obtain ⟨qb, qc, rfl, hqc, hqm, _⟩ := owned_formG hown9 (by omega)
        obtain ⟨_, _, e, hR⟩ := RdK.owned (L := pl ++ old) (by rw [List.length_append, HPl.out, HOl.out.1]; omega) hown9
        obtain ⟨e1, -, -⟩ := Value.slice.inj e
        rw [← e1] at hR
        clear e e1 hown9 hgrow9
        refine wpAnyH_ready (rs := [10]) (by kernel_rfl) (by simp) ?_
        refine AllReadyH.cons rfl (fun KQ hK => ?_) AllReadyH.nil
        rw [if_pos (by rfl)]
        go_simp
        refine (HC3.out _ _ _ hqc hqm hR).mono ?_
        rintro x U10 ⟨rfl, hb⟩
        refine hK.out _ _ (below_call hS hS.size hb) (fun hS => ?_)
        clear hb hK
        refine take_at (i := 11) (v := .tuple #[.bool false, .int .i64 0]) rfl rfl (by kernel_rfl) (by kernel_rfl) (by kernel_rfl) (fun _ _ _ h => h) (Or.inl ⟨by rfl, fun U hU => by go_simp⟩) hS ?_
        try simp only [List.setIfInBounds_toArray, List.set_cons_zero, List.set_cons_succ]
        refine take_at (i := 12) (v := .bool false) rfl rfl (by kernel_rfl) (by kernel_rfl) (by kernel_rfl) (fun _ _ _ h => h) (Or.inl ⟨by rfl, fun U hU => by go_simp⟩) hS ?_
        try simp only [List.setIfInBounds_toArray, List.set_cons_zero, List.set_cons_succ]
        refine take_at (i := 13) (v := .int .i64 0) rfl rfl (by kernel_rfl) (by kernel_rfl) (by kernel_rfl) (fun _ _ _ h => h) (Or.inl ⟨by rfl, fun U hU => by go_simp⟩) hS ?_
        try simp only [List.setIfInBounds_toArray, List.set_cons_zero, List.set_cons_succ]
        refine take_at (i := 14) (v := .bool false) rfl rfl (by kernel_rfl) (by kernel_rfl) (by kernel_rfl) (fun _ _ _ h => h) (Or.inl ⟨by rfl, fun U hU => by go_simp⟩) hS ?_
        try simp only [List.setIfInBounds_toArray, List.set_cons_zero, List.set_cons_succ]
        refine take_at (i := 15) (v := .int .i64 0) rfl rfl (by kernel_rfl) (by kernel_rfl) (by kernel_rfl) (fun _ _ _ h => h) (Or.inl ⟨by rfl, fun U hU => by go_simp⟩) hS ?_
        try simp only [List.setIfInBounds_toArray, List.set_cons_zero, List.set_cons_succ]
        refine wpAnyH_done (by kernel_rfl) ?_ _
        go_wp2_with fail
        go_meet
        exact ⟨rfl, rfl, hS⟩
      · rw [if_pos (by rfl)]
        refine wp_buildSlice_one 24 29 _ rfl Try.underlying24 Hi.out hz0 (ints .u8 old) rfl (by rw [HZo.out, hz1]) (by rw [hz1]; decide) (by rw [hz1]; decide) ?_
        simp only [Act.put]
        have hX := heap_alloc_last U1 (.cells (ints .u8 old) 29)
        have hne : U1.heap.size ≠ be := by have := (hE.lt be rfl).2; omega
        have hE := owns_below hE ((Below.refl U1.heap.size U1).alloc (Nat.le_refl _) (.cells (ints .u8 old) 29))
        refine hK.out _ _ (hS.alloc hS.size _) (fun hS => ?_)
        clear hK
        generalize U1.heap.size = gx at hX hne ⊢
        generalize U1.alloc (.cells (ints .u8 old) 29) = U2 at hX hE hS ⊢
        refine wpAnyH_ready (rs := [6]) (by kernel_rfl) (by simp) ?_
        refine AllReadyH.cons rfl (fun KQ hK => ?_) AllReadyH.nil
        rw [if_pos (by rfl)]
        refine wp_append_rows _ _ 24 rfl 29 i0 z0 32 32 Try.underlying24 Hi.out hz0 hz1 hz2 hzs (by decide) _ 0 _ rfl hE _ P _ rfl (owns_below Q10.out hS) HPo.out (by have := HP2.out; unfold maxLen; omega) (by have := HP2.out; omega) hS.size ?_
        intro v6 U3 hown hgrow
        simp only [Act.put]
        have hX := (hgrow.block gx (Array.getElem?_eq_some_iff.1 hX).1 (fun e => hne (Option.some.inj e))).trans hX
        refine hK.out _ _ (hS.grown hgrow hS.size (fun g e => (hE.lt g e).1)) (fun hS => ?_)
        clear hK
        refine wpAnyH_ready (rs := [9]) (by kernel_rfl) (by simp) ?_
        refine AllReadyH.cons rfl (fun KQ hK => ?_) AllReadyH.nil
        rw [if_pos (by rfl)]
        refine wp_append_rows _ _ 24 rfl 29 i0 z0 32 32 Try.underlying24 Hi.out hz0 hz1 hz2 hzs (by decide) _ (0 + P) _ rfl hown _ 1 _ rfl (one_of_heapG hX HZo.out) HOo.out (by have := HP2.out; unfold maxLen; omega) (by have := HP2.out; omega) hS.size ?_
        intro v9 U9 hown9 hgrow9
        simp only [Act.put]
        refine hK.out _ _ (hS.grown hgrow9 hS.size (fun g e => (hown.lt g e).1)) (fun hS => ?_)
        clear hK
        rw [HTo.out, List.nil_append, ← List.map_append, Nat.zero_add] at hown9
        obtain ⟨qb, qc, rfl, hqc, hqm, _⟩ := owned_formG hown9 (by omega)
        obtain ⟨_, _, e, hR⟩ := RdK.owned (L := pl ++ old) (by rw [List.length_append, HPl.out, HOl.out.1]; omega) hown9
        obtain ⟨e1, -, -⟩ := Value.slice.inj e
        rw [← e1] at hR
        clear e e1 hown9 hgrow9
        refine wpAnyH_ready (rs := [10]) (by kernel_rfl) (by simp) ?_
        refine AllReadyH.cons rfl (fun KQ hK => ?_) AllReadyH.nil
        rw [if_pos (by rfl)]
        go_simp
        refine (HC3.out _ _ _ hqc hqm hR).mono ?_
        rintro x U10 ⟨rfl, hb⟩
        refine hK.out _ _ (below_call hS hS.size hb) (fun hS => ?_)
        clear hb hK
        refine take_at (i := 11) (v := .tuple #[.bool false, .int .i64 0]) rfl rfl (by kernel_rfl) (by kernel_rfl) (by kernel_rfl) (fun _ _ _ h => h) (Or.inl ⟨by rfl, fun U hU => by go_simp⟩) hS ?_
        try simp only [List.setIfInBounds_toArray, List.set_cons_zero, List.set_cons_succ]
        refine take_at (i := 12) (v := .bool false) rfl rfl (by kernel_rfl) (by kernel_rfl) (by kernel_rfl) (fun _ _ _ h => h) (Or.inl ⟨by rfl, fun U hU => by go_simp⟩) hS ?_
        try simp only [List.setIfInBounds_toArray, List.set_cons_zero, List.set_cons_succ]
        refine take_at (i := 13) (v := .int .i64 0) rfl rfl (by kernel_rfl) (by kernel_rfl) (by kernel_rfl) (fun _ _ _ h => h) (Or.inl ⟨by rfl, fun U hU => by go_simp⟩) hS ?_
        try simp only [List.setIfInBounds_toArray, List.set_cons_zero, List.set_cons_succ]
        refine take_at (i := 14) (v := .bool false) rfl rfl (by kernel_rfl) (by kernel_rfl) (by kernel_rfl) (fun _ _ _ h => h) (Or.inl ⟨by rfl, fun U hU => by go_simp⟩) hS ?_
        try simp only [List.setIfInBounds_toArray, List.set_cons_zero, List.set_cons_succ]
        refine take_at (i := 15) (v := .int .i64 0) rfl rfl (by kernel_rfl) (by kernel_rfl) (by kernel_rfl) (fun _ _ _ h => h) (Or.inl ⟨by rfl, fun U hU => by go_simp⟩) hS ?_
        try simp only [List.setIfInBounds_toArray, List.set_cons_zero, List.set_cons_succ]
        refine wpAnyH_done (by kernel_rfl) ?_ _
        go_wp2_with fail
        go_meet
        exact ⟨rfl, rfl, hS⟩
    · rw [if_pos (by rfl)]
      refine wp_buildSlice_one 24 29 _ rfl Try.underlying24 Hi.out hz0 (ints .u8 old) rfl (by rw [HZo.out, hz1]) (by rw [hz1]; decide) (by rw [hz1]; decide) ?_
      simp only [Act.put]
      have hX := heap_alloc_last U0 (.cells (ints .u8 old) 29)
      refine hK.out _ _ (hS.alloc hS.size _) (fun hS => ?_)
      clear hK
      generalize U0.heap.size = gx at hX ⊢
      generalize U0.alloc (.cells (ints .u8 old) 29) = U1 at hX hS ⊢
      refine wpAnyH_ready (rs := [4]) (by kernel_rfl) (by simp) ?_
      refine AllReadyH.cons rfl (fun KQ hK => ?_) AllReadyH.nil
      rw [if_pos (by rfl)]
      go_simp
      have hE := owns_base hS.size (owns_empty U1 29 32)
      have hne : gx ≠ U1.heap.size := by have := (Array.getElem?_eq_some_iff.1 hX).1; omega
      have hX := keep_block hX ((Below.refl U1.heap.size U1).alloc (Nat.le_refl _) (.cells #[] 29))
      refine hK.out _ _ (hS.alloc hS.size _) (fun hS => ?_)
      clear hK
      generalize U1.heap.size = be at hE hne ⊢
      generalize U1.alloc (.cells #[] 29) = U2 at hE hS hX ⊢
      refine wpAnyH_ready (rs := [6]) (by kernel_rfl) (by simp) ?_
      refine AllReadyH.cons rfl (fun KQ hK => ?_) AllReadyH.nil
      rw [if_pos (by rfl)]
      refine wp_append_rows _ _ 24 rfl 29 i0 z0 32 32 Try.underlying24 Hi.out hz0 hz1 hz2 hzs (by decide) _ 0 _ rfl hE _ P _ rfl (owns_below Q10.out hS) HPo.out (by have := HP2.out; unfold maxLen; omega) (by have := HP2.out; omega) hS.size ?_
      intro v6 U3 hown hgrow
      simp only [Act.put]
      have hX := (hgrow.block gx (Array.getElem?_eq_some_iff.1 hX).1 (fun e => hne (Option.some.inj e))).trans hX
      refine hK.out _ _ (hS.grown hgrow hS.size (fun g e => (hE.lt g e).1)) (fun hS => ?_)
      clear hK
      refine wpAnyH_ready (rs := [9]) (by kernel_rfl) (by simp) ?_
      refine AllReadyH.cons rfl (fun KQ hK => ?_) AllReadyH.nil
      rw [if_pos (by rfl)]
      refine wp_append_rows _ _ 24 rfl 29 i0 z0 32 32 Try.underlying24 Hi.out hz0 hz1 hz2 hzs (by decide) _ (0 + P) _ rfl hown _ 1 _ rfl (one_of_heapG hX HZo.out) HOo.out (by have := HP2.out; unfold maxLen; omega) (by have := HP2.out; omega) hS.size ?_
      intro v9 U9 hown9 hgrow9
      simp only [Act.put]
      refine hK.out _ _ (hS.grown hgrow9 hS.size (fun g e => (hown.lt g e).1)) (fun hS => ?_)
      clear hK
      rw [HTo.out, List.nil_append, ← List.map_append, Nat.zero_add] at hown9
      obtain ⟨qb, qc, rfl, hqc, hqm, _⟩ := owned_formG hown9 (by omega)
      obtain ⟨_, _, e, hR⟩ := RdK.owned (L := pl ++ old) (by rw [List.length_append, HPl.out, HOl.out.1]; omega) hown9
      obtain ⟨e1, -, -⟩ := Value.slice.inj e
      rw [← e1] at hR
      clear e e1 hown9 hgrow9
      refine wpAnyH_ready (rs := [10]) (by kernel_rfl) (by simp) ?_
      refine AllReadyH.cons rfl (fun KQ hK => ?_) AllReadyH.nil
      rw [if_pos (by rfl)]
      go_simp
      refine (HC3.out _ _ _ hqc hqm hR).mono ?_
      rintro x U10 ⟨rfl, hb⟩
      refine hK.out _ _ (below_call hS hS.size hb) (fun hS => ?_)
      clear hb hK
      refine take_at (i := 11) (v := .tuple #[.bool false, .int .i64 0]) rfl rfl (by kernel_rfl) (by kernel_rfl) (by kernel_rfl) (fun _ _ _ h => h) (Or.inl ⟨by rfl, fun U hU => by go_simp⟩) hS ?_
      try simp only [List.setIfInBounds_toArray, List.set_cons_zero, List.set_cons_succ]
      refine take_at (i := 12) (v := .bool false) rfl rfl (by kernel_rfl) (by kernel_rfl) (by kernel_rfl) (fun _ _ _ h => h) (Or.inl ⟨by rfl, fun U hU => by go_simp⟩) hS ?_
      try simp only [List.setIfInBounds_toArray, List.set_cons_zero, List.set_cons_succ]
      refine take_at (i := 13) (v := .int .i64 0) rfl rfl (by kernel_rfl) (by kernel_rfl) (by kernel_rfl) (fun _ _ _ h => h) (Or.inl ⟨by rfl, fun U hU => by go_simp⟩) hS ?_
      try simp only [List.setIfInBounds_toArray, List.set_cons_zero, List.set_cons_succ]
      refine take_at (i := 14) (v := .bool false) rfl rfl (by kernel_rfl) (by kernel_rfl) (by kernel_rfl) (fun _ _ _ h => h) (Or.inl ⟨by rfl, fun U hU => by go_simp⟩) hS ?_
      try simp only [List.setIfInBounds_toArray, List.set_cons_zero, List.set_cons_succ]
      refine take_at (i := 15) (v := .int .i64 0) rfl rfl (by kernel_rfl) (by kernel_rfl) (by kernel_rfl) (fun _ _ _ h => h) (Or.inl ⟨by rfl, fun U hU => by go_simp⟩) hS ?_
      try simp only [List.setIfInBounds_toArray, List.set_cons_zero, List.set_cons_succ]
      refine wpAnyH_done (by kernel_rfl) ?_ _
      go_wp2_with fail
      go_meet
      exact ⟨rfl, rfl, hS⟩
  case rest =>
    obtain ⟨rfl, rfl, hbc⟩ := hcut
    have Gc5 := Lib.hid (keep_block G5a.out hbc)
    have Gc4 := Lib.hid (keep_block G4a.out hbc)
    have Bc := Lib.hid (below_call B10.out B10.out.size hbc)
    have Pc := Lib.hid (P10.out.below hbc)
    clear hbc
    go_wp2_with (first | (refine wpList_load_row rfl 29 (.tmp 8) rfl x4 rfl 29 (ints .u8 old) (0, 0) _ Gc4.out Try.underlying29 rfl (by rw [ints_size, HOl.out.1]; exact sizeKey) ?_) | (refine wpList_load_row rfl 29 (.tmp 10) rfl x5 rfl 29 (ints .u8 now) (0, 0) _ Gc5.out Try.underlying29 rfl (by rw [ints_size, HNl.out.1]; exact sizeKey) ?_))
    refine (HC4.out _ _ _ hpc hpm Pc.out).mono ?_
    rintro x w12 ⟨rfl, hb12⟩
    have Bd := Lib.hid (below_call Bc.out Bc.out.size hb12)
    clear hb12
    go_wp2_with fail
    go_ret
    exact ⟨rfl, Bd.out⟩
theorem FnGrowth_walk (a1 : Option Addr) (n1 c1 : Nat) (z1 : List Int) (a2 : Option Addr) (n2 c2 : Nat) (z2 : List Int) (w : World) (f1 : IsRow .u8 w a1 n1 c1 z1) (f2 : IsRow .u8 w a2 n2 c2 z2) :
    Calls Try.prog 4 #[.slice a1 n1 c1, .slice a2 n2 c2] w fun e w' => e = .returned (.bool true) ∧ Below w.heap.size w w' := by
  by_cases h : n1 ≤ 3000 ∧ n2 ≤ 3000
  · exact gw_in a1 a2 n1 n2 c1 c2 (z1.take n1) (z2.take n2) h.1 h.2 (fun z hz => bounds_u8 (rd_wf f1 z hz)) (fun z hz => bounds_u8 (rd_wf f2 z hz)) w (rd_of_row f1) (rd_of_row f2)
  · have Hlg := Lib.hid (fun U => long_yes a1 a2 n1 n2 c1 c2 h U)
    clear h
    go_enter Try.func4, Try.ntmps4
    go_wp2_with fail
    refine (Hlg.out _).mono ?_
    rintro x w0 ⟨rfl, rfl⟩
    go_wp2_with fail
    go_ret
    exact ⟨rfl, Below.refl _ _⟩
end Go.Proofs.Ytfnmmpnmbommeaa
