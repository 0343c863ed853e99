/- GrowthProof: both programs. Written by wip/gen/growk.py. -/
import Derived.Test.YtjcfpfegabnnlaaRangeK
import Derived.Test.YtjcfpfegabnnlaaConcK
namespace Go.Proofs.Ytjcfpfegabnnlaa
open Go.ChangeShapes Go.WideShapes Go.ChangeAt Go.RowKit
set_option linter.unusedVariables false
set_option linter.unusedSimpArgs false
theorem pks_congr {kf kg : Nat → List Int} : ∀ r q p, (∀ i, i < r → kf (q + i) = kg (p + i)) → pks kf q r = pks kg p r := by
  intro r
  induction r using Nat.strongRecOn with
  | _ r ih =>
    intro q p hk
    by_cases h : r = 0
    · subst h; rw [pks_zero, pks_zero]
    · have h1 := half_pos (r + 1)
      have h2 := half_lt (n := r + 1) (by omega)
      rw [pks_pos kf q r (by omega), pks_pos kg p r (by omega), tkey_congr (half (r + 1)) q p (by omega) (fun i hi => hk i (by omega)), ih _ (by omega) (q + half (r + 1)) (p + half (r + 1)) (fun i hi => by rw [Nat.add_assoc, Nat.add_assoc]; exact hk _ (by omega))]
theorem wpList_append_rows {P : Program} {ops : Array Oper} {rest : List Oper} {w : World} {o : Oper} {a : Act} {Q : Exit → Act → World → Prop} (hgd : o.guard = none) {base base2 : Nat} (s x : Operand) (t : TypeId)
    (ho : o.op = .call { callee := .builtin .append, args := #[s, x], argTypes := #[t, t] }) (e : TypeId) (i : TypeInfo) (z : Value) (size bytes : Nat) (ht : P.underlying t = some (.slice e)) (hi : P.info? e = some i) (hz : i.zero = some z)
    (hsize : i.size = size) (hby : i.bytes = bytes) (hzs : z.cells.size = size) (hsz : 0 < size) (v : Value) (n : Nat) (xs : List Value) (hs : a.eval s = v) (hown : w.ownsRow base e size v n xs)
    (u : Value) (m : Nat) (ys : List Value) (hx : a.eval x = u) (hown2 : w.ownsRow base2 e size u m ys) (h1 : ∀ y ∈ ys, y.oneCell' = true) (h63 : n + m ≤ maxLen) (hbytes : (n + m) * bytes ≤ 140737488355328) (hbase : base ≤ w.heap.size)
    (h : ∀ v' w', w'.ownsRow base e size v' (n + m) (xs ++ ys) → w.grownBy w' v.ownBlock → wpList P ops Q rest (a.put o.dst v') w') : wpList P ops Q (o :: rest) a w := by
  obtain ⟨v', w', hr, h2, h3⟩ := run_append_rows (P := P) t o.type e i z size bytes ht hi hz hsize hby hzs hsz v n xs hown u m ys hown2 h1 h63 hbytes hbase
  exact wpList_append_ran hgd s x t t ho v u hs hx hr (h v' w' h2 h3)
def gpE (n : Nat) (m : Int) : Int := if 256 < n then 3 else if 1 ≤ m ∧ m ≤ (n : Int) then 0 else 2
def gpN (n : Nat) (m : Int) : Nat := if 256 < n then 0 else if 1 ≤ m ∧ m ≤ (n : Int) then pksN m.toNat + rgN n 0 m else 0
def gpV (fl : List Int) (n : Nat) (m : Int) : List Int := if 256 < n then [] else if 1 ≤ m ∧ m ≤ (n : Int) then pks (keyAt fl) 0 m.toNat ++ rg (keyAt fl) 0 n 0 m else []
theorem gpN_le (n : Nat) (m : Int) : gpN n m ≤ 512 := by
  unfold gpN
  split
  · omega
  · split
    · have := rgN_le n 0 m (by omega); have := pksN_le m.toNat; omega
    · omega
theorem gpV_len {fl : List Int} {n : Nat} {m : Int} (h : fl.length = 32 * n) : (gpV fl n m).length = 32 * gpN n m := by
  unfold gpV gpN
  split
  · rfl
  · split
    · rename_i h2
      rw [List.length_append, rg_len n 0 0 m (by omega) (fun k hk => by rw [Nat.zero_add]; exact keyAt_len h hk), pks_len m.toNat 0 (fun k hk => by rw [Nat.zero_add]; exact keyAt_len h (by omega))]
      omega
    · rfl
set_option maxRecDepth 100000 in
set_option maxHeartbeats 4000000 in
theorem gp_spec (a : Option Addr) (n cap : Nat) (fl : List Int) (m : Int) (hn : n ≤ 1048576) (hc : n ≤ cap) (hm : cap ≤ maxLen) (fb : ∀ z ∈ fl, 0 ≤ z ∧ z ≤ 255) (w : World) (hr : RdK w a n fl) :
    Calls Try.prog 42 #[.slice a n cap, .int .i64 m] w fun e w' => ∃ v, e = .returned (.tuple #[v, .int .i64 (gpE n m)]) ∧ w'.ownsRow w.heap.size 23 32 v (gpN n m) ((gpV fl n m).map (Value.int .u8)) ∧ Below w.heap.size w w' := by
  unfold gpE gpN gpV
  obtain ⟨i0, z0, hi0, hz0, hz1, hz2, hzs, hzc⟩ := keyParts
  have Hi := Lib.hid hi0
  clear hi0 hzc
  have O1 := Lib.hid (owns_empty w 23 32)
  have B1 := Lib.hid ((Below.refl w.heap.size w).alloc (Nat.le_refl _) (.cells #[] 23))
  by_cases h : 256 < n
  · rw [if_pos h, if_pos h, if_pos h]
    have h1 : (256 : Int) < (n : Int) := by omega
    go_enter Try.func42, Try.ntmps42
    go_wp2_with fail
    go_ret2
    exact ⟨_, rfl, O1.out, B1.out⟩
  · rw [if_neg h, if_neg h, if_neg h]
    have h1 : (n : Int) ≤ (256 : Int) := by omega
    have h0 : (0 : Int) ≤ (n : Int) := by omega
    by_cases h2 : 1 ≤ m ∧ m ≤ (n : Int)
    · rw [if_pos h2, if_pos h2, if_pos h2]
      obtain ⟨q, rfl⟩ := Int.eq_ofNat_of_zero_le (show 0 ≤ m by omega)
      obtain ⟨b, o, rfl⟩ := hr.form (by omega)
      rw [Int.toNat_natCast]
      have Hb := Lib.hid (fun W => in_true (q : Int) 1 (n : Int) h2.1 h2.2 W)
      have Hp := Lib.hid (by
        have := peaks_spec0 (some ⟨b, o, none⟩) b o q cap (fl.take (32 * q)) (fun _ => rfl) (by rw [List.length_take, hr.1]; omega) (by omega) (by omega) hm (fun z hz => fb z (List.mem_of_mem_take hz)) w (fun _ => hr.take (by omega))
        rwa [pks_congr (kf := keyAt (fl.take (32 * q))) (kg := keyAt fl) q 0 0 (fun i hi => by rw [Nat.zero_add]; exact keyAt_take hi)] at this)
      have Hq := Lib.hid (fun W (hB : Below w.heap.size w W) => range_spec n b o cap 0 (q : Int) fl W (by omega) hn hc hm (by omega) (by omega) (by omega) (by omega) fb (hr.below hB))
      have HD := Lib.hid (show pksN q + rgN n 0 (q : Int) ≤ 1048576 by have := rgN_le n 0 (q : Int) (by omega); have := pksN_le q; omega)
      have k1 : (1 : Int) ≤ (q : Int) := h2.1
      have k2 : (q : Int) ≤ (n : Int) := h2.2
      have k3 : (q : Int) ≤ (cap : Int) := by omega
      have k4 : q ≤ cap := by omega
      have k5 : ¬ cap < q := by omega
      clear h2 hr fb
      generalize pksN q = N1 at Hp HD ⊢
      generalize pks (keyAt fl) 0 q = V1 at Hp ⊢
      generalize rgN n 0 (q : Int) = N2 at Hq HD ⊢
      generalize rg (keyAt fl) 0 n 0 (q : Int) = V2 at Hq ⊢
      go_enter Try.func42, Try.ntmps42
      go_wp2_with fail
      refine (Hb.out _).mono ?_
      rintro e w1 ⟨rfl, rfl⟩
      go_wp2_with fail
      refine Hp.out.mono ?_
      rintro e w1 ⟨v1, rfl, ho, hb⟩
      have O2 := Lib.hid ho
      have B2 := Lib.hid hb
      clear ho hb
      go_wp2_with fail
      refine (Hq.out _ B2.out).mono ?_
      rintro e w2 ⟨v2, rfl, ho, hb⟩
      have P3 := Lib.hid ho
      have O3 := Lib.hid (owns_below O2.out hb)
      have B3 := Lib.hid (below_call B2.out B2.out.size hb)
      clear ho hb
      go_wp2_with (at_builtin; refine wpList_append_rows rfl _ _ 35 rfl 23 i0 z0 32 32 Try.underlying35 Hi.out hz0 hz1 hz2 hzs (by decide) v1 N1 _ rfl O3.out v2 N2 _ rfl P3.out ?c1 ?c2 ?c3 ?c4 ?_)
      case c1 =>
        intro u hu
        obtain ⟨z, _, rfl⟩ := List.mem_map.1 hu
        rfl
      case c2 => have := HD.out; unfold maxLen; omega
      case c3 => have := HD.out; omega
      case c4 => exact B3.out.size
      intro v4 w4 hown4 hgrow4
      have O4 := Lib.hid hown4
      have B4 := Lib.hid (B3.out.grown hgrow4 B3.out.size (fun g e => (O3.out.lt g e).1))
      clear hown4 hgrow4
      go_wp2_with fail
      go_ret2
      exact ⟨_, rfl, by rw [List.map_append]; exact O4.out, B4.out⟩
    · rw [if_neg h2, if_neg h2, if_neg h2]
      have Hb := Lib.hid (fun W => in_false m 1 (n : Int) h2 W)
      clear h2 hr fb
      go_enter Try.func42, Try.ntmps42
      go_wp2_with fail
      refine (Hb.out _).mono ?_
      rintro e w1 ⟨rfl, rfl⟩
      go_wp2_with fail
      go_ret2
      exact ⟨_, rfl, O1.out, B1.out⟩
theorem rdsk_two {w : World} {g : Nat} {t : TypeId} {a1 a2 : Option Addr} {n1 n2 c1 c2 : Nat} {l1 l2 : List Int} (h : w.heap[g]? = some (.cells #[.slice a1 n1 c1, .slice a2 n2 c2] t (0, 0))) (r1 : RdK w a1 n1 l1) (r2 : RdK w a2 n2 l2) :
    RdSK w (some ⟨g, 0, none⟩) 2 [(n1, l1), (n2, l2)] := by
  refine ⟨rfl, Or.inr ⟨g, 0, rfl, (Array.getElem?_eq_some_iff.1 h).1, fun j hj => ?_⟩⟩
  match j, hj with
  | 0, _ => exact ⟨a1, c1, (cell_of_row w g 0 _ _ _ h).trans rfl, r1⟩
  | 1, _ => exact ⟨a2, c2, (cell_of_row w g 1 _ _ _ h).trans rfl, r2⟩
set_option maxRecDepth 100000 in
set_option maxHeartbeats 4000000 in
theorem gp_impl (a : Option Addr) (n cap : Nat) (fl : List Int) (m : Int) (hn : n ≤ 1048576) (hc : n ≤ cap) (hm : cap ≤ maxLen) (fb : ∀ z ∈ fl, 0 ≤ z ∧ z ≤ 255) (w : World) (hr : RdK w a n fl) :
    Calls Try.prog 43 #[.slice a n cap, .int .i64 m] w fun e w' => ∃ v, e = .returned (.tuple #[v, .int .i64 (gpE n m)]) ∧ w'.ownsRow w.heap.size 23 32 v (gpN n m) ((gpV fl n m).map (Value.int .u8)) ∧ Below w.heap.size w w' := by
  have Hq := Lib.hid (rp_impl a n cap fl 0 m hn hc hm fb w hr)
  unfold gpE gpN gpV
  by_cases h : 256 < n
  · rw [if_pos h, if_pos h, if_pos h]
    unfold rpE rpN rpV at Hq
    rw [if_pos h, if_pos h, if_pos h] at Hq
    clear hr fb
    go_enter Try.func43, Try.ntmps43
    go_wp2_with fail
    refine Hq.out.mono ?_
    rintro e w1 ⟨v, rfl, ho, hb⟩
    have B1 := Lib.hid hb
    clear ho hb
    go_wp2_with fail
    go_ret2
    exact ⟨_, rfl, World.ownsRow_nil _ _ _ _, B1.out⟩
  · rw [if_neg h, if_neg h, if_neg h]
    by_cases h2 : 1 ≤ m ∧ m ≤ (n : Int)
    · rw [if_pos h2, if_pos h2, if_pos h2]
      have h3 : (0 : Int) ≤ 0 ∧ 0 < m ∧ m ≤ (n : Int) := by omega
      unfold rpE rpN rpV at Hq
      rw [if_neg h, if_neg h, if_neg h, if_pos h3, if_pos h3, if_pos h3] at Hq
      obtain ⟨q, rfl⟩ := Int.eq_ofNat_of_zero_le (show 0 ≤ m by omega)
      obtain ⟨b, o, rfl⟩ := hr.form (by omega)
      rw [Int.toNat_natCast]
      have Hp := Lib.hid (fun W (hB : Below w.heap.size w W) => by
        have := peaks_impl (some ⟨b, o, none⟩) q cap (fl.take (32 * q)) (by omega) (by omega) hm (fun z hz => fb z (List.mem_of_mem_take hz)) W ((hr.below hB).take (by omega))
        unfold peaksE peaksN peaksV at this
        rw [if_neg (by omega), if_neg (by omega), if_neg (by omega)] at this
        rwa [pks_congr (kf := keyAt (fl.take (32 * q))) (kg := keyAt fl) q 0 0 (fun i hi => by rw [Nat.zero_add]; exact keyAt_take hi)] at this)
      have HD := Lib.hid (show pksN q + rgN n 0 (q : Int) ≤ 1048576 by have := rgN_le n 0 (q : Int) (by omega); have := pksN_le q; omega)
      have L1 := Lib.hid (pks_len (kf := keyAt fl) q 0 (fun k hk => by rw [Nat.zero_add]; exact keyAt_len hr.1 (by omega)))
      have L2 := Lib.hid (rg_len (kf := keyAt fl) n 0 0 (q : Int) (by omega) (fun k hk => by rw [Nat.zero_add]; exact keyAt_len hr.1 hk))
      have k1 : (1 : Int) ≤ (q : Int) := h2.1
      have k2 : (q : Int) ≤ (n : Int) := h2.2
      have k3 : (q : Int) ≤ (cap : Int) := by omega
      have k4 : q ≤ cap := by omega
      have k5 : ¬ cap < q := by omega
      clear h2 h3 hr fb
      generalize pksN q = N1 at Hp HD L1 ⊢
      generalize pks (keyAt fl) 0 q = V1 at Hp L1 ⊢
      generalize rgN n 0 (q : Int) = N2 at Hq HD L2 ⊢
      generalize rg (keyAt fl) 0 n 0 (q : Int) = V2 at Hq L2 ⊢
      go_enter Try.func43, Try.ntmps43
      go_wp2_with fail
      refine Hq.out.mono ?_
      rintro e w1 ⟨v2, rfl, ho, hb⟩
      have O1 := Lib.hid ho
      have B1 := Lib.hid hb
      clear ho hb
      go_wp2_with fail
      refine (Hp.out _ B1.out).mono ?_
      rintro e w2 ⟨v1, rfl, ho, hb⟩
      obtain ⟨a1, c1, rfl, R1⟩ := RdK.owned L1.out ho
      obtain ⟨a2, c2, rfl, R2⟩ := RdK.owned L2.out (owns_below O1.out hb)
      have R1 := Lib.hid R1
      have R2 := Lib.hid R2
      have B2 := Lib.hid (below_call B1.out B1.out.size hb)
      clear ho hb
      have LI := (Below.refl w2.heap.size w2).alloc (Nat.le_refl _) (.cells #[.slice a1 N1 c1, .slice a2 N2 c2] 35)
      have B3 := Lib.hid (below_call B2.out B2.out.size LI)
      have Hc := Lib.hid (concatK_impl (some ⟨w2.heap.size, 0, none⟩) 2 2 [(N1, V1), (N2, V2)] (by omega) (by have := HD.out; simp [cntK]; omega) _ (rdsk_two (heap_alloc_last w2 (.cells #[.slice a1 N1 c1, .slice a2 N2 c2] 35)) (R1.out.below LI) (R2.out.below LI)))
      rw [show cntK [(N1, V1), (N2, V2)] 2 = N1 + N2 by simp [cntK], show catK [(N1, V1), (N2, V2)] 2 = V1 ++ V2 by simp [catK]] at Hc
      clear LI
      go_wp2_with fail
      refine Hc.out.mono ?_
      rintro e w4 ⟨v4, rfl, ho, hb⟩
      have O4 := Lib.hid (owns_base B3.out.size ho)
      have B4 := Lib.hid (below_call B3.out B3.out.size hb)
      clear ho hb
      go_wp2_with fail
      go_ret2
      exact ⟨_, rfl, O4.out, B4.out⟩
    · rw [if_neg h2, if_neg h2, if_neg h2]
      have h3 : ¬ ((0 : Int) ≤ 0 ∧ 0 < m ∧ m ≤ (n : Int)) := by omega
      unfold rpE rpN rpV at Hq
      rw [if_neg h, if_neg h, if_neg h, if_neg h3, if_neg h3, if_neg h3] at Hq
      clear hr fb h2 h3
      go_enter Try.func43, Try.ntmps43
      go_wp2_with fail
      refine Hq.out.mono ?_
      rintro e w1 ⟨v, rfl, ho, hb⟩
      have B1 := Lib.hid hb
      clear ho hb
      go_wp2_with fail
      go_ret2
      exact ⟨_, rfl, World.ownsRow_nil _ _ _ _, B1.out⟩
end Go.Proofs.Ytjcfpfegabnnlaa
