/- The rolling value of bytes: both programs. -/
import Derived.Test.YtdamgodfgoackaaFill
import Derived.Test.YtdamgodfgoackaaRollT
import Derived.Test.YtdamgodfgoackaaRd
namespace Go.Proofs.Ytdamgodfgoackaa
open Go.ChangeShapes Go.WideShapes Go.ChangeAt Go.RowKit
set_option linter.unusedVariables false
def stepR (R : Int → Int) (r b : Int) : Int := (2 * r % 4294967296 + R b) % 4294967296
/-- The rolling value behind n bytes from a place on. -/
def accR (R : Int → Int) (l : List Int) (a : Nat) : Nat → Int
  | 0 => 0
  | j + 1 => stepR R (accR R l a j) (l[a + j]?.getD 0)
theorem accR_range (R : Int → Int) (l : List Int) (a : Nat) : ∀ j, 0 ≤ accR R l a j ∧ accR R l a j ≤ 4294967295
  | 0 => by simp [accR]
  | j + 1 => by unfold accR stepR; omega
theorem accR_add (R : Int → Int) (l : List Int) (a i : Nat) : ∀ j, accR R l a (i + j) = (2 ^ j * accR R l a i + accR R l (a + i) j) % 4294967296
  | 0 => by
    have := accR_range R l a i
    simp [accR]
    omega
  | j + 1 => by
    have ih := accR_add R l a i j
    show stepR R (accR R l a (i + j)) (l[a + (i + j)]?.getD 0) = (2 ^ (j + 1) * accR R l a i + stepR R (accR R l (a + i) j) (l[a + i + j]?.getD 0)) % 4294967296
    rw [ih, Nat.add_assoc a i j, Int.pow_succ]
    unfold stepR
    generalize R (l[a + (i + j)]?.getD 0) = w
    rw [show (2 : Int) ^ j * 2 * accR R l a i = 2 * (2 ^ j * accR R l a i) by rw [Int.mul_comm (2 ^ j) 2, Int.mul_assoc]]
    generalize (2 : Int) ^ j * accR R l a i = P
    generalize accR R l (a + i) j = B
    omega
/-- Only the last 32 bytes count. -/
theorem accR_last (R : Int → Int) (l : List Int) (n : Nat) : accR R l 0 n = accR R l (n - 32) (min n 32) := by
  by_cases h : n ≤ 32
  · rw [show n - 32 = 0 by omega, show min n 32 = n by omega]
  · have := accR_add R l 0 (n - 32) 32
    rw [show n - 32 + 32 = n by omega, Nat.zero_add] at this
    rw [this, show min n 32 = 32 by omega]
    have hr := accR_range R l (n - 32) 32
    generalize accR R l (n - 32) 32 = B at hr
    generalize accR R l 0 (n - 32) = A
    have : (2 : Int) ^ 32 = 4294967296 := by decide
    rw [this]
    omega
set_option maxRecDepth 100000 in
set_option maxHeartbeats 1000000 in
theorem roll_spec (r c : Int) (r0 : 0 ≤ r) (r1 : r ≤ 4294967295) (h0 : 0 ≤ c) (h1 : c ≤ 255) (w : World) :
    Calls Try.prog 137 #[.int .u32 r, .int .u8 c] w fun e w' => e = .returned (.int .u32 (stepR rollW r c)) ∧ Below w.heap.size w w' := by
  have Hc := Lib.hid (fun W => word_spec c h0 h1 W)
  have Hr := Lib.hid (rollW_range c)
  have He : Hid (stepR rollW r c = (2 * r % 4294967296 + rollW c) % 4294967296) := Lib.hid rfl
  generalize stepR rollW r c = Z at He
  generalize rollW c = R at Hc Hr He
  go_enter Try.func137, Try.ntmps137
  go_wp2_with fail
  refine (Hc.out _).mono ?_
  rintro e w1 ⟨rfl, hb⟩
  obtain ⟨ra, rb⟩ := Hr.out
  go_wp2
  go_ret
  exact ⟨ret_num He.out, hb⟩
theorem built_two {P : Program} {t : TypeId} {fs : Array Field} {n m : Nat} (hu : P.underlying t = some (.struct fs)) (hi : ((P.info? t).bind (·.zero)).map (fun z => z.cells.size) = some (n + m))
    (hp : fs.toList.mapM (fun f => (P.info? f.type).map fun i => (f.offset, i.size)) = some [(0, n), (n, m)]) (u v : Array Value) (su : u.size = n) (sv : v.size = m) :
    P.built t [(0, .agg u), (1, .agg v)] = some (u ++ v) := by
  cases hq : P.info? t with
  | none => simp [hq] at hi
  | some it =>
    cases hz : it.zero with
    | none => simp [hq, hz] at hi
    | some z =>
      have hs : z.cells.size = n + m := by simpa [hq, hz] using hi
      unfold Program.built
      simp only [hq, hu, hz, hp]
      rw [fill_step _ _ u 0 0 _ (by simp [su]) (by omega), fill_step _ _ v 1 n _ (by simp [sv]) (by rw [fill_size]; omega)]
      rw [Instr.fill]
      congr 1
      apply Array.ext_getElem?
      intro i
      rw [fill_fold n v _ (by rw [fill_size]; omega), fill_fold 0 u _ (by omega), Array.getElem?_append]
      by_cases h1 : i < n
      · rw [if_neg (by omega), if_pos (by omega), if_pos (by omega), Nat.sub_zero]
      · rw [if_neg (c := i < u.size) (by omega), su]
        by_cases h2 : i < n + m
        · rw [if_pos (by omega)]
        · rw [if_neg (by omega), if_neg (by omega), Array.getElem?_eq_none (by omega), Array.getElem?_eq_none (by omega)]
theorem wp_build' {P : Program} {o : Oper} {a : Act} {w : World} {K : Act → World → Prop} {Q : Exit → Act → World → Prop} (t : TypeId) (parts : Array (Nat × Operand)) (cells : Array Value) (ho : o.op = .build t parts)
    (hb : P.built t (parts.map fun (i, x) => (i, a.eval x)).toList = some cells) (h : K (a.put o.dst (.agg cells)) w) : o.wp P a w K Q :=
  wp_build t parts ho (by rw [hb]; rfl) (by rw [hb]; exact h)
set_option maxRecDepth 100000 in
set_option maxHeartbeats 1000000 in
theorem knife_impl (a b c : Int) (w : World) :
    Calls Try.prog 88 #[.agg #[.int .i64 a, .int .i64 b, .int .i64 c]] w fun e w' => ∃ g, e = .returned (.pointer (some ⟨g, 0, none⟩)) ∧ w'.heap[g]? = some (.cells (#[.int .i64 a, .int .i64 b, .int .i64 c] ++ ints .u32 rollT) 145) ∧ Below w.heap.size w w' := by
  have Hi := Lib.hid (fun W => rollt_impl W)
  have Hl := Lib.hid rollT_len
  generalize rollT = X at Hi Hl
  go_enter Try.func88, Try.ntmps88
  go_wp2_with fail
  refine wp_region_held_drew (S := Below (w.alloc (.cells #[.int .i64 a, .int .i64 b, .int .i64 c] 62)).heap.size (w.alloc (.cells #[.int .i64 a, .int .i64 b, .int .i64 c] 62))) (by kernel_rfl) ((Below.refl _ _).drew) (fun hS => ?_)
  refine wpAnyH_take (i := 0) (v := _) rfl (by kernel_rfl) (by kernel_rfl) (by kernel_rfl) (fun _ _ _ h => h) (yields_box (by rfl) 62 _ rfl w.heap.size rfl _ 62 _ (heap_alloc_last _ _) Try.underlying62 rfl (by kernel_rfl)) hS ?_
  refine wpAnyH_ready (rs := [1]) (by kernel_rfl) (by simp) ?_
  refine AllReadyH.cons rfl (fun K hK => ?_) AllReadyH.nil
  rw [if_pos (by rfl)]
  go_simp
  refine (Hi.out _).mono ?_
  rintro e w1 ⟨rfl, hb⟩
  refine hK.out _ _ (below_call hS hS.size hb) (fun hS => ?_)
  clear hb hK
  refine wpAnyH_ready (rs := [2]) (by kernel_rfl) (by simp) ?_
  refine AllReadyH.cons rfl (fun K hK => ?_) AllReadyH.nil
  rw [if_pos (by rfl)]
  refine wp_build' 145 #[(0, .tmp 3), (1, .tmp 4)] (#[.int .i64 a, .int .i64 b, .int .i64 c] ++ ints .u32 X) (by rfl) (by simp only [List.map_toArray, List.map_cons, List.map_nil]; exact built_two (n := 3) (m := 256) Try.underlying145 (by kernel_rfl) (by kernel_rfl) #[.int .i64 a, .int .i64 b, .int .i64 c] (ints .u32 X) rfl (by rw [ints_size, Hl.out])) ?_
  simp only [Act.put]
  generalize hV : (#[.int .i64 a, .int .i64 b, .int .i64 c] ++ ints .u32 X : Array Value) = V
  refine hK.out _ _ hS (fun hS => ?_)
  clear hK
  refine wpAnyH_ready (rs := [3]) (by kernel_rfl) (by simp) ?_
  refine AllReadyH.cons rfl (fun K hK => ?_) AllReadyH.nil
  rw [if_pos (by rfl)]
  go_simp
  have hg := heap_alloc_last w1 (.cells V 145)
  refine hK.out _ _ (hS.alloc hS.size _) (fun hS => ?_)
  clear hK
  refine wpAnyH_ready (rs := [4]) (by kernel_rfl) (by simp) ?_
  refine AllReadyH.cons rfl (fun K hK => ?_) AllReadyH.nil
  rw [if_pos (by rfl)]
  go_simp
  refine hK.out _ _ hS (fun hS => ?_)
  refine wpAnyH_done (by kernel_rfl) ?_ _
  have HG := Lib.hid hg
  have HS := Lib.hid (((Below.refl w.heap.size w).alloc (by simp) (.cells #[.int .i64 a, .int .i64 b, .int .i64 c] 62)).trans (hS.mono (by simp)))
  clear hg hS hK
  go_wp2
  go_ret
  exact ⟨_, rfl, by rw [hV]; exact HG.out, HS.out⟩
set_option maxRecDepth 100000 in
set_option maxHeartbeats 1000000 in
theorem rolled_impl (g : Nat) (V : Array Value) (r c : Int) (r0 : 0 ≤ r) (r1 : r ≤ 4294967295) (h0 : 0 ≤ c) (h1 : c ≤ 255) (w : World) (hg : w.heap[g]? = some (.cells (V ++ ints .u32 rollT) 145)) (hV : V.size = 3) :
    Calls Try.prog 132 #[.pointer (some ⟨g, 0, none⟩), .int .u32 r, .int .u8 c] w fun e w' => e = .returned (.int .u32 (stepR rollW r c)) ∧ w' = w := by
  obtain ⟨k, rfl⟩ := Int.eq_ofNat_of_zero_le h0
  have c0 := cell_of_row w g (3 + k) _ _ _ hg
  have hk : (V ++ ints .u32 rollT)[3 + k]? = some (.int .u32 (rollW k)) := by
    rw [Array.getElem?_append_right (by omega), hV, show 3 + k - 3 = k by omega, ints_get .u32 _ _ (by rw [rollT_len]; omega), rollT_at k (by omega)]
  rw [hk] at c0
  clear hk hg
  have Hr := Lib.hid (rollW_range k)
  have He : Hid (stepR rollW r k = (2 * r % 4294967296 + rollW k) % 4294967296) := Lib.hid rfl
  generalize stepR rollW r k = Z at He
  generalize rollW k = R at c0 Hr He
  obtain ⟨ra, rb⟩ := Hr.out
  have b1 : (k : Int) < 256 := by omega
  go_enter Try.func132, Try.ntmps132
  go_wp2_with fail
  go_ret
  exact ⟨ret_num He.out, rfl⟩
set_option maxRecDepth 100000 in
set_option maxHeartbeats 1000000 in
theorem rollof_knife (g : Nat) (V : Array Value) (a : Option Addr) (n cap : Nat) (l : List Int) (hn : n ≤ 1048576) (fl : ∀ z ∈ l, 0 ≤ z ∧ z ≤ 255) (w : World) (hg : w.heap[g]? = some (.cells (V ++ ints .u32 rollT) 145)) (hV : V.size = 3) (hr : Rd .u8 w a n l) :
    Calls Try.prog 121 #[.pointer (some ⟨g, 0, none⟩), .slice a n cap] w fun e w' => e = .returned (.int .u32 (accR rollW l 0 n)) ∧ Below w.heap.size w w' := by
  have Hc := Lib.hid (fun (r c : Int) r0 r1 h0 h1 (W : World) hW => rolled_impl g V r c r0 r1 h0 h1 W hW hV)
  have Hs := Lib.hid (fun k => show stepR rollW (accR rollW l 0 k) (l[0 + k]?.getD 0) = accR rollW l 0 (k + 1) from rfl)
  have H0 := Lib.hid (show accR rollW l 0 0 = 0 from rfl)
  have Ha := Lib.hid (accR_range rollW l 0)
  have Fl := Lib.hid (byte_range fl)
  have Hg := Lib.hid hg
  clear hg hV fl
  generalize accR rollW l 0 = A at Hs H0 Ha ⊢
  generalize (V ++ ints .u32 rollT : Array Value) = VX at Hc Hg
  generalize stepR rollW = S at Hc Hs
  obtain ⟨hl, hr⟩ := hr
  have Hl := Lib.hid hl
  clear hl
  rcases hr with h0 | ⟨b, off, rfl, hb, hc⟩
  · have HN := Lib.hid h0
    clear h0
    go_enter Try.func121, Try.ntmps121
    go_wp2_with fail
    go_loop [5, 10] (fun m i => ∃ k : Nat, k ≤ n ∧ i = .int .i64 k ∧ m = .int .u32 (A k)) (fun _ i => n - (intOf i).toNat)
    case atStart => exact ⟨0, by omega, rfl, by rw [H0.out]⟩
    case round =>
      obtain ⟨k, hk, rfl, rfl⟩ := hrel
      by_cases hlt : k < n
      · have := HN.out; omega
      · obtain rfl : k = n := by omega
        go_wp2_with fail
        go_ret
        exact ⟨rfl, Below.refl _ _⟩
  · have HC := Lib.hid hc
    clear hc
    go_enter Try.func121, Try.ntmps121
    go_wp2_with fail
    go_loop [5, 10] (fun m i => ∃ k : Nat, k ≤ n ∧ i = .int .i64 k ∧ m = .int .u32 (A k)) (fun _ i => n - (intOf i).toNat)
    case atStart => exact ⟨0, by omega, rfl, by rw [H0.out]⟩
    case round =>
      obtain ⟨k, hk, rfl, rfl⟩ := hrel
      by_cases hlt : k < n
      · have c1 := HC.out k hlt
        have b0 : (0 : Int) ≤ (k : Int) := by omega
        have b1 : (k : Int) < (n : Int) := by omega
        have Sk := Lib.hid (Hs.out k)
        rw [Nat.zero_add] at Sk
        have Fk := Lib.hid (Fl.out k)
        generalize l[k]?.getD 0 = y at c1 Sk Fk
        go_wp2_with fail
        refine (Hc.out (A k) y (Ha.out k).1 (Ha.out k).2 Fk.out.1 Fk.out.2 _ Hg.out).mono ?_
        rintro e w' ⟨rfl, rfl⟩
        rw [Sk.out]
        go_wp2_with fail
        go_round
        case rel => exact ⟨k + 1, by omega, by go_num, rfl⟩
        case measure => simp [intOf]; omega
      · obtain rfl : k = n := by omega
        go_wp2_with fail
        go_ret
        exact ⟨rfl, Below.refl _ _⟩
end Go.Proofs.Ytdamgodfgoackaa
