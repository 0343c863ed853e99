/- Slices of bytes: copied, compared, marked, looked through (the laws' own helpers). -/
import Derived.Test.YtdoelmjaongjfabBase
import Derived.Deep.OwnRows
namespace Go.Proofs.Ytdoelmjaongjfab
open Go.ChangeShapes Go.WideShapes Go.ChangeAt Go.RowKit
set_option linter.unusedVariables false
theorem infoByte : (Try.prog.info? 5).map (fun i => (i.zero, i.size, i.bytes)) = some (some (.int .u8 0), 1, 1) := by kernel_rfl
theorem made_zero (κ : IntKind) (n : Nat) : madeCells #[.int κ 0] n = ints κ (List.replicate n 0) := by
  apply Array.ext
  · simp [size_madeCells, ints_size]
  · intro i h1 h2
    simp [madeCells, ints, Nat.mod_one]
/-- A slice whose elements read as a list. -/
def Rd (κ : IntKind) (w : World) (a : Option Addr) (len : Nat) (l : List Int) : Prop :=
  l.length = len ∧ (len = 0 ∨ ∃ b off, a = some ⟨b, off, none⟩ ∧ b < w.heap.size ∧ ∀ j, j < len → w.cell? ⟨b, off + j, none⟩ = some (.int κ (l[j]?.getD 0)))
theorem Rd.below {κ : IntKind} {w w1 : World} {a : Option Addr} {len : Nat} {l : List Int} (h : Rd κ w a len l) (hb : Below w.heap.size w w1) : Rd κ w1 a len l := by
  obtain ⟨h1, h2⟩ := h
  refine ⟨h1, ?_⟩
  rcases h2 with h2 | ⟨b, off, e, hlt, hc⟩
  · exact Or.inl h2
  · exact Or.inr ⟨b, off, e, Nat.lt_of_lt_of_le hlt hb.size, fun j hj => by rw [hb.cell (p := ⟨b, off + j, none⟩) hlt]; exact hc j hj⟩
theorem Rd.row {κ : IntKind} {w : World} {g : Nat} {l : List Int} {t : TypeId} {fr : Nat × Nat} (h : w.heap[g]? = some (.cells (ints κ l) t fr)) : Rd κ w (some ⟨g, 0, none⟩) l.length l :=
  ⟨rfl, Or.inr ⟨g, 0, rfl, (Array.getElem?_eq_some_iff.1 h).1, fun j hj => by rw [Nat.zero_add, cell_of_row w g j _ _ _ h, ints_get κ l j hj]⟩⟩
set_option maxHeartbeats 1000000 in
theorem toBS (a : Option Addr) (n cap : Nat) (l : List Int) (hn : n ≤ 1048576) (w : World) (hr : Rd .u8 w a n l) :
    Calls Try.prog 48 #[.slice a n cap] w fun e w' => e = .returned (.slice (some ⟨w.heap.size, 0, none⟩) n n) ∧ w' = w.alloc (.cells (ints .u8 l) 5) := by
  obtain ⟨hl, hr⟩ := hr
  have hmk := fun W => run_make_row' (P := Try.prog) 40 5 (.int .u8 0) 1 Try.underlying40 infoByte rfl .i64 .i64 n (by omega) (by omega) W
  rw [made_zero] at hmk
  have Hl := Lib.hid hl
  clear hl
  rcases hr with h0 | ⟨b, off, rfl, hb, hc⟩
  · have H0 := Lib.hid h0
    clear h0
    go_enter Try.func48, Try.ntmps48
    go_wp2
    go_loopw [4] (fun i wr => ∃ k : Nat, k ≤ n ∧ i = .int .i64 k ∧ wr = w.alloc (.cells (ints .u8 (upTo (List.replicate n 0) l k)) 5)) (fun i _ => n - (intOf i).toNat)
    case atStart => exact ⟨0, by omega, rfl, by rw [upTo_zero]⟩
    case round =>
      obtain ⟨k, hk, rfl, rfl⟩ := hrel
      by_cases hlt : k < n
      · have := H0.out; omega
      · obtain rfl : k = n := by omega
        rw [upTo_all (by simp) Hl.out]
        go_wp2
        go_ret
        exact ⟨rfl, rfl⟩
  · have Hc := Lib.hid hc
    clear hc
    go_enter Try.func48, Try.ntmps48
    go_wp2
    go_loopw [4] (fun i wr => ∃ k : Nat, k ≤ n ∧ i = .int .i64 k ∧ wr = w.alloc (.cells (ints .u8 (upTo (List.replicate n 0) l k)) 5)) (fun i _ => n - (intOf i).toNat)
    case atStart => exact ⟨0, by omega, rfl, by rw [upTo_zero]⟩
    case round =>
      obtain ⟨k, hk, rfl, rfl⟩ := hrel
      by_cases hlt : k < n
      · have c2 := Hc.out k hlt
        have hs := upTo_get .u8 (k := k) (old := List.replicate n 0) (new := l) (by rw [Hl.out]; simp) (by rw [Hl.out]; exact hlt)
        have ht := upTo_set .u8 (k := k) (old := List.replicate n 0) (new := l) (by rw [Hl.out]; simp) (by rw [Hl.out]; exact hlt) rfl
        go_wp2
        go_roundw
        case rel => exact ⟨k + 1, by omega, by go_num, rfl⟩
        case measure => simp [intOf]; omega
      · obtain rfl : k = n := by omega
        rw [upTo_all (by simp) Hl.out]
        go_wp2
        go_ret
        exact ⟨rfl, rfl⟩
set_option maxHeartbeats 1000000 in
theorem eqBS (a b : Option Addr) (n ca cb : Nat) (l : List Int) (hn : n ≤ 1048576) (w : World) (hr : Rd .u8 w a n l) (hs : Rd .u8 w b n l) :
    Calls Try.prog 43 #[.slice a n ca, .slice b n cb] w fun e w' => e = .returned (.bool true) ∧ Below w.heap.size w w' := by
  obtain ⟨hl, hr⟩ := hr
  obtain ⟨_, hs⟩ := hs
  have Hl := Lib.hid hl
  clear hl
  rcases hr with h0 | ⟨b1, o1, rfl, hb1, hc1⟩
  · have H0 := Lib.hid h0
    clear h0 hs
    go_enter Try.func43, Try.ntmps43
    go_wp2
    go_loopw [5] (fun i wr => ∃ k : Nat, k ≤ n ∧ i = .int .i64 k ∧ Below w.heap.size w wr) (fun i _ => n - (intOf i).toNat)
    case atStart => exact ⟨0, by omega, rfl, Below.refl _ _⟩
    case round =>
      obtain ⟨k, hk, rfl, hbl⟩ := hrel
      have Hbl := Lib.hid hbl
      clear hbl
      by_cases hlt : k < n
      · have := H0.out; omega
      · go_wp2
        go_ret
        exact ⟨rfl, Hbl.out⟩
  · rcases hs with h0 | ⟨b2, o2, rfl, hb2, hc2⟩
    · have H0 := Lib.hid h0
      clear h0 hc1
      go_enter Try.func43, Try.ntmps43
      go_wp2
      go_loopw [5] (fun i wr => ∃ k : Nat, k ≤ n ∧ i = .int .i64 k ∧ Below w.heap.size w wr) (fun i _ => n - (intOf i).toNat)
      case atStart => exact ⟨0, by omega, rfl, Below.refl _ _⟩
      case round =>
        obtain ⟨k, hk, rfl, hbl⟩ := hrel
        have Hbl := Lib.hid hbl
        clear hbl
        by_cases hlt : k < n
        · have := H0.out; omega
        · go_wp2
          go_ret
          exact ⟨rfl, Hbl.out⟩
    · have Hc1 := Lib.hid hc1
      have Hc2 := Lib.hid hc2
      clear hc1 hc2
      go_enter Try.func43, Try.ntmps43
      go_wp2
      go_loopw [5] (fun i wr => ∃ k : Nat, k ≤ n ∧ i = .int .i64 k ∧ Below w.heap.size w wr) (fun i _ => n - (intOf i).toNat)
      case atStart => exact ⟨0, by omega, rfl, Below.refl _ _⟩
      case round =>
        obtain ⟨k, hk, rfl, hbl⟩ := hrel
        have Hbl := Lib.hid hbl
        by_cases hlt : k < n
        · have c1 := (hbl.cell (p := ⟨b1, o1 + k, none⟩) hb1).trans (Hc1.out k hlt)
          have c2 := (hbl.cell (p := ⟨b2, o2 + k, none⟩) hb2).trans (Hc2.out k hlt)
          clear hbl
          generalize l[k]?.getD 0 = x at c1 c2
          go_wp2
          go_quiet (fail)
          go_wp2
          go_roundw
          case rel => exact ⟨k + 1, by omega, by go_num, below_drewN Hbl.out _⟩
          case measure => simp [intOf]; omega
        · clear hbl
          go_wp2
          go_ret
          exact ⟨rfl, Hbl.out⟩
/-- What marking leaves: the numbers from k on, as bytes. -/
def markL (k : Int) (n : Nat) : List Int := (List.range n).map fun (i : Nat) => (k + (i : Int)) % 256
theorem markL_len (k : Int) (n : Nat) : (markL k n).length = n := by simp [markL]
theorem markL_at (k : Int) (n i : Nat) (h : i < n) : (markL k n)[i]?.getD 0 = (k + (i : Int)) % 256 := by simp [markL, h]
theorem setRow_twice (w : World) (g : Nat) (c d : Array Value) : (w.setRow g c).setRow g d = w.setRow g d := by
  simp only [World.setRow]
  congr 1
  apply Array.ext_getElem?
  intro i
  simp only [Array.getElem?_modify]
  split
  · cases w.heap[i]? with
    | none => rfl
    | some o => cases o <;> rfl
  · rfl
theorem setRow_same (w : World) (g : Nat) (c : Array Value) (t : TypeId) (fr : Nat × Nat) (h : w.heap[g]? = some (.cells c t fr)) : w.setRow g c = w := by
  have : (w.setRow g c).heap = w.heap := by
    simp only [World.setRow]
    apply Array.ext_getElem?
    intro i
    rw [Array.getElem?_modify]
    by_cases e : g = i
    · subst e; simp [h]
    · simp [e]
  cases w
  simp only [World.setRow] at this ⊢
  rw [this]
set_option maxHeartbeats 1000000 in
theorem markBS (g n cap : Nat) (l : List Int) (t : TypeId) (k0 : Int) (h0 : 0 ≤ k0) (h1 : k0 ≤ 1099511627776) (hn : n ≤ 1099511627776) (hl : l.length = n) (w : World) (hg : w.heap[g]? = some (.cells (ints .u8 l) t)) :
    Calls Try.prog 45 #[.slice (some ⟨g, 0, none⟩) n cap, .int .i64 k0] w fun e w' => e = .returned (.int .i64 (k0 + n)) ∧ w' = w.setRow g (ints .u8 (markL k0 n)) := by
  have Hl := Lib.hid hl
  have Hg := Lib.hid hg
  clear hl hg
  go_enter Try.func45, Try.ntmps45
  go_wp2
  go_loopw [1, 5] (fun m i wr => ∃ k : Nat, k ≤ n ∧ i = .int .i64 k ∧ m = .int .i64 (k0 + k) ∧ wr = w.setRow g (ints .u8 (upTo l (markL k0 n) k))) (fun _ i _ => n - (intOf i).toNat)
  case atStart => exact ⟨0, by omega, rfl, by simp, by rw [upTo_zero, setRow_same w g _ _ _ Hg.out]⟩
  case round =>
    obtain ⟨k, hk, rfl, rfl, hw⟩ := hrel
    have Hw := Lib.hid hw
    by_cases hlt : k < n
    · have hh : wr.heap[g]? = some (.cells (ints .u8 (upTo l (markL k0 n) k)) t) := by rw [Hw.out]; exact setRow_heap _ _ _ _ _ _ Hg.out
      have c1 := cell_of_row wr g k _ _ _ hh
      have f1 := frozen_of_row wr g k _ _ hh
      rw [upTo_get .u8 (k := k) (old := l) (new := markL k0 n) (by rw [markL_len, Hl.out]) (by rw [markL_len]; exact hlt)] at c1
      have Hh := Lib.hid hh
      clear hh hw
      go_wp2
      go_roundw
      case rel =>
        refine ⟨k + 1, by omega, by go_num, by congr 1; push_cast; omega, ?_⟩
        rw [setCell_eq_setRow _ _ _ _ _ _ _ Hh.out, Hw.out, setRow_twice, upTo_set .u8 (by rw [markL_len, Hl.out]) (by rw [markL_len]; exact hlt) (markL_at k0 n k hlt)]
      case measure => simp [intOf]; omega
    · obtain rfl : k = n := by omega
      clear hw
      go_wp2
      go_ret
      exact ⟨rfl, by rw [Hw.out, upTo_all Hl.out (markL_len k0 k)]⟩
set_option maxHeartbeats 1000000 in
theorem markBS0 (a : Option Addr) (cap : Nat) (k0 : Int) (w : World) :
    Calls Try.prog 45 #[.slice a 0 cap, .int .i64 k0] w fun e w' => e = .returned (.int .i64 k0) ∧ w' = w := by
  go_enter Try.func45, Try.ntmps45
  go_wp2
  refine wp_loop_rounds 1 ?_
  rw [rounds_succ]
  go_wp2
  go_ret
  exact ⟨rfl, rfl⟩
set_option maxHeartbeats 1000000 in
theorem heldBS (a : Option Addr) (n cap : Nat) (k0 : Int) (h0 : 0 ≤ k0) (h1 : k0 ≤ 1099511627776) (hn : n ≤ 1099511627776) (w : World) (hr : Rd .u8 w a n (markL k0 n)) :
    Calls Try.prog 46 #[.slice a n cap, .int .i64 k0] w fun e w' => e = .returned (.int .i64 (k0 + n)) ∧ w' = w := by
  obtain ⟨_, hr⟩ := hr
  rcases hr with h0' | ⟨b, off, rfl, hb, hc⟩
  · have H0 := Lib.hid h0'
    clear h0'
    go_enter Try.func46, Try.ntmps46
    go_wp2
    go_loop [1, 5] (fun m i => ∃ k : Nat, k ≤ n ∧ i = .int .i64 k ∧ m = .int .i64 (k0 + k)) (fun _ i => n - (intOf i).toNat)
    case atStart => exact ⟨0, by omega, rfl, by simp⟩
    case round =>
      obtain ⟨k, hk, rfl, rfl⟩ := hrel
      by_cases hlt : k < n
      · have := H0.out; omega
      · obtain rfl : k = n := by omega
        go_wp2
        go_ret
        exact ⟨rfl, rfl⟩
  · have Hc := Lib.hid hc
    clear hc
    go_enter Try.func46, Try.ntmps46
    go_wp2
    go_loop [1, 5] (fun m i => ∃ k : Nat, k ≤ n ∧ i = .int .i64 k ∧ m = .int .i64 (k0 + k)) (fun _ i => n - (intOf i).toNat)
    case atStart => exact ⟨0, by omega, rfl, by simp⟩
    case round =>
      obtain ⟨k, hk, rfl, rfl⟩ := hrel
      by_cases hlt : k < n
      · have c1 := Hc.out k hlt
        rw [markL_at k0 n k hlt] at c1
        go_wp2
        go_round
        case rel => exact ⟨k + 1, by omega, by go_num, by congr 1; push_cast; omega⟩
        case measure => simp [intOf]; omega
      · obtain rfl : k = n := by omega
        go_wp2
        go_ret
        exact ⟨rfl, rfl⟩
set_option maxHeartbeats 1000000 in
theorem szBS_in (a : Option Addr) (n cap : Nat) (left : Int) (h0 : 0 ≤ left) (h1 : left ≤ 1099511627776) (hn : (n : Int) ≤ left) (w : World) :
    Calls Try.prog 87 #[.slice a n cap, .int .i64 left] w fun e w' => e = .returned (.int .i64 (left - n)) ∧ w = w' := by
  go_enter Try.func87, Try.ntmps87
  go_wp2
  go_ret
  exact ⟨rfl, rfl⟩
set_option maxHeartbeats 1000000 in
theorem szBS_out (a : Option Addr) (n cap : Nat) (left : Int) (h0 : 0 ≤ left) (h1 : left ≤ 1099511627776) (hm : n ≤ 9223372036854775807) (hn : left < (n : Int)) (w : World) :
    Calls Try.prog 87 #[.slice a n cap, .int .i64 left] w fun e w' => e = .returned (.int .i64 (-1)) ∧ w = w' := by
  go_enter Try.func87, Try.ntmps87
  go_wp2
  go_ret
  exact ⟨rfl, rfl⟩
end Go.Proofs.Ytdoelmjaongjfab
