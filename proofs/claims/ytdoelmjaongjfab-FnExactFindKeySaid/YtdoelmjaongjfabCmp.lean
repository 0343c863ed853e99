/- The order of keys. -/
import Derived.Test.YtdoelmjaongjfabRow
import Derived.Lib.Bytealg
namespace Go.Proofs.Ytdoelmjaongjfab
open Go.ChangeShapes Go.WideShapes Go.ChangeAt Go.RowKit
set_option linter.unusedVariables false
/-- The first number in which two lists part decides. -/
def cmpI : List Int → List Int → Int
  | x :: xs, y :: ys => if x = y then cmpI xs ys else if x < y then -1 else 1
  | _, _ => 0
theorem ret_int {k : IntKind} {a b : Int} (h : b = a) : Ending.returned (.int k a) = .returned (.int k b) := by rw [h]
theorem cells_of_row {w : World} {b : Nat} {κ : IntKind} {l : List Int} {t : TypeId} {fr : Nat × Nat} (h : w.heap[b]? = some (.cells (ints κ l) t fr)) : ∀ i, i < l.length → w.cell? ((⟨b, 0, none⟩ : Addr).add i) = some (.int κ (l[i]?.getD 0)) := fun i hi => by
  rw [Addr.add_mid, Nat.zero_add, cell_of_row w b i _ _ _ h, ints_get κ l i hi]
theorem cmpI_step : ∀ (a b : List Int) (k : Nat), a.length = b.length → k < a.length → (∀ i, i < k → a[i]?.getD 0 = b[i]?.getD 0) → a[k]?.getD 0 ≠ b[k]?.getD 0 →
    cmpI a b = if a[k]?.getD 0 < b[k]?.getD 0 then -1 else 1
  | [], _, _, _, h, _, _ => by simp at h
  | _ :: _, [], _, h, _, _, _ => by simp at h
  | x :: a, y :: b, 0, _, _, _, hne => by
    simp at hne
    simp [cmpI, hne]
  | x :: a, y :: b, k + 1, hl, hk, he, hne => by
    have h0 := he 0 (by omega)
    simp at h0
    subst h0
    simp only [cmpI, if_true]
    have := cmpI_step a b k (by simpa using hl) (by simpa using hk) (fun i hi => by simpa using he (i + 1) (by omega)) (by simpa using hne)
    simpa using this
theorem cmpI_same : ∀ (a b : List Int), a.length = b.length → (∀ i, i < a.length → a[i]?.getD 0 = b[i]?.getD 0) → cmpI a b = 0
  | [], _, _, _ => by simp [cmpI]
  | _ :: _, [], h, _ => by simp at h
  | x :: a, y :: b, hl, he => by
    have h0 := he 0 (by simp)
    simp at h0
    subst h0
    simp only [cmpI, if_true]
    exact cmpI_same a b (by simpa using hl) (fun i hi => by simpa using he (i + 1) (by simpa using hi))
def toBytes (l : List Int) : List UInt8 := l.map fun x => x.toNat.toUInt8
theorem cmpI_bytes : ∀ (a b : List Int), a.length = b.length → (∀ x ∈ a, 0 ≤ x ∧ x ≤ 255) → (∀ x ∈ b, 0 ≤ x ∧ x ≤ 255) → Lib.compareBytes (toBytes a) (toBytes b) = cmpI a b
  | [], [], _, _, _ => by simp [cmpI, toBytes, Lib.compareBytes]
  | [], _ :: _, h, _, _ => by simp at h
  | _ :: _, [], h, _, _ => by simp at h
  | x :: a, y :: b, hl, ha, hb => by
    have hx := ha x (by simp)
    have hy := hb y (by simp)
    have ih := cmpI_bytes a b (by simpa using hl) (fun z hz => ha z (by simp [hz])) (fun z hz => hb z (by simp [hz]))
    have e1 : (x.toNat.toUInt8 < y.toNat.toUInt8) ↔ x < y := by
      rw [UInt8.lt_iff_toNat_lt]; simp; omega
    have e2 : (y.toNat.toUInt8 < x.toNat.toUInt8) ↔ y < x := by
      rw [UInt8.lt_iff_toNat_lt]; simp; omega
    simp only [toBytes, List.map_cons, Lib.compareBytes, cmpI, e1, e2]
    by_cases h : x = y
    · subst h; simpa [toBytes] using ih
    · by_cases h2 : x < y
      · simp [h, h2]
      · simp [h, h2, show y < x by omega]
/-- The bytes of a row are loaded one by one. -/
theorem run_loadBytes {P : Program} (w : World) : ∀ (l : List Int) (a : Addr) (acc : ByteArray), (∀ i, i < l.length → w.cell? (a.add i) = some (.int .u8 (l[i]?.getD 0))) →
    (Extern.Bytes.loadBytes a l.length acc).run P w = .ok ⟨acc.data ++ (toBytes l).toArray⟩ w
  | [], a, acc, _ => by
    simp [Extern.Bytes.loadBytes, toBytes]
  | x :: l, a, acc, h => by
    have h0 := h 0 (by simp)
    have ea : a.add 0 = a := by unfold Addr.add; split <;> simp_all
    rw [ea] at h0
    have ih := run_loadBytes (P := P) w l (a.add 1) (acc.push x.toNat.toUInt8) (fun i hi => by
      have := h (i + 1) (by simpa using hi)
      have e : (a.add 1).add i = a.add (i + 1) := by
        unfold Addr.add
        split <;> simp_all <;> omega
      rw [e]
      simpa using this)
    simp at h0
    simp only [List.length_cons, Extern.Bytes.loadBytes, Sem.run_bind]
    rw [run_load, h0]
    simp only [Result.andThen_ok]
    rw [ih]
    congr 2
    simp [toBytes, ByteArray.push]
set_option maxHeartbeats 1000000 in
theorem cmp_spec0 (a b : List Int) (ha : a.length = 32) (hb : b.length = 32) (w : World) :
    Calls Try.prog 96 #[.agg (ints .u8 a), .agg (ints .u8 b)] w fun e w' => e = .returned (.int .i64 (cmpI a b)) ∧ Below w.heap.size w w' := by
  have Ha := Lib.hid ha
  have Hb := Lib.hid hb
  clear ha hb
  go_enter Try.func96, Try.ntmps96
  go_wp2
  go_loopw [5] (fun i wr => ∃ k : Nat, k ≤ 32 ∧ i = .int .i64 k ∧ Hid (∀ j, j < k → a[j]?.getD 0 = b[j]?.getD 0) ∧ Below w.heap.size w wr ∧ wr.heap[w.heap.size]? = some (.cells (ints .u8 a) 32) ∧ wr.heap[w.heap.size + 1]? = some (.cells (ints .u8 b) 32)) (fun i _ => 32 - (intOf i).toNat)
  case atStart => exact ⟨0, by omega, rfl, Lib.hid (fun j hj => by omega), ((Below.refl _ _).alloc (by simp) _).alloc (by simp) _, heap_alloc2_old _ _ _, heap_alloc2_new _ _ _⟩
  case round =>
    obtain ⟨k, hk, rfl, hp, hb, h1, h2⟩ := hrel
    have H1 := Lib.hid h1
    have H2 := Lib.hid h2
    have Hw := Lib.hid hb
    clear hb
    by_cases hlt : k < 32
    · have ga := ints_get .u8 a k (by rw [Ha.out]; exact hlt)
      have gb := ints_get .u8 b k (by rw [Hb.out]; exact hlt)
      have c1 := cell_of_row wr w.heap.size k _ _ _ h1
      have c2 := cell_of_row wr (w.heap.size + 1) k _ _ _ h2
      rw [ga] at c1
      rw [gb] at c2
      clear h1 h2 ga gb
      generalize hx : a[k]?.getD 0 = x at c1
      generalize hy : b[k]?.getD 0 = y at c2
      have Hx := Lib.hid hx
      have Hy := Lib.hid hy
      clear hx hy
      by_cases hxy : x = y
      · subst hxy
        go_wp2
        go_quiet (fail)
        go_wp2
        go_roundw
        case rel => exact ⟨k + 1, by omega, by go_num, Lib.hid (fun j hj => by
          by_cases h : j = k
          · subst h; rw [Hx.out, Hy.out]
          · exact hp.out j (by omega)), below_drewN Hw.out _, H1.out, H2.out⟩
        case measure => simp [intOf]; omega
      · have hne : (x != y) = true := by simpa using hxy
        have fin := Lib.hid (cmpI_step a b k (by rw [Ha.out, Hb.out]) (by rw [Ha.out]; exact hlt) hp.out (by rw [Hx.out, Hy.out]; exact hxy))
        by_cases hl : x < y
        · go_wp2
          go_quiet (fail)
          go_wp2
          go_quiet (fail)
          go_wp2
          go_ret
          exact ⟨ret_int (by rw [fin.out, Hx.out, Hy.out, if_pos hl]), below_drewN (below_drewN Hw.out _) _⟩
        · go_wp2
          go_quiet (fail)
          go_wp2
          go_quiet (fail)
          go_wp2
          go_ret
          exact ⟨ret_int (by rw [fin.out, Hx.out, Hy.out, if_neg (by omega)]), below_drewN (below_drewN Hw.out _) _⟩
    · obtain rfl : k = 32 := by omega
      have fin := Lib.hid (cmpI_same a b (by rw [Ha.out, Hb.out]) (by rw [Ha.out]; exact hp.out))
      clear h1 h2
      go_wp2
      go_ret
      exact ⟨ret_int fin.out, Hw.out⟩
theorem run_compare_rows {P : Program} (a b : List Int) (p q : Addr) (ca cb : Nat) (w : World) (hl : a.length = b.length) (fa : ∀ x ∈ a, 0 ≤ x ∧ x ≤ 255) (fb : ∀ x ∈ b, 0 ≤ x ∧ x ≤ 255)
    (h1 : ∀ i, i < a.length → w.cell? (p.add i) = some (.int .u8 (a[i]?.getD 0))) (h2 : ∀ i, i < b.length → w.cell? (q.add i) = some (.int .u8 (b[i]?.getD 0))) :
    (Extern.BytealgCompare.compare #[.slice (some p) a.length ca, .slice (some q) b.length cb]).run P w = .ok (.int .i64 (cmpI a b)) w := by
  change Sem.run P (do pure (goInt (Extern.BytealgCompare.cmp (← Extern.Bytes.bytesOf (.slice (some p) a.length ca)) (← Extern.Bytes.bytesOf (.slice (some q) b.length cb))))) w = _
  simp only [Extern.Bytes.bytesOf, Sem.run_bind]
  rw [run_loadBytes w a p _ h1]
  simp only [Result.andThen_ok]
  rw [run_loadBytes w b q _ h2]
  simp only [Result.andThen_ok, Sem.run_pure]
  rw [Lib.cmp_eq, ← cmpI_bytes a b hl fa fb]
  simp [goInt]
set_option maxRecDepth 100000 in
set_option maxHeartbeats 1000000 in
theorem bytes_compare (a b : List Int) (p q : Addr) (w : World) (n : Nat) (ha : a.length = n) (hb : b.length = n) (fa : ∀ x ∈ a, 0 ≤ x ∧ x ≤ 255) (fb : ∀ x ∈ b, 0 ≤ x ∧ x ≤ 255)
    (h1 : ∀ i, i < n → w.cell? (p.add i) = some (.int .u8 (a[i]?.getD 0))) (h2 : ∀ i, i < n → w.cell? (q.add i) = some (.int .u8 (b[i]?.getD 0))) :
    Calls Try.prog 75 #[.slice (some p) n n, .slice (some q) n n] w fun e w' => e = .returned (.int .i64 (cmpI a b)) ∧ w' = w := by
  have hrun := Lib.hid (run_compare_rows (P := Try.prog) a b p q n n w (ha.trans hb.symm) fa fb (by rw [ha]; exact h1) (by rw [hb]; exact h2))
  rw [ha, hb] at hrun
  clear ha hb fa fb h1 h2
  go_enter Try.func75, Try.ntmps75
  go_wp2_with fail
  rw [run_callFunc_extern Try.func107 (by kernel_rfl) (by kernel_rfl) (by kernel_rfl) (e := Extern.BytealgCompare.compare) (by kernel_rfl), hrun.out]
  simp only [Result.andThen]
  rw [Oper.upon_value]
  go_wp2
  go_ret
  exact ⟨rfl, rfl⟩
set_option maxRecDepth 100000 in
set_option maxHeartbeats 1000000 in
theorem cmp_impl (a b : List Int) (ha : a.length = 32) (hb : b.length = 32) (fa : ∀ x ∈ a, 0 ≤ x ∧ x ≤ 255) (fb : ∀ x ∈ b, 0 ≤ x ∧ x ≤ 255) (w : World) :
    Calls Try.prog 29 #[.agg (ints .u8 a), .agg (ints .u8 b)] w fun e w' => e = .returned (.int .i64 (cmpI a b)) ∧ Below w.heap.size w w' := by
  have Ha := Lib.hid ha
  have Hb := Lib.hid hb
  have Fa := Lib.hid fa
  have Fb := Lib.hid fb
  clear ha hb fa fb
  have c1 := Lib.hid (cells_of_row (κ := .u8) (l := a) (heap_alloc2_old w (.cells (ints .u8 a) 32) (.cells (ints .u8 b) 32)))
  have c2 := Lib.hid (cells_of_row (κ := .u8) (l := b) (heap_alloc2_new w (.cells (ints .u8 a) 32) (.cells (ints .u8 b) 32)))
  go_enter Try.func29, Try.ntmps29
  go_wp2_with fail
  go_quiet ((go_at_call 75; exact Calls.quiet_of_same (bytes_compare a b _ _ _ 32 Ha.out Hb.out Fa.out Fb.out (fun i hi => c1.out i (by rw [Ha.out]; exact hi)) (fun i hi => c2.out i (by rw [Hb.out]; exact hi)))))
  go_wp2
  go_ret
  exact ⟨rfl, below_drewN (((Below.refl _ _).alloc (by simp) _).alloc (by simp) _) _⟩
end Go.Proofs.Ytdoelmjaongjfab
