/- The peaks of a list, by the specification and by the program. Written by wip/gen/peaksi.py. -/
import Derived.Test.YtjijgckljjcfiaaListK
import Derived.Test.YtjijgckljjcfiaaStack
namespace Go.Proofs.Ytjijgckljjcfiaa
open Go.ChangeShapes Go.WideShapes Go.ChangeAt Go.RowKit
set_option linter.unusedVariables false
/-- The keys of the greatest trees of r leaves, from the leaf q on. -/
def pks (kf : Nat → List Int) (q r : Nat) : List Int :=
  if h : r = 0 then [] else tkey kf q (half (r + 1)) ++ pks kf (q + half (r + 1)) (r - half (r + 1))
termination_by r
decreasing_by have := half_pos (r + 1); omega
/-- How many there are. -/
def pksN (r : Nat) : Nat := if h : r = 0 then 0 else pksN (r - half (r + 1)) + 1
termination_by r
decreasing_by have := half_pos (r + 1); omega
theorem pks_zero (kf : Nat → List Int) (q : Nat) : pks kf q 0 = [] := by rw [pks, dif_pos rfl]
theorem pks_pos (kf : Nat → List Int) (q r : Nat) (h : 0 < r) : pks kf q r = tkey kf q (half (r + 1)) ++ pks kf (q + half (r + 1)) (r - half (r + 1)) := by rw [pks, dif_neg (by omega)]
theorem pksN_zero : pksN 0 = 0 := by rw [pksN, dif_pos rfl]
theorem pksN_pos (r : Nat) (h : 0 < r) : pksN r = pksN (r - half (r + 1)) + 1 := by rw [pksN, dif_neg (by omega)]
theorem pksN_le : ∀ r, pksN r ≤ r := by
  intro r
  induction r using Nat.strongRecOn with
  | _ r ih =>
    by_cases h : r = 0
    · subst h; rw [pksN_zero]; exact Nat.le_refl _
    · have := half_pos (r + 1)
      have := ih (r - half (r + 1)) (by omega)
      rw [pksN_pos r (by omega)]
      omega
theorem pks_len {kf : Nat → List Int} : ∀ r q, (∀ i, i < r → (kf (q + i)).length = 32) → (pks kf q r).length = 32 * pksN r := by
  intro r
  induction r using Nat.strongRecOn with
  | _ r ih =>
    intro q hk
    by_cases h : r = 0
    · subst h; rw [pks_zero, pksN_zero]; rfl
    · have h1 := half_pos (r + 1)
      have h2 := half_lt (n := r + 1) (by omega)
      rw [pks_pos kf q r (by omega), pksN_pos r (by omega), List.length_append, tkey_len (by omega) (fun i hi => hk i (by omega)), ih _ (by omega) _ (fun i hi => by rw [Nat.add_assoc]; exact hk _ (by omega))]
      omega
theorem pks_range {kf : Nat → List Int} (hk : ∀ i, ∀ z ∈ kf i, 0 ≤ z ∧ z ≤ 255) : ∀ r q, ∀ z ∈ pks kf q r, 0 ≤ z ∧ z ≤ 255 := by
  intro r
  induction r using Nat.strongRecOn with
  | _ r ih =>
    intro q z hz
    by_cases h : r = 0
    · subst h; rw [pks_zero] at hz; exact absurd hz (by simp)
    · have h1 := half_pos (r + 1)
      rw [pks_pos kf q r (by omega), List.mem_append] at hz
      rcases hz with hz | hz
      · exact tkey_range (by omega) (fun i hi => hk _) z hz
      · exact ih _ (by omega) _ z hz
theorem part_spec (blk off n c q m : Nat) (fl : List Int) (h1 : 1 ≤ m) (hm : q + m ≤ n) (hn : n ≤ 1048576) (hc : m ≤ c) (hx : c ≤ maxLen) (fb : ∀ z ∈ fl, 0 ≤ z ∧ z ≤ 255) (w : World) (hr : RdK w (some ⟨blk, off, none⟩) n fl) :
    Calls Try.prog 85 #[.slice (some ⟨blk, off + q * 32, none⟩) m c] w fun e w' => e = .returned (.agg (ints .u8 (tkey (keyAt fl) q m))) ∧ Below w.heap.size w w' := by
  have h := key_spec m blk (off + q * 32) c ((fl.drop (32 * q)).take (32 * m)) w h1 (by omega) hc hx (fun z hz => fb z (List.mem_of_mem_drop (List.mem_of_mem_take hz))) ((hr.drop (by omega)).take (by omega))
  rwa [tkey_congr (kf := keyAt ((fl.drop (32 * q)).take (32 * m))) (kg := keyAt fl) m 0 q h1 (fun i hi => by rw [Nat.zero_add, keyAt_take hi, keyAt_drop])] at h
theorem part_impl (blk off n c q m : Nat) (fl : List Int) (h1 : 1 ≤ m) (hm : q + m ≤ n) (hn : n ≤ 1048576) (fb : ∀ z ∈ fl, 0 ≤ z ∧ z ≤ 255) (w : World) (hr : RdK w (some ⟨blk, off, none⟩) n fl) :
    Calls Try.prog 61 #[.slice (some ⟨blk, off + q * 32, none⟩) m c, .func (.func 46) #[] #[]] w fun e w' => e = .returned (.agg (ints .u8 (tkey (keyAt fl) q m))) ∧ Below w.heap.size w w' := by
  have h := leaves_impl blk (off + q * 32) m c ((fl.drop (32 * q)).take (32 * m)) h1 (by omega) (fun z hz => fb z (List.mem_of_mem_drop (List.mem_of_mem_take hz))) w ((hr.drop (by omega)).take (by omega))
  rwa [tkey_congr (kf := keyAt ((fl.drop (32 * q)).take (32 * m))) (kg := keyAt fl) m 0 q h1 (fun i hi => by rw [Nat.zero_add, keyAt_take hi, keyAt_drop])] at h
theorem owns_slc {w : World} {base size n : Nat} {e : TypeId} {v : Value} {xs : List Value} (h : w.ownsRow base e size v n xs) : ∃ a cap, v = .slice a n cap := by
  rcases h.2 with ⟨rfl, rfl⟩ | ⟨g, cap, cur, rfl, _⟩
  · exact ⟨none, 0, rfl⟩
  · exact ⟨_, cap, rfl⟩
theorem wpList_buildSlice_one {P : Program} {ops : Array Oper} {rest : List Oper} {op : Oper} {a : Act} {w : World} {Q : Exit → Act → World → Prop} (hgd : op.guard = none) (t e : TypeId) (x : Operand) (ho : op.op = .buildSlice t 1 #[(0, x)])
    {i : TypeInfo} {z : Value} (hu : P.underlying t = some (.slice e)) (hi : P.info? e = some i) (hz : i.zero = some z) (v : Array Value) (hx : a.eval x = .agg v) (hs : v.size = i.size) (hb : i.size ≤ 2 ^ 24) (h0 : 0 < i.size)
    (h : wpList P ops Q rest (a.put op.dst (.slice (some ⟨w.heap.size, 0, none⟩) 1 1)) (w.alloc (.cells v e))) : wpList P ops Q (op :: rest) a w :=
  wpList_plain hgd fun K hK => by
    unfold Oper.wp execOp
    simp only [ho, List.map_toArray, List.map_cons, List.map_nil, hx, Sem.run_bind, Sem.run_pure, Result.andThen_ok, run_buildSlice_one hu hi hz v hs hb h0]
    exact hK _ _ h
def lenV : Value → Nat
  | .slice _ n _ => n
  | _ => 0
def peaksN (n : Nat) : Nat := if 256 < n then 0 else pksN n
def peaksV (fl : List Int) (n : Nat) : List Int := if 256 < n then [] else pks (keyAt fl) 0 n
def peaksE (n : Nat) : Int := if 256 < n then 3 else 0
theorem peaksN_le (n : Nat) : peaksN n ≤ 256 := by
  unfold peaksN
  split
  · omega
  · have := pksN_le n; omega
theorem peaksV_len {fl : List Int} {n : Nat} (h : fl.length = 32 * n) : (peaksV fl n).length = 32 * peaksN n := by
  unfold peaksV peaksN
  split
  · rfl
  · exact pks_len n 0 (fun i hi => by rw [Nat.zero_add]; exact keyAt_len h hi)
theorem RdK.some {w : World} {a : Option Addr} {n : Nat} {fl : List Int} (hr : RdK w a n fl) : ∃ blk off, (0 < n → a = some ⟨blk, off, none⟩) ∧ (0 < n → RdK w (some ⟨blk, off, none⟩) n fl) := by
  by_cases h : 0 < n
  · obtain ⟨b, o, rfl⟩ := hr.form h
    exact ⟨b, o, fun _ => rfl, fun _ => hr⟩
  · exact ⟨0, 0, fun h' => absurd h' h, fun h' => absurd h' h⟩
end Go.Proofs.Ytjijgckljjcfiaa
