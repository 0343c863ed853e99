/- Trees over lists: the parts of a tree, and their keys. -/
import Derived.Test.YtjijgckljjcfiaaNode
import Derived.Test.YtjijgckljjcfiaaRdK
namespace Go.Proofs.Ytjijgckljjcfiaa
open Go.ChangeShapes Go.WideShapes Go.ChangeAt Go.RowKit
set_option linter.unusedVariables false
theorem keyS_range (st : List Int) : ∀ z ∈ keyS st, 0 ≤ z ∧ z ≤ 255 := by
  intro z hz
  unfold keyS at hz
  obtain ⟨i, _, rfl⟩ := List.mem_map.1 hz
  omega
theorem nodeK_range (a b : List Int) : ∀ z ∈ nodeK a b, 0 ≤ z ∧ z ≤ 255 := keyS_range _
/-- The greatest power of 2 that is less than n, which is 2 or more. -/
def half (n : Nat) : Nat := 2 ^ Nat.log2 (n - 1)
theorem half_pos (n : Nat) : 0 < half n := Nat.two_pow_pos _
theorem half_lt {n : Nat} (h : 2 ≤ n) : half n < n := by
  have := Nat.log2_self_le (n := n - 1) (by omega)
  unfold half
  omega
theorem half_ge {n : Nat} (h : 2 ≤ n) : n ≤ 2 * half n := by
  have := Nat.lt_log2_self (n := n - 1)
  unfold half
  rw [Nat.pow_succ] at this
  omega
theorem half_eq {n k : Nat} (h1 : 2 ^ k < n) (h2 : n ≤ 2 * 2 ^ k) : half n = 2 ^ k := by
  unfold half
  have : Nat.log2 (n - 1) = k := by
    rw [Nat.log2_eq_iff (by have := Nat.two_pow_pos k; omega)]
    rw [Nat.pow_succ]
    omega
  rw [this]
/-- The key of the part with the n leaves from b on; kf tells the leaves. -/
def tkey (kf : Nat → List Int) (b n : Nat) : List Int :=
  if h : n ≤ 1 then kf b else nodeK (tkey kf b (half n)) (tkey kf (b + half n) (n - half n))
termination_by n
decreasing_by
  · exact half_lt (by omega)
  · have := half_pos n; have := half_lt (n := n) (by omega); omega
theorem tkey_one (kf : Nat → List Int) (b : Nat) : tkey kf b 1 = kf b := by rw [tkey]; simp
theorem tkey_two (kf : Nat → List Int) (b n : Nat) (h : 2 ≤ n) : tkey kf b n = nodeK (tkey kf b (half n)) (tkey kf (b + half n) (n - half n)) := by
  rw [tkey, dif_neg (by omega)]
theorem tkey_congr {kf kg : Nat → List Int} : ∀ (n b c : Nat), 1 ≤ n → (∀ i, i < n → kf (b + i) = kg (c + i)) → tkey kf b n = tkey kg c n := by
  intro n
  induction n using Nat.strongRecOn with
  | _ n ih =>
    intro b c h1 h
    by_cases h2 : n = 1
    · subst h2
      rw [tkey_one, tkey_one]
      exact h 0 (by omega)
    · have a1 := half_pos n
      have a2 := half_lt (n := n) (by omega)
      rw [tkey_two kf b n (by omega), tkey_two kg c n (by omega), ih (half n) a2 b c a1 (fun i hi => h i (by omega)), ih (n - half n) (by omega) (b + half n) (c + half n) (by omega) (fun i hi => by
        rw [Nat.add_assoc, Nat.add_assoc]; exact h (half n + i) (by omega))]
theorem tkey_len {kf : Nat → List Int} {b n : Nat} (h1 : 1 ≤ n) (h : ∀ i, i < n → (kf (b + i)).length = 32) : (tkey kf b n).length = 32 := by
  by_cases h2 : n = 1
  · subst h2; rw [tkey_one]; exact h 0 (by omega)
  · rw [tkey_two _ _ _ (by omega)]; exact nodeK_len _ _
theorem tkey_range {kf : Nat → List Int} {b n : Nat} (h1 : 1 ≤ n) (h : ∀ i, i < n → ∀ z ∈ kf (b + i), 0 ≤ z ∧ z ≤ 255) : ∀ z ∈ tkey kf b n, 0 ≤ z ∧ z ≤ 255 := by
  by_cases h2 : n = 1
  · subst h2; rw [tkey_one]; exact h 0 (by omega)
  · rw [tkey_two _ _ _ (by omega)]; exact nodeK_range _ _
/-! Parts of a list of keys. -/
theorem keyAt_drop (fl : List Int) (m i : Nat) : keyAt (fl.drop (32 * m)) i = keyAt fl (m + i) := by
  unfold keyAt
  rw [List.drop_drop, show 32 * m + 32 * i = 32 * (m + i) by omega]
theorem keyAt_take {fl : List Int} {m i : Nat} (h : i < m) : keyAt (fl.take (32 * m)) i = keyAt fl i := by
  unfold keyAt
  rw [List.drop_take, List.take_take, show min 32 (32 * m - 32 * i) = 32 by omega]
theorem RdK.take {w : World} {a : Option Addr} {n m : Nat} {fl : List Int} (h : RdK w a n fl) (hm : m ≤ n) : RdK w a m (fl.take (32 * m)) := by
  obtain ⟨h1, h2⟩ := h
  refine ⟨by rw [List.length_take]; omega, ?_⟩
  rcases h2 with h2 | ⟨b, off, e, hlt, hc⟩
  · exact Or.inl (by omega)
  · exact Or.inr ⟨b, off, e, hlt, fun j hj => by rw [hc j (by omega), List.getElem?_take_of_lt hj]⟩
theorem RdK.drop {w : World} {b off n m : Nat} {fl : List Int} (h : RdK w (some ⟨b, off, none⟩) n fl) (hm : m ≤ n) : RdK w (some ⟨b, off + m * 32, none⟩) (n - m) (fl.drop (32 * m)) := by
  obtain ⟨h1, h2⟩ := h
  refine ⟨by rw [List.length_drop]; omega, ?_⟩
  rcases h2 with h2 | ⟨b', off', e, hlt, hc⟩
  · exact Or.inl (by omega)
  · cases e
    exact Or.inr ⟨b, off + m * 32, rfl, hlt, fun j hj => by rw [show off + m * 32 + j = off + (32 * m + j) by omega, hc _ (by omega), List.getElem?_drop]⟩
theorem RdK.key {w : World} {b off n : Nat} {fl : List Int} (h : RdK w (some ⟨b, off, none⟩) n fl) (i : Nat) (hi : i < n) : w.rangeAt b (off + i * 32) ((keyAt fl i).map (Value.int .u8)) := by
  obtain ⟨h1, h2⟩ := h
  rcases h2 with h2 | ⟨b', off', e, hlt, hc⟩
  · omega
  · cases e
    exact keyAt_rangeAt h1 hc i hi
theorem RdK.form {w : World} {a : Option Addr} {n : Nat} {fl : List Int} (h : RdK w a n fl) (h0 : 0 < n) : ∃ b off, a = some ⟨b, off, none⟩ := by
  rcases h.2 with h2 | ⟨b, off, e, _, _⟩
  · omega
  · exact ⟨b, off, e⟩
/-! The part that is less than the whole, by the specification. -/
set_option maxHeartbeats 1000000 in
theorem half_spec (n : Nat) (h2 : 2 ≤ n) (hn : n ≤ 1048576) (w : World) :
    Calls Try.prog 120 #[.int .i64 (n : Int)] w fun e w' => e = .returned (.int .i64 (half n : Nat)) ∧ w = w' := by
  go_enter Try.func120, Try.ntmps120
  go_wp2
  go_loop [3] (fun m => ∃ k p : Nat, p = 2 ^ k ∧ p < n ∧ m = .int .i64 (p : Int)) (fun m => n - (intOf m).toNat)
  case atStart => exact ⟨0, 1, rfl, by omega, rfl⟩
  case round =>
    obtain ⟨k, p, hp, hlt, rfl⟩ := hrel
    have HP := Lib.hid hp
    have p0 : 0 < p := by rw [hp]; exact Nat.two_pow_pos k
    clear hp
    by_cases h : 2 * p < n
    · go_wp2
      go_round
      case rel => exact ⟨k + 1, 2 * p, by rw [HP.out, Nat.pow_succ]; omega, h, by go_num⟩
      case measure => simp [intOf]; omega
    · have e : half n = p := by rw [HP.out]; exact half_eq (by rw [← HP.out]; exact hlt) (by rw [← HP.out]; omega)
      have E := Lib.hid e
      clear e
      go_wp2
      go_ret
      exact ⟨by rw [E.out]; rfl, rfl⟩
end Go.Proofs.Ytjijgckljjcfiaa
