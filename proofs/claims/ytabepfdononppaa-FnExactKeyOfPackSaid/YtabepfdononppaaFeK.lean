/- The key of data that a new hasher has been fed with. Written by hand. -/
import Derived.Test.YtabepfdononppaaFed
import Derived.Test.YtabepfdononppaaHash
namespace Go.Proofs.Ytabepfdononppaa
open Go.ChangeShapes Go.WideShapes Go.ChangeAt Go.RowKit
set_option linter.unusedVariables false
set_option linter.unusedSimpArgs false
theorem mixB_congr {st L M : List Int} : ∀ j, (∀ i, i < j → blk L (32 * i) = blk M (32 * i)) → mixB st L j = mixB st M j
  | 0, _ => rfl
  | j + 1, h => by
    show mixF (mixB st L j) (blk L (32 * j)) = mixF (mixB st M j) (blk M (32 * j))
    rw [mixB_congr j (fun i hi => h i (by omega)), h j (by omega)]
theorem mixB_add (st L : List Int) (q : Nat) : ∀ m, mixB st L (q + m) = mixB (mixB st L q) (L.drop (32 * q)) m
  | 0 => rfl
  | m + 1 => by
    show mixF (mixB st L (q + m)) (blk L (32 * (q + m))) = mixF (mixB (mixB st L q) (L.drop (32 * q)) m) (blk (L.drop (32 * q)) (32 * m))
    rw [mixB_add st L q m]
    congr 1
    unfold blk
    rw [List.drop_drop]
    congr 2
    omega
theorem blk_append {P R : List Int} {p : Nat} (h : p + 32 ≤ P.length) : blk (P ++ R) p = blk P p := by
  unfold blk
  rw [List.drop_append_of_le_length (by omega), List.take_append_of_le_length (by simp; omega)]
theorem padL_split (P T : List Int) (c : Int) (hP : P.length % 32 = 0) : padL (P ++ T) c = P ++ padL T c := by
  have e : padN (P ++ T).length = padN T.length := by
    unfold padN
    rw [List.length_append]
    have : (P.length + T.length) % 32 = T.length % 32 := by omega
    rw [this]
  unfold padL
  rw [e]
  simp [List.append_assoc]
/-- What is fed comes to the key of the whole. -/
theorem endK_fed (st A : List Int) (c : Int) : endK (fedS st A) (fedT A) c = endK st A c := by
  have hq : 32 * (A.length / 32) ≤ A.length := by omega
  have hPl : (A.take (32 * (A.length / 32))).length = 32 * (A.length / 32) := by simp; omega
  have hA : padL A c = A.take (32 * (A.length / 32)) ++ padL (fedT A) c := by
    have h := padL_split (A.take (32 * (A.length / 32))) (fedT A) c (by rw [hPl]; omega)
    unfold fedT at h ⊢
    rwa [List.take_append_drop] at h
  unfold endK
  congr 1
  have hl : (padL A c).length / 32 = A.length / 32 + (padL (fedT A) c).length / 32 := by
    rw [hA, List.length_append, hPl]
    omega
  rw [hl, mixB_add]
  have h1 : mixB st (padL A c) (A.length / 32) = fedS st A := by
    unfold fedS
    refine mixB_congr _ (fun i hi => ?_)
    rw [hA]
    exact blk_append (by rw [hPl]; omega)
  have h2 : (padL A c).drop (32 * (A.length / 32)) = padL (fedT A) c := by
    rw [hA]
    exact List.drop_left' hPl
  rw [h1, h2]
end Go.Proofs.Ytabepfdononppaa
