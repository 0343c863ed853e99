/- The order of keys, and how they are sorted. Written by hand. -/
import Derived.Test.YtdoelmjaongjfaaKm
import Derived.Test.YtdoelmjaongjfaaCmp
import Derived.Shelf.SlSortCmp.NoneTotal
namespace Go.Proofs.Ytdoelmjaongjfaa
open Go.ChangeShapes Go.WideShapes Go.ChangeAt Go.RowKit
set_option linter.unusedVariables false
set_option linter.unusedSimpArgs false
open Go.Sort
theorem cmpI_refl : ∀ a : List Int, cmpI a a = 0
  | [] => rfl
  | x :: a => by simp [cmpI, cmpI_refl a]
theorem cmpI_eq : ∀ a b : List Int, a.length = b.length → cmpI a b = 0 → a = b
  | [], [], _, _ => rfl
  | [], _ :: _, h, _ => by simp at h
  | _ :: _, [], h, _ => by simp at h
  | x :: a, y :: b, hl, h => by
    simp only [cmpI] at h
    split at h
    · rename_i e
      rw [e, cmpI_eq a b (by simpa using hl) h]
    · split at h <;> cases h
theorem cmpI_neg : ∀ a b : List Int, cmpI b a = - cmpI a b
  | [], [] => rfl
  | [], _ :: _ => rfl
  | _ :: _, [] => rfl
  | x :: a, y :: b => by
    simp only [cmpI]
    by_cases h : x = y
    · rw [if_pos h, if_pos h.symm, cmpI_neg a b]
    · rw [if_neg h, if_neg (fun e => h e.symm)]
      by_cases h2 : x < y
      · rw [if_pos h2, if_neg (by omega)]
        rfl
      · rw [if_neg h2, if_pos (by omega)]
theorem cmpI_trans : ∀ a b c : List Int, a.length = b.length → b.length = c.length → cmpI a b < 0 → cmpI b c < 0 → cmpI a c < 0
  | [], [], [], _, _, h, _ => by simp [cmpI] at h
  | [], _ :: _, _, h, _, _, _ => by simp at h
  | _ :: _, [], _, h, _, _, _ => by simp at h
  | [], [], _ :: _, _, h, _, _ => by simp at h
  | _ :: _, _ :: _, [], _, h, _, _ => by simp at h
  | x :: a, y :: b, z :: c, h1, h2, h3, h4 => by
    simp only [cmpI] at h3 h4 ⊢
    by_cases e1 : x = y
    · rw [if_pos e1] at h3
      subst e1
      by_cases e2 : x = z
      · rw [if_pos e2] at h4
        rw [if_pos e2]
        exact cmpI_trans a b c (by simpa using h1) (by simpa using h2) h3 h4
      · rw [if_neg e2] at h4 ⊢
        exact h4
    · rw [if_neg e1] at h3
      have l1 : x < y := by
        by_cases l : x < y
        · exact l
        · rw [if_neg l] at h3
          omega
      by_cases e2 : y = z
      · subst e2
        rw [if_neg e1, if_pos l1]
        omega
      · rw [if_neg e2] at h4
        have l2 : y < z := by
          by_cases l : y < z
          · exact l
          · rw [if_neg l] at h4
            omega
        rw [if_neg (by omega), if_pos (by omega)]
        omega
/-- A key of thirty-two bytes. -/
def KeyS := { l : List Int // IsK l }
instance : Inhabited KeyS := ⟨⟨List.replicate 32 0, by simp, by intro z hz; simp at hz; omega⟩⟩
def cfK (x y : KeyS) : Int := cmpI x.1 y.1
theorem lenK (x y : KeyS) : x.1.length = y.1.length := by rw [x.2.1, y.2.1]
theorem ltK (x y : KeyS) : Go.Proofs.ltOf cfK x y = decide (cmpI x.1 y.1 < 0) := rfl
theorem swoK : SWO (Go.Proofs.ltOf cfK) where
  irrefl x := by rw [ltK, cmpI_refl]; rfl
  trans x y z h1 h2 := by
    rw [ltK, decide_eq_true_eq] at *
    exact cmpI_trans _ _ _ (lenK x y) (lenK y z) h1 h2
  ntrans x y z h1 h2 := by
    rw [ltK, decide_eq_false_iff_not] at *
    intro h3
    have e1 := cmpI_neg x.1 y.1
    have e2 := cmpI_neg y.1 z.1
    by_cases n1 : cmpI x.1 y.1 = 0
    · have q : x.1 = y.1 := cmpI_eq _ _ (lenK x y) n1
      rw [q] at h3
      exact h2 h3
    · have h4 : cmpI y.1 x.1 < 0 := by omega
      exact h2 (cmpI_trans _ _ _ (lenK y x) (lenK x z) h4 h3)
theorem totK (x y : KeyS) (h1 : Go.Proofs.ltOf cfK x y = false) (h2 : Go.Proofs.ltOf cfK y x = false) : x = y := by
  rw [ltK, decide_eq_false_iff_not] at *
  have e1 := cmpI_neg x.1 y.1
  exact Subtype.ext (cmpI_eq _ _ (lenK x y) (by omega))
/-- Keys in order. -/
def sortK (ks : List KeyS) : List KeyS := ks.mergeSort (fun x y => !(Go.Proofs.ltOf cfK) y x)
def Asc (ks : List KeyS) : Prop := ks.Pairwise (fun x y => cmpI x.1 y.1 < 0)
theorem leK_trans (x y z : KeyS) (h1 : (!(Go.Proofs.ltOf cfK) y x) = true) (h2 : (!(Go.Proofs.ltOf cfK) z y) = true) : (!(Go.Proofs.ltOf cfK) z x) = true := by
  simp only [Bool.not_eq_true'] at *
  exact swoK.ntrans _ _ _ h2 h1
theorem leK_total (x y : KeyS) : ((!(Go.Proofs.ltOf cfK) y x) || (!(Go.Proofs.ltOf cfK) x y)) = true := by
  cases h1 : Go.Proofs.ltOf cfK y x
  · rfl
  · cases h2 : Go.Proofs.ltOf cfK x y
    · rfl
    · have := swoK.trans _ _ _ h1 h2
      rw [swoK.irrefl] at this
      cases this
theorem sortK_perm (ks : List KeyS) : (sortK ks).Perm ks := List.mergeSort_perm ks _
theorem sortK_of_perm {l l' : List KeyS} (h : l.Perm l') : sortK l = sortK l' := by
  refine List.Perm.eq_of_pairwise (le := fun a b => (!(Go.Proofs.ltOf cfK) b a) = true) (fun a b _ _ h1 h2 => ?_) (List.pairwise_mergeSort leK_trans leK_total l) (List.pairwise_mergeSort leK_trans leK_total l') (((sortK_perm l).trans h).trans (sortK_perm l').symm)
  simp only [Bool.not_eq_true'] at h1 h2
  exact totK _ _ h2 h1
theorem sortK_asc {l : List KeyS} (h : Asc l) : sortK l = l := by
  refine List.Perm.eq_of_pairwise (le := fun a b => (!(Go.Proofs.ltOf cfK) b a) = true) (fun a b _ _ h1 h2 => ?_) (List.pairwise_mergeSort leK_trans leK_total l) (h.imp (fun {x y} hxy => ?_)) (sortK_perm l)
  · simp only [Bool.not_eq_true'] at h1 h2
    exact totK _ _ h2 h1
  · rw [ltK]
    have := cmpI_neg x.1 y.1
    simp
    omega
theorem asc_sortK {l : List KeyS} (h : l.Nodup) : Asc (sortK l) := by
  have h1 := List.pairwise_mergeSort leK_trans leK_total l
  have h2 : (sortK l).Nodup := (sortK_perm l).nodup_iff.2 h
  refine (h1.and h2).imp (fun {x y} ⟨h3, h4⟩ => ?_)
  have h5 : Go.Proofs.ltOf cfK y x = false := by simpa using h3
  by_cases h6 : Go.Proofs.ltOf cfK x y = true
  · rw [ltK, decide_eq_true_eq] at h6
    exact h6
  · exact absurd (totK x y (by simpa using h6) h5) h4
/-- The bytes of keys, one behind the other. -/
def flatK (ks : List KeyS) : List Int := ks.flatMap (·.1)
theorem flatK_len (ks : List KeyS) : (flatK ks).length = 32 * ks.length := by
  unfold flatK
  induction ks with
  | nil => rfl
  | cons x r ih => rw [List.flatMap_cons, List.length_append, ih, x.2.1, List.length_cons]; omega
theorem flatK_bounds (ks : List KeyS) : ∀ z ∈ flatK ks, 0 ≤ z ∧ z ≤ 255 := by
  intro z hz
  obtain ⟨x, _, hx⟩ := List.mem_flatMap.1 hz
  exact x.2.2 z hx
theorem flatK_snoc (ks : List KeyS) (x : KeyS) : flatK (ks ++ [x]) = flatK ks ++ x.1 := by simp [flatK]
end Go.Proofs.Ytdoelmjaongjfaa
