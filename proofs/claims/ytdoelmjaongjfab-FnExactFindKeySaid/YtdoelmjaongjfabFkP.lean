/- FindKey: what the specification's loop has seen. Written by hand. -/
import Derived.Test.YtdoelmjaongjfabFkS
namespace Go.Proofs.Ytdoelmjaongjfab
open Go.ChangeShapes Go.WideShapes Go.ChangeAt Go.RowKit
set_option linter.unusedVariables false
set_option linter.unusedSimpArgs false
open Go.Sort Go.Shelf
open Classical in
theorem fkL_snoc (s : ByteArray) (ks : List KeyS) (x : KeyS) : fkL s (ks ++ [x]) = if begB s x.1 = true then (if x ∈ fkL s ks then fkL s ks else fkL s ks ++ [x]) else fkL s ks := by
  have hm : x ∈ fkL s ks ↔ x ∈ onceK ks ∧ begB s x.1 = true := by unfold fkL; rw [List.mem_filter]
  by_cases hb : begB s x.1 = true
  · rw [if_pos hb]
    by_cases hi : x ∈ onceK ks
    · rw [if_pos (hm.2 ⟨hi, hb⟩)]
      unfold fkL
      rw [onceK_in hi]
    · rw [if_neg (fun h => hi (hm.1 h).1)]
      unfold fkL
      rw [onceK_new hi, List.filter_append]
      simp [hb]
  · rw [if_neg hb]
    by_cases hi : x ∈ onceK ks
    · unfold fkL
      rw [onceK_in hi]
    · unfold fkL
      rw [onceK_new hi, List.filter_append]
      simp [hb]
theorem fkL_pre (s : ByteArray) (ks : List KeyS) : ∀ (r : List KeyS), ∃ t, fkL s (ks ++ r) = fkL s ks ++ t := by
  intro r
  induction r generalizing ks with
  | nil => exact ⟨[], by simp⟩
  | cons x r ih =>
    obtain ⟨t, ht⟩ := ih (ks ++ [x])
    rw [List.append_assoc] at ht
    rw [fkL_snoc] at ht
    split at ht
    · split at ht
      · exact ⟨t, ht⟩
      · exact ⟨[x] ++ t, by rw [← List.append_assoc]; exact ht⟩
    · exact ⟨t, ht⟩
/-- Two unlike keys so far: two in the end. -/
theorem fk_two {s : ByteArray} {ks : List KeyS} {k : Nat} {x y : KeyS} (h : fkL s (ks.take k) = [y, x]) : fkE (fkL s ks) = 4 ∧ fkV (fkL s ks) = z32 := by
  obtain ⟨t, ht⟩ := fkL_pre s (ks.take k) (ks.drop k)
  rw [List.take_append_drop, h] at ht
  rw [ht]
  exact ⟨rfl, rfl⟩
/-- What has been found so far: at most one key. -/
def FkSt (s : ByteArray) (ks : List KeyS) (k : Nat) (found : List Int) (code : Int) : Prop := (fkL s (ks.take k) = [] ∧ found = z32 ∧ code = 6) ∨ ∃ y : KeyS, fkL s (ks.take k) = [y] ∧ found = y.1 ∧ code = 0
theorem FkSt.start (s : ByteArray) (ks : List KeyS) : FkSt s ks 0 z32 6 := .inl ⟨rfl, rfl, rfl⟩
theorem FkSt.isK {s : ByteArray} {ks : List KeyS} {k : Nat} {found : List Int} {code : Int} (h : FkSt s ks k found code) : IsK found := by
  rcases h with ⟨_, rfl, _⟩ | ⟨y, _, rfl, _⟩
  · exact ⟨rfl, fun z hz => by unfold z32 at hz; simp at hz; omega⟩
  · exact y.2
theorem FkSt.skip {s : ByteArray} {ks : List KeyS} {k : Nat} {found : List Int} {code : Int} (h : FkSt s ks k found code) {x : KeyS} (hx : ks[k]? = some x) (hb : begB s x.1 = false) : FkSt s ks (k + 1) found code := by
  have e : ks.take (k + 1) = ks.take k ++ [x] := by rw [List.take_add_one, hx]; rfl
  unfold FkSt
  rw [e, fkL_snoc, if_neg (by rw [hb]; decide)]
  exact h
open Classical in
theorem FkSt.hit {s : ByteArray} {ks : List KeyS} {k : Nat} {found : List Int} {code : Int} (h : FkSt s ks k found code) {x : KeyS} (hx : ks[k]? = some x) (hb : begB s x.1 = true) :
    (code = 0 ∧ x.1 ≠ found ∧ fkE (fkL s ks) = 4 ∧ fkV (fkL s ks) = z32) ∨ (¬ (code = 0 ∧ x.1 ≠ found) ∧ FkSt s ks (k + 1) x.1 0) := by
  have e : ks.take (k + 1) = ks.take k ++ [x] := by rw [List.take_add_one, hx]; rfl
  rcases h with ⟨h1, rfl, rfl⟩ | ⟨y, h1, rfl, rfl⟩
  · refine .inr ⟨fun h => by omega, .inr ⟨x, ?_, rfl, rfl⟩⟩
    rw [e, fkL_snoc, if_pos hb, h1]
    simp
  · by_cases hxy : x = y
    · subst hxy
      refine .inr ⟨fun h => h.2 rfl, .inr ⟨x, ?_, rfl, rfl⟩⟩
      rw [e, fkL_snoc, if_pos hb, h1]
      simp
    · refine .inl ⟨rfl, fun h => hxy (Subtype.ext h), fk_two (k := k + 1) (y := y) (x := x) ?_⟩
      rw [e, fkL_snoc, if_pos hb, h1, if_neg (by simpa using hxy)]
      rfl
theorem FkSt.whole {s : ByteArray} {ks : List KeyS} {found : List Int} {code : Int} (h : FkSt s ks ks.length found code) : found = fkV (fkL s ks) ∧ code = fkE (fkL s ks) := by
  unfold FkSt at h
  rw [List.take_length] at h
  rcases h with ⟨h1, rfl, rfl⟩ | ⟨y, h1, rfl, rfl⟩
  · rw [h1]; exact ⟨rfl, rfl⟩
  · rw [h1]; exact ⟨rfl, rfl⟩
theorem beg_eq (s : ByteArray) (V : List Int) : (((strOfNums (hexL V 64)).extract 0 s.size).toList == s.toList) = begB s V := by
  show _ = Lib.hasPrefix (strOfNums (hexL V 64)).data.toList s.data.toList
  unfold Lib.hasPrefix
  have hs : s.size = s.data.toList.length := by rw [Array.length_toList]; rfl
  rw [ByteArray.toList_eq, ByteArray.toList_eq, ByteArray.data_extract, Array.toList_extract, Bool.eq_iff_iff, beq_iff_eq, List.isPrefixOf_iff_prefix, List.prefix_iff_eq_take, hs]
  simp only [List.extract_eq_take_drop, List.drop_zero, Nat.sub_zero]
  exact eq_comm
theorem txt_size (V : List Int) : (strOfNums (hexL V 64)).size = 64 := by show (strOfNums (hexL V 64)).data.size = 64; rw [← Array.length_toList]; simp [strOfNums, hexL_len]
theorem eqlKy (a b : List Int) (ha : a.length = 32) (hb : b.length = 32) (W : World) : Sem.run Try.prog (Op.equalIn 10000 32 (.agg (ints .u8 a)) (.agg (ints .u8 b))) W = .ok (decide (a = b)) W := run_equalIn_ints Try.underlying32 Try.underlying5 sizeU8H a b ha hb 9998 W
end Go.Proofs.Ytdoelmjaongjfab
