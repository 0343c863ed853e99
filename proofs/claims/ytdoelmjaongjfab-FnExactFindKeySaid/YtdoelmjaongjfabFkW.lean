/- FindKey, by program and specification, whole. Written by hand. -/
import Derived.Test.YtdoelmjaongjfabFkY
namespace Go.Proofs.Ytdoelmjaongjfab
open Go.ChangeShapes Go.WideShapes Go.ChangeAt Go.RowKit
set_option linter.unusedVariables false
set_option linter.unusedSimpArgs false
open Go.Sort Go.Shelf
def dgB (s : ByteArray) : Prop := s.size ≤ 64 ∧ ∀ j, j < s.size → isHx (charI s j) = true
open Classical in
noncomputable def fdV (fl : List Int) (n : Nat) (s : ByteArray) : List Int := if n ≤ 256 ∧ dgB s then fkV (fkL s (ksL fl n)) else z32
open Classical in
noncomputable def fdE (fl : List Int) (n : Nat) (s : ByteArray) : Int := if n ≤ 256 then (if dgB s then fkE (fkL s (ksL fl n)) else 5) else 3
theorem fkV_len : ∀ ks : List KeyS, (fkV ks).length = 32
  | [] => rfl
  | [x] => x.2.1
  | _ :: _ :: _ => rfl
theorem fdV_len (fl : List Int) (n : Nat) (s : ByteArray) : (fdV fl n s).length = 32 := by
  unfold fdV
  split
  · exact fkV_len _
  · rfl
theorem fd_yes {fl : List Int} {n : Nat} {s : ByteArray} (h : n ≤ 256) (hd : dgB s) : fdV fl n s = fkV (fkL s (ksL fl n)) ∧ fdE fl n s = fkE (fkL s (ksL fl n)) := by
  unfold fdV fdE
  rw [if_pos ⟨h, hd⟩, if_pos h, if_pos hd]
  exact ⟨rfl, rfl⟩
theorem fd_bad {fl : List Int} {n : Nat} {s : ByteArray} (h : n ≤ 256) (hd : ¬ dgB s) : fdV fl n s = z32 ∧ fdE fl n s = 5 := by
  unfold fdV fdE
  rw [if_neg (fun q => hd q.2), if_pos h, if_neg hd]
  exact ⟨rfl, rfl⟩
theorem fd_many {fl : List Int} {n : Nat} {s : ByteArray} (h : ¬ n ≤ 256) : fdV fl n s = z32 ∧ fdE fl n s = 3 := by
  unfold fdV fdE
  rw [if_neg (fun q => h q.1), if_neg h]
  exact ⟨rfl, rfl⟩
theorem find_spec (b : Option Addr) (n cap : Nat) (fl : List Int) (s : ByteArray) (hm : n ≤ maxLen) (hs : s.size ≤ maxLen) (hf : ∀ y ∈ fl, 0 ≤ y ∧ y ≤ 255) (w : World) (hk : RdK w b n fl) :
    Calls Try.prog 20 #[.slice b n cap, .string s] w fun e w' => e = .returned (.tuple #[.agg (ints .u8 (fdV fl n s)), .int .i64 (fdE fl n s)]) ∧ Below w.heap.size w w' := by
  by_cases hn : n ≤ 256
  · by_cases hd : dgB s
    · rw [(fd_yes hn hd).1, (fd_yes hn hd).2]
      exact find_spec_yes b n cap fl s hn hf hd.1 hd.2 w hk
    · rw [(fd_bad hn hd).1, (fd_bad hn hd).2]
      by_cases h64 : s.size ≤ 64
      · exact find_spec_bad b n cap s hn h64 (fun h => hd ⟨h64, h⟩) w
      · exact find_spec_long b n cap s hn hs h64 w
  · rw [(fd_many hn).1, (fd_many hn).2]
    exact find_spec_many b n cap s hm hn w
theorem find_impl (b : Option Addr) (n cap : Nat) (fl : List Int) (s : ByteArray) (hm : n ≤ maxLen) (hs : s.size ≤ maxLen) (hf : ∀ y ∈ fl, 0 ≤ y ∧ y ≤ 255) (w : World) (hk : RdK w b n fl) :
    Calls Try.prog 21 #[.slice b n cap, .string s] w fun e w' => e = .returned (.tuple #[.agg (ints .u8 (fdV fl n s)), .int .i64 (fdE fl n s)]) ∧ Below w.heap.size w w' := by
  by_cases hn : n ≤ 256
  · by_cases hd : dgB s
    · rw [(fd_yes hn hd).1, (fd_yes hn hd).2]
      exact find_impl_yes b n cap fl s hn hf hd.1 hd.2 w hk
    · rw [(fd_bad hn hd).1, (fd_bad hn hd).2]
      by_cases h64 : s.size ≤ 64
      · exact find_impl_bad b n cap s hn h64 (fun h => hd ⟨h64, h⟩) w
      · exact find_impl_long b n cap s hn hs h64 w
  · rw [(fd_many hn).1, (fd_many hn).2]
    exact find_impl_many b n cap s hm hn w
end Go.Proofs.Ytdoelmjaongjfab
