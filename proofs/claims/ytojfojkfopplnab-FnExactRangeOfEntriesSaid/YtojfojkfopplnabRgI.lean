/- RangeOfEntries, by the program. Written by wip/gen/rge.py. -/
import Derived.Test.YtojfojkfopplnabRgS
namespace Go.Proofs.Ytojfojkfopplnab
open Go.ChangeShapes Go.WideShapes Go.ChangeAt Go.RowKit
set_option linter.unusedVariables false
set_option linter.unusedSimpArgs false
set_option maxRecDepth 100000 in
set_option maxHeartbeats 4000000 in
theorem rg_impl (lo hi : ByteArray) (a : Option Addr) (n cap : Nat) (es : List ByteArray) (hn : n ≤ 1048576) (hm : ∀ s ∈ es, s.size ≤ maxLen) (w : World) (hr : RdE w a n es) :
    Calls Try.prog 35 #[.slice a n cap, .string lo, .string hi] w fun e w' => ∃ v, e = .returned (.tuple #[v, .int .i64 (rgE es n)]) ∧ w'.ownsRow w.heap.size 26 2 v (rgN lo hi es n) ((rgV lo hi es n).map Value.string) ∧ Below w.heap.size w w' := by
  obtain ⟨i0, z0, hi0, hz0, hz1, hz2, hzs⟩ := entParts
  have Hi := Lib.hid hi0
  clear hi0
  have HR := Lib.hid hr
  have HOK := Lib.hid (ok_impl a n cap es hn hm w hr)
  unfold rgE rgV rgN
  clear hr hm
  by_cases hok : okE es n
  · rw [if_pos hok, if_pos hok, if_pos hok]
    rw [decide_eq_true hok] at HOK
    clear hok
    go_enter Try.func35, Try.ntmps35
    go_wp2_with fail
    refine HOK.out.mono ?_
    rintro e w1 ⟨rfl, hb⟩
    have B1 := Lib.hid hb
    clear hb
    have A2 := Lib.hid (heap_alloc_last w1 (.cells #[.string lo, .string hi] 84))
    have B2 := Lib.hid (B1.out.alloc B1.out.size (.cells #[.string lo, .string hi] 84))
    have H8 := Lib.hid B1.out.size
    go_wp2_with fail
    generalize w1.alloc (.cells #[.string lo, .string hi] 84) = w2 at A2 B2 ⊢
    generalize w1.heap.size = g8 at A2 H8 ⊢
    go_loopw [9, 20] (fun o i wr => ∃ k : Nat, k ≤ n ∧ i = .int .i64 k ∧ wr.ownsRow w.heap.size 26 2 o (cntF (inR lo hi) es k) ((selF (inR lo hi) es k).map Value.string) ∧ wr.heap[g8]? = some (.cells #[.string lo, .string hi] 84) ∧ Below w.heap.size w wr) (fun _ i _ => n - (intOf i).toNat)
    case atStart => exact ⟨0, by omega, rfl, ⟨rfl, Or.inl ⟨rfl, rfl⟩⟩, A2.out, B2.out⟩
    case round =>
      obtain ⟨k, hk, rfl, ho, hA, hb⟩ := hrel
      have HB := Lib.hid hb
      have HO := Lib.hid ho
      have HA := Lib.hid hA
      clear hb ho hA
      by_cases hlt : k < n
      · have b0 : (0 : Int) ≤ (k : Int) := by omega
        have b1 : (k : Int) < (n : Int) := by omega
        obtain ⟨b', off, rfl⟩ := HR.out.form (by omega)
        obtain ⟨c0, c1⟩ := (HR.out.below HB.out).at hlt
        have HK : cntF (inR lo hi) es k ≤ 1048576 := by have := cntF_le (inR lo hi) es k; omega
        have S1 := Lib.hid (selF_next (inR lo hi) es k)
        have S2 := Lib.hid (cntF_next (inR lo hi) es k)
        have HHS := Lib.hid (fun U => has_impl lo hi (tx es (2 * k)) U)
        generalize tx es (2 * k) = nm at c0 S1 S2 HHS
        generalize tx es (2 * k + 1) = vl at c1 S1
        generalize selF (inR lo hi) es k = sl at HO S1
        generalize cntF (inR lo hi) es k = ct at HO HK S2
        have LI := (Below.refl wr.heap.size wr).alloc (Nat.le_refl _) (.cells #[.string nm, .string vl] 26)
        have O3 := Lib.hid (owns_below HO.out LI)
        have B3 := Lib.hid (below_call HB.out HB.out.size LI)
        have A3 := Lib.hid (keep_block HA.out LI)
        have N3 := Lib.hid (heap_alloc_last wr (.cells #[.string nm, .string vl] 26))
        have q0 := cell_of_row _ g8 0 _ _ _ A3.out
        have q1 := cell_of_row _ g8 1 _ _ _ A3.out
        have HLT := Lib.hid (Array.getElem?_eq_some_iff.1 HA.out).1
        clear LI HO
        go_wp2_with fail
        generalize wr.alloc (.cells #[.string nm, .string vl] 26) = w3 at O3 B3 A3 N3 q0 q1 ⊢
        generalize wr.heap.size = g3 at N3 HLT ⊢
        have r0 := cell_of_row _ g3 0 _ _ _ N3.out
        go_wp2_with fail
        refine (HHS.out _).mono ?_
        rintro e w4 ⟨rfl, hb⟩
        have O4 := Lib.hid (owns_below O3.out hb)
        have B4 := Lib.hid (below_call B3.out B3.out.size hb)
        have A4 := Lib.hid (keep_block A3.out hb)
        have N4 := Lib.hid (keep_block N3.out hb)
        clear hb q0 q1 r0 c0 c1
        cases h3 : inR lo hi nm with
        | false =>
          rw [h3] at S1 S2
          have T1 := Lib.hid (S1.out.trans (if_neg (by simp)))
          have T2 := Lib.hid (S2.out.trans (if_neg (by simp)))
          clear S1 S2
          go_wp2_with fail
          go_roundw
          case rel => exact ⟨k + 1, by omega, by go_num, by rw [T1.out, T2.out]; exact O4.out, A4.out, B4.out⟩
          case measure => simp [intOf]; omega
        | true =>
          rw [h3] at S1 S2
          have T1 := Lib.hid (S1.out.trans (if_pos rfl))
          have T2 := Lib.hid (S2.out.trans (if_pos rfl))
          clear S1 S2
          have s0 := cell_of_row _ g3 0 _ _ _ N4.out
          have s1 := cell_of_row _ g3 1 _ _ _ N4.out
          have LI := (Below.refl w4.heap.size w4).alloc (Nat.le_refl _) (.cells #[.string nm, .string vl] 26)
          have O3 := Lib.hid (owns_below O4.out LI)
          have B5 := Lib.hid (below_call B4.out B4.out.size LI)
          have A5 := Lib.hid (keep_block A4.out LI)
          clear LI
          go_wp2_with (first | (refine buildE rfl 32 26 _ rfl Try.underlying32 Hi.out hz0 #[.string nm, .string vl] rfl (by rw [hz1]; rfl) (by rw [hz1]; decide) (by rw [hz1]; decide) ?_) | (at_builtin; refine wpList_append_own _ rfl _ _ 32 rfl w.heap.size 26 i0 z0 2 32 Try.underlying32 Hi.out hz0 hz1 hz2 hzs (by decide) _ ct _ rfl O3.out ⟨w4.heap.size, 0, none⟩ 1 1 [.string nm, .string vl] rfl rfl ?c1 ?c2 ?c3 ?c4 ?c5 ?_))
          case c1 =>
            intro p u hu
            rw [addrE, Nat.zero_add, cell_of_row _ w4.heap.size p _ _ _ (heap_alloc_last w4 (.cells #[.string nm, .string vl] 26)), ← hu]
            simp
          case c2 =>
            intro u hu
            rcases List.mem_cons.1 hu with rfl | hu
            · rfl
            · rcases List.mem_cons.1 hu with rfl | hu
              · rfl
              · cases hu
          case c3 => unfold maxLen; omega
          case c4 => omega
          case c5 => have := B4.out.size; simp; omega
          intro v4 w6 hown4 hgrow4 hnil4
          have O6 := Lib.hid hown4
          have B6 := Lib.hid (B5.out.grown hgrow4 (by have := B4.out.size; simp; omega) (fun g e => by have := (O3.out.lt g e).1; omega))
          have A6 := Lib.hid ((hgrow4.block g8 (Array.getElem?_eq_some_iff.1 A5.out).1 (fun e => ownsE_ne O3.out A5.out (by decide) e.symm)).trans A5.out)
          clear hown4 hgrow4 hnil4 s0 s1
          go_wp2_with fail
          go_roundw
          case rel => exact ⟨k + 1, by omega, by go_num, by rw [T1.out, T2.out, List.map_append]; exact O6.out, A6.out, B6.out⟩
          case measure => simp [intOf]; omega
      · obtain rfl : k = n := by omega
        go_wp2_with fail
        go_ret2
        exact ⟨_, rfl, HO.out, HB.out⟩
  · rw [if_neg hok, if_neg hok, if_neg hok]
    rw [decide_eq_false hok] at HOK
    clear hok
    go_enter Try.func35, Try.ntmps35
    go_wp2_with fail
    refine HOK.out.mono ?_
    rintro e w1 ⟨rfl, hb⟩
    have B1 := Lib.hid hb
    clear hb
    go_wp2_with fail
    go_ret2
    exact ⟨_, rfl, ⟨rfl, Or.inl ⟨rfl, rfl⟩⟩, B1.out⟩
end Go.Proofs.Ytojfojkfopplnab
