/- The bytes of a node, by the specification. Written by wip/gen/nod.py. -/
import Derived.Test.YtmkddiconpacnaaNod
import Derived.Test.YtmkddiconpacnaaSel
namespace Go.Proofs.Ytmkddiconpacnaa
open Go.ChangeShapes Go.WideShapes Go.ChangeAt Go.RowKit
set_option linter.unusedVariables false
set_option linter.unusedSimpArgs false
theorem infoB : ∃ i : TypeInfo, Try.prog.info? 5 = some i ∧ i.zero = some (.int .u8 0) ∧ i.size = 1 ∧ i.bytes = 1 := by
  obtain ⟨i, hi, hz⟩ := Option.map_eq_some_iff.1 infoByte
  simp only [Prod.mk.injEq] at hz
  exact ⟨i, hi, hz.1, hz.2.1, hz.2.2⟩
theorem newE_cell (w : World) (v : Value) (t : TypeId) : ∀ j u, [v][j]? = some u → (w.alloc (.cells #[v] t)).cell? ((⟨w.heap.size, 0, none⟩ : Addr).add j) = some u := by
  intro j u hu
  rw [addrE, Nat.zero_add, cell_of_row _ w.heap.size j _ _ _ (heap_alloc_last w (.cells #[v] t)), ← hu]
  simp
theorem take_next {l : List Int} {k : Nat} (h : k < l.length) : l.take (k + 1) = l.take k ++ [l[k]?.getD 0] := by
  rw [List.take_succ_eq_append_getElem h, List.getElem?_eq_getElem h]; rfl
set_option maxRecDepth 100000 in
set_option maxHeartbeats 8000000 in
theorem nb_spec (g : Nat) (l r : List Int) (nm vl : ByteArray) (hl : l.length = 32) (hr : r.length = 32) (hn : nm.size ≤ 24) (hv : vl.size ≤ 64) (w : World) (hg : w.heap[g]? = some (.cells (nodC l r nm vl) 45)) :
    Calls Try.prog 77 #[.pointer (some ⟨g, 0, none⟩)] w fun e w' => ∃ v, e = .returned v ∧ w'.ownsRow w.heap.size 5 1 v (65 + nm.size + vl.size) ((nodB l r nm vl).map (Value.int .u8)) ∧ Below w.heap.size w w' := by
  obtain ⟨i0, hi0, hz0, hz1, hz2⟩ := infoB
  have Hi := Lib.hid hi0
  have HG := Lib.hid hg
  have HLL := Lib.hid hl
  have HRL := Lib.hid hr
  have O0 := Lib.hid (ownsE_empty w 5 1)
  have B0 := Lib.hid ((Below.refl w.heap.size w).alloc (Nat.le_refl _) (.cells #[] 5))
  have G0 := Lib.hid (keep_block hg ((Below.refl w.heap.size w).alloc (Nat.le_refl _) (.cells #[] 5)))
  clear hi0 hg hl hr
  go_enter Try.func77, Try.ntmps77
  go_wp2_with fail
  go_loopw [3, 4] (fun o i wr => ∃ k : Nat, k ≤ 32 ∧ i = .int .i64 k ∧ wr.ownsRow w.heap.size 5 1 o k ((l.take k).map (Value.int .u8)) ∧ wr.heap[g]? = some (.cells (nodC l r nm vl) 45) ∧ Below w.heap.size w wr) (fun _ i _ => 32 - (intOf i).toNat)
  case atStart => exact ⟨0, by omega, rfl, O0.out, G0.out, B0.out⟩
  case round =>
    obtain ⟨k, hk, rfl, ho, hG, hb⟩ := hrel
    have HO := Lib.hid ho
    have HB := Lib.hid hb
    have HH := Lib.hid hG
    clear ho hb hG
    by_cases hlt : k < 32
    · have b0 : (0 : Int) ≤ (k : Int) := by omega
      have b1 : (k : Int) < 32 := by omega
      obtain ⟨c0, _⟩ := nod_byte HLL.out HRL.out HH.out hlt
      have HT := Lib.hid (take_next (l := l) (k := k) (by rw [HLL.out]; exact hlt))
      generalize l[k]?.getD 0 = z at c0 HT
      have HNE := Lib.hid (owns_below HO.out ((Below.refl wr.heap.size wr).alloc (Nat.le_refl _) (.cells #[.int .u8 z] 5)))
      have G3 := Lib.hid (keep_block HH.out ((Below.refl wr.heap.size wr).alloc (Nat.le_refl _) (.cells #[.int .u8 z] 5)))
      have B3 := Lib.hid (below_call HB.out HB.out.size ((Below.refl wr.heap.size wr).alloc (Nat.le_refl _) (.cells #[.int .u8 z] 5)))
      go_wp2_with (at_builtin; refine wpList_append_own _ rfl _ _ 40 rfl w.heap.size 5 i0 (.int .u8 0) 1 1 Try.underlying40 Hi.out hz0 hz1 hz2 rfl (by decide) _ (k) _ rfl HNE.out ⟨wr.heap.size, 0, none⟩ 1 1 [.int .u8 z] rfl rfl ?c1 ?c2 ?c3 ?c4 ?c5 ?_)
      case c1 => exact newE_cell _ _ _
      case c2 => simp [Value.oneCell']
      case c3 => unfold maxLen; omega
      case c4 => omega
      case c5 => have := HB.out.size; simp; omega
      intro v4 w4 hown4 hgrow4 hnil4
      have O4 := Lib.hid hown4
      have B4 := Lib.hid (B3.out.grown hgrow4 (by have := HB.out.size; simp; omega) (fun g e => by have := (HNE.out.lt g e).1; omega))
      have G4 := Lib.hid ((hgrow4.block g (Array.getElem?_eq_some_iff.1 G3.out).1 (fun e => ownsE_ne HNE.out G3.out (by decide) e.symm)).trans G3.out)
      clear hown4 hgrow4 hnil4
      go_wp2_with fail
      go_roundw
      case rel => exact ⟨k + 1, by omega, by go_num, by rw [HT.out]; have := O4.out; simp only [List.map_append, List.map_take, List.map_cons, List.map_nil, List.append_assoc, Nat.add_assoc] at this ⊢; exact this, G4.out, B4.out⟩
      case measure => simp [intOf]; omega
    · obtain rfl : k = 32 := by omega
      have e : l.take 32 = l := List.take_of_length_le (by rw [HLL.out]; omega)
      rw [e] at HO
      clear e hlt hk
      rw [show ((32 : Nat) : Int) = 32 from rfl]
      go_wp2_with fail
      go_loopw [3, 5] (fun o i wr => ∃ k : Nat, k ≤ 32 ∧ i = .int .i64 k ∧ wr.ownsRow w.heap.size 5 1 o (32 + k) ((l ++ r.take k).map (Value.int .u8)) ∧ wr.heap[g]? = some (.cells (nodC l r nm vl) 45) ∧ Below w.heap.size w wr) (fun _ i _ => 32 - (intOf i).toNat)
      case atStart => exact ⟨0, by omega, rfl, by simpa using HO.out, HH.out, HB.out⟩
      case round =>
        clear HO HB HH
        obtain ⟨k, hk, rfl, ho, hG, hb⟩ := hrel
        have HO := Lib.hid ho
        have HB := Lib.hid hb
        have HH := Lib.hid hG
        clear ho hb hG
        by_cases hlt : k < 32
        · have b0 : (0 : Int) ≤ (k : Int) := by omega
          have b1 : (k : Int) < 32 := by omega
          obtain ⟨_, c0⟩ := nod_byte HLL.out HRL.out HH.out hlt
          have HT := Lib.hid (take_next (l := r) (k := k) (by rw [HRL.out]; exact hlt))
          generalize r[k]?.getD 0 = z at c0 HT
          have HNE := Lib.hid (owns_below HO.out ((Below.refl wr.heap.size wr).alloc (Nat.le_refl _) (.cells #[.int .u8 z] 5)))
          have G3 := Lib.hid (keep_block HH.out ((Below.refl wr.heap.size wr).alloc (Nat.le_refl _) (.cells #[.int .u8 z] 5)))
          have B3 := Lib.hid (below_call HB.out HB.out.size ((Below.refl wr.heap.size wr).alloc (Nat.le_refl _) (.cells #[.int .u8 z] 5)))
          go_wp2_with (at_builtin; refine wpList_append_own _ rfl _ _ 40 rfl w.heap.size 5 i0 (.int .u8 0) 1 1 Try.underlying40 Hi.out hz0 hz1 hz2 rfl (by decide) _ ((32 + k)) _ rfl HNE.out ⟨wr.heap.size, 0, none⟩ 1 1 [.int .u8 z] rfl rfl ?c1 ?c2 ?c3 ?c4 ?c5 ?_)
          case c1 => exact newE_cell _ _ _
          case c2 => simp [Value.oneCell']
          case c3 => unfold maxLen; omega
          case c4 => omega
          case c5 => have := HB.out.size; simp; omega
          intro v4 w4 hown4 hgrow4 hnil4
          have O4 := Lib.hid hown4
          have B4 := Lib.hid (B3.out.grown hgrow4 (by have := HB.out.size; simp; omega) (fun g e => by have := (HNE.out.lt g e).1; omega))
          have G4 := Lib.hid ((hgrow4.block g (Array.getElem?_eq_some_iff.1 G3.out).1 (fun e => ownsE_ne HNE.out G3.out (by decide) e.symm)).trans G3.out)
          clear hown4 hgrow4 hnil4
          go_wp2_with fail
          go_roundw
          case rel => exact ⟨k + 1, by omega, by go_num, by rw [HT.out]; have := O4.out; simp only [List.map_append, List.map_take, List.map_cons, List.map_nil, List.append_assoc, Nat.add_assoc] at this ⊢; exact this, G4.out, B4.out⟩
          case measure => simp [intOf]; omega
        · obtain rfl : k = 32 := by omega
          have e : r.take 32 = r := List.take_of_length_le (by rw [HRL.out]; omega)
          rw [e] at HO
          clear e hlt hk
          rw [show ((32 : Nat) : Int) = 32 from rfl]
          obtain ⟨t0, t1⟩ := nod_texts HLL.out HRL.out HH.out
          have s0 : (0 : Int) ≤ (nm.size : Int) := by omega
          have s1 : (nm.size : Int) ≤ 255 := by omega
          have s2 : (nm.size : Int) % 256 = (nm.size : Int) := by omega
          generalize hz : (nm.size : Int) = z at s0 s1 s2
          have HZ := Lib.hid hz
          have HNE := Lib.hid (owns_below HO.out ((Below.refl wr.heap.size wr).alloc (Nat.le_refl _) (.cells #[.int .u8 z] 5)))
          have G3 := Lib.hid (keep_block HH.out ((Below.refl wr.heap.size wr).alloc (Nat.le_refl _) (.cells #[.int .u8 z] 5)))
          have B3 := Lib.hid (below_call HB.out HB.out.size ((Below.refl wr.heap.size wr).alloc (Nat.le_refl _) (.cells #[.int .u8 z] 5)))
          go_wp2_with (at_builtin; refine wpList_append_own _ rfl _ _ 40 rfl w.heap.size 5 i0 (.int .u8 0) 1 1 Try.underlying40 Hi.out hz0 hz1 hz2 rfl (by decide) _ (32 + 32) _ rfl HNE.out ⟨wr.heap.size, 0, none⟩ 1 1 [.int .u8 z] rfl rfl ?c1 ?c2 ?c3 ?c4 ?c5 ?_)
          case c1 => exact newE_cell _ _ _
          case c2 => simp [Value.oneCell']
          case c3 => unfold maxLen; omega
          case c4 => omega
          case c5 => have := HB.out.size; simp; omega
          intro v4 w4 hown4 hgrow4 hnil4
          have O4 := Lib.hid hown4
          have B4 := Lib.hid (B3.out.grown hgrow4 (by have := HB.out.size; simp; omega) (fun g e => by have := (HNE.out.lt g e).1; omega))
          have G4 := Lib.hid ((hgrow4.block g (Array.getElem?_eq_some_iff.1 G3.out).1 (fun e => ownsE_ne HNE.out G3.out (by decide) e.symm)).trans G3.out)
          clear hown4 hgrow4 hnil4
          clear t0 t1 s0 s1 s2
          obtain ⟨t0, t1⟩ := nod_texts HLL.out HRL.out G4.out
          have e1 : ((32 + 32 + 1 : Nat)) = 65 := rfl
          have O4' := Lib.hid O4.out
          obtain ⟨W5, cp5, hcv, hb5, hlt5, hr5⟩ := conv_bytes nm w4
          have O5 := Lib.hid (owns_below O4'.out hb5)
          have B5 := Lib.hid (below_call B4.out B4.out.size hb5)
          have G5 := Lib.hid (keep_block G4.out hb5)
          have HR5 := Lib.hid hr5
          clear hb5 hlt5 hr5
          go_wp2_with (at_builtin; refine wpList_append_own _ rfl _ _ 40 rfl w.heap.size 5 i0 (.int .u8 0) 1 1 Try.underlying40 Hi.out hz0 hz1 hz2 rfl (by decide) _ (65) _ rfl O5.out ⟨w4.heap.size, 0, none⟩ nm.size cp5 ((btS nm).map (Value.int .u8)) rfl (by rw [List.length_map, btS_len, Nat.mul_one]) ?d61 ?d62 ?d63 ?d64 ?d65 ?_)
          case d61 =>
            intro q u hu
            have hq : q < nm.size := by
              have := (List.getElem?_eq_some_iff.1 hu).1
              simpa [btS_len] using this
            have h := HR5.out q hq
            rw [Nat.zero_add] at h
            first
            | (rw [h, hu]; rfl)
            | (rw [addrE, Nat.zero_add, h, ← hu, List.getElem?_map, List.getElem?_eq_getElem (show q < (btS nm).length by rw [btS_len]; exact hq)]; rfl)
          case d62 => first | simp [Value.oneCell'] | (intro u hu; obtain ⟨q, _, rfl⟩ := List.mem_map.1 hu; rfl)
          case d63 => unfold maxLen; omega
          case d64 => omega
          case d65 => have := B5.out.size; exact this
          intro v6 w6 hown6 hgrow6 hnil6
          have O6 := Lib.hid hown6
          have B6 := Lib.hid (B5.out.grown hgrow6 B5.out.size (fun g e => (O5.out.lt g e).1))
          have G6 := Lib.hid ((hgrow6.block g (Array.getElem?_eq_some_iff.1 G5.out).1 (fun e => ownsE_ne O5.out G5.out (by decide) e.symm)).trans G5.out)
          clear hown6 hgrow6 hnil6 hcv
          clear t0 t1
          obtain ⟨t0, t1⟩ := nod_texts HLL.out HRL.out G6.out
          obtain ⟨W7, cp7, hcv, hb7, hlt7, hr7⟩ := conv_bytes vl w6
          have O7 := Lib.hid (owns_below O6.out hb7)
          have B7 := Lib.hid (below_call B6.out B6.out.size hb7)
          have G7 := Lib.hid (keep_block G6.out hb7)
          have HR7 := Lib.hid hr7
          clear hb7 hlt7 hr7
          go_wp2_with (at_builtin; refine wpList_append_own _ rfl _ _ 40 rfl w.heap.size 5 i0 (.int .u8 0) 1 1 Try.underlying40 Hi.out hz0 hz1 hz2 rfl (by decide) _ ((65 + nm.size)) _ rfl O7.out ⟨w6.heap.size, 0, none⟩ vl.size cp7 ((btS vl).map (Value.int .u8)) rfl (by rw [List.length_map, btS_len, Nat.mul_one]) ?d81 ?d82 ?d83 ?d84 ?d85 ?_)
          case d81 =>
            intro q u hu
            have hq : q < vl.size := by
              have := (List.getElem?_eq_some_iff.1 hu).1
              simpa [btS_len] using this
            have h := HR7.out q hq
            rw [Nat.zero_add] at h
            first
            | (rw [h, hu]; rfl)
            | (rw [addrE, Nat.zero_add, h, ← hu, List.getElem?_map, List.getElem?_eq_getElem (show q < (btS vl).length by rw [btS_len]; exact hq)]; rfl)
          case d82 => first | simp [Value.oneCell'] | (intro u hu; obtain ⟨q, _, rfl⟩ := List.mem_map.1 hu; rfl)
          case d83 => unfold maxLen; omega
          case d84 => omega
          case d85 => have := B7.out.size; exact this
          intro v8 w8 hown8 hgrow8 hnil8
          have O8 := Lib.hid hown8
          have B8 := Lib.hid (B7.out.grown hgrow8 B7.out.size (fun g e => (O7.out.lt g e).1))
          have G8 := Lib.hid ((hgrow8.block g (Array.getElem?_eq_some_iff.1 G7.out).1 (fun e => ownsE_ne O7.out G7.out (by decide) e.symm)).trans G7.out)
          clear hown8 hgrow8 hnil8 hcv
          clear t0 t1
          go_wp2_with fail
          go_ret
          refine ⟨_, rfl, ?_, B8.out⟩
          have := O8.out
          unfold nodB
          rw [HZ.out]
          simp only [List.map_append, List.map_take, List.map_cons, List.map_nil, List.append_assoc, Nat.add_assoc] at this ⊢
          exact this
end Go.Proofs.Ytmkddiconpacnaa
