/- Stores: a row of blobs that came in. Written by hand. -/
import Derived.Test.YtdoelmjaongjfaaBlob
namespace Go.Proofs.Ytdoelmjaongjfaa
open Go.ChangeShapes Go.WideShapes Go.ChangeAt Go.RowKit
set_option linter.unusedVariables false
set_option linter.unusedSimpArgs false
structure BlV where
  t : Int
  a : Option Addr
  n : Nat
  cap : Nat
  l : List Int
theorem list_of {α : Type} {P : Nat → α → Prop} : ∀ (n : Nat), (∀ i, i < n → ∃ x, P i x) → ∃ l : List α, l.length = n ∧ ∀ i x, l[i]? = some x → P i x
  | 0, _ => ⟨[], rfl, by simp⟩
  | n + 1, h => by
    obtain ⟨l, hl, hp⟩ := list_of n (fun i hi => h i (by omega))
    obtain ⟨x, hx⟩ := h n (by omega)
    refine ⟨l ++ [x], by simp [hl], fun i y hy => ?_⟩
    rw [List.getElem?_append] at hy
    split at hy
    · exact hp i y hy
    · rename_i hi
      have hn : i - l.length = 0 := by
        have := (List.getElem?_eq_some_iff.1 hy).1
        simp at this
        omega
      rw [hn] at hy
      obtain rfl : i = n := by omega
      cases hy
      exact hx
/-- Blob i of a row of blobs. -/
def BlC (w : World) (b off i : Nat) (x : BlV) : Prop := w.cell? ⟨b, off + i * 2, none⟩ = some (.int .u8 x.t) ∧ w.cell? ⟨b, off + (i * 2 + 1), none⟩ = some (.slice x.a x.n x.cap) ∧ Rd .u8 w x.a x.n x.l
def BlOk (x : BlV) : Prop := (0 ≤ x.t ∧ x.t ≤ 255) ∧ (∀ z ∈ x.l, 0 ≤ z ∧ z ≤ 255) ∧ x.n ≤ maxLen
def IsBls (w : World) (a : Option Addr) (n : Nat) (bs : List BlV) : Prop := n ≤ maxLen ∧ bs.length = n ∧ (n = 0 ∨ ∃ b off, a = some ⟨b, off, none⟩ ∧ b < w.heap.size ∧ ∀ i x, bs[i]? = some x → BlC w b off i x ∧ BlOk x)
set_option maxRecDepth 100000 in
theorem open_blobs {H : Type} {enc : TypeId × Value → H} {w : World} {cs0 : List Value} {fuel : Nat} {r : DataW H × List MemPlace}
    (hf : DataW.trod enc Try.prog w 0 (fun _ => true) true fuel 22 cs0 = some r) : ∃ a len cap bs, cs0 = [.slice a len cap] ∧ IsBls w a len bs ∧ len ≤ cap ∧ cap ≤ maxLen := by
  obtain ⟨d, p⟩ := r
  rcases DataW.trod_slice Try.underlying22 hf with ⟨h0, _⟩ | ⟨x, len, cap, elems, rest, n, _, hcs, _, hb, hl, hm, hlen, hel, _, _⟩
  · exact ⟨none, 0, 0, [], h0, ⟨by unfold maxLen; omega, rfl, .inl rfl⟩, by omega, by unfold maxLen; omega⟩
  · refine ⟨some x, len, cap, ?_⟩
    have hc : Try.prog.cellsOf 51 = 2 := by kernel_rfl
    have each : ∀ i, i < len → ∃ y : BlV, (w.cell? (x.add (i * 2)) = some (.int .u8 y.t) ∧ w.cell? (x.add (i * 2 + 1)) = some (.slice y.a y.n y.cap) ∧ Rd .u8 w y.a y.n y.l) ∧ BlOk y := by
      intro i hi
      have h2 := hel i hi
      rw [hc, List.getElem?_eq_getElem (by omega), Option.bind_eq_some_iff] at h2
      obtain ⟨cs, hcs, hy⟩ := h2
      obtain ⟨_, hcl, hat⟩ := World.cells?_some hcs
      have hcl2 : cs.length = 2 := hcl
      obtain ⟨xs, m, _, _, hlen2, hxl, hfl⟩ := DataW.trod_struct Try.underlying51 hy
      have k0 := hfl 0 _ rfl
      have k1 := hfl 1 _ rfl
      have e0 : Try.prog.cellsOf 5 = 1 := by kernel_rfl
      have h3 : xs.length = 2 := hxl
      rw [List.getElem?_eq_getElem (by omega)] at k0 k1
      obtain ⟨t, hc0, _, hcw⟩ := DataW.trod_int Try.underlying5 k0
      replace hc0 : (cs.drop 0).take (Try.prog.cellsOf 5) = [Value.int .u8 t] := hc0
      rw [e0] at hc0
      have hrow : ∃ (a : Option Addr) (n cap : Nat) (zs : List Int), (cs.drop 1).take 1 = [.slice a n cap] ∧ IsRow .u8 w a n cap zs ∧ n ≤ maxLen := by
        rcases open_ints Try.underlying41 Try.underlying5 (by kernel_rfl) k1 with ⟨hcs, _⟩ | ⟨x, ln, cp, zs, hcs, _, hl', hm, hz, _, hcell, hwz⟩
        · exact ⟨none, 0, 0, [], hcs, .inl ⟨rfl, rfl, rfl, rfl⟩, by omega⟩
        · exact ⟨some x, ln, cp, zs, hcs, .inr ⟨x, rfl, hl', hm, by simpa using hz, hcell, hwz⟩, by omega⟩
      obtain ⟨ya, yn, ycap, zs, hs, hr, hym⟩ := hrow
      have a0 := hat 0 (by omega)
      have a1 := hat 1 (by omega)
      match cs, hcl2, hc0, hs with
      | [c0, c1], _, hc0, hs =>
        obtain rfl : c0 = .int .u8 t := by simpa using hc0
        obtain rfl : c1 = .slice ya yn ycap := by simpa using hs
        refine ⟨⟨t, ya, yn, ycap, zs.take yn⟩, ⟨?_, ?_, rd_of_row hr⟩, ?_, ?_, hym⟩
        · have e : x.add (i * 2) = (x.add (i * 2)).add 0 := rfl
          rw [e]
          simpa using a0
        · rw [← Addr.add_add]
          simpa using a1
        · exact bounds_u8 hcw
        · exact fun z hz => bounds_u8 (rd_wf hr z hz)
    obtain ⟨bs, hbl, hbp⟩ := list_of len each
    refine ⟨bs, hcs, ⟨by omega, hbl, ?_⟩, hl, hm⟩
    by_cases h0 : len = 0
    · exact .inl h0
    · right
      obtain ⟨y0, ⟨hy0, _, _⟩, _⟩ := each 0 (by omega)
      obtain ⟨b, off, spot⟩ := x
      have hspot : spot = none := by simpa [Addr.add] using World.cell?_spot hy0
      subst hspot
      refine ⟨b, off, rfl, World.block_lt_of_cell? w (u := .int .u8 y0.t) ⟨b, off, none⟩ ?_, fun i z hz => ?_⟩
      · simpa [Addr.add] using hy0
      · obtain ⟨⟨q1, q2, q3⟩, q4⟩ := hbp i z hz
        refine ⟨⟨?_, ?_, q3⟩, q4⟩
        · rw [← Go.WideShapes.add_plain]; exact q1
        · rw [← Go.WideShapes.add_plain]; exact q2
set_option maxRecDepth 100000 in
theorem open_store {H : Type} {enc : TypeId × Value → H} {w : World} {b0 : Nat} {r : Reach} {v : Value} {d : DataW H} {p : List MemPlace}
    (hv : Value.okWide Try.prog w r b0 24 v) (h : DataW.Trod enc Try.prog w 0 (fun _ => true) true 24 v d p) :
    ∃ (a : Option Addr) (n cap : Nat) (bs : List BlV), v = .agg #[.slice a n cap] ∧ IsBls w a n bs ∧ n ≤ cap ∧ cap ≤ maxLen := by
  obtain ⟨cs, rfl, hsz⟩ := okWide_struct Try.underlying24 hv
  have h10 : Try.prog.cellsOf 24 = 1 := by kernel_rfl
  rw [h10] at hsz
  obtain ⟨fuel, hf⟩ := h
  obtain ⟨xs, m, _, _, hlen, hxl, hfl⟩ := DataW.trod_struct Try.underlying24 hf
  have k0 := hfl 0 _ rfl
  simp only [Value.cells] at k0
  have h3 : xs.length = 1 := hxl
  rw [List.getElem?_eq_getElem (by omega)] at k0
  obtain ⟨a, n, cap, bs, e, h1, h2, h4⟩ := open_blobs k0
  refine ⟨a, n, cap, bs, ?_, h1, h2, h4⟩
  have hL : cs.toList.length = 1 := by simpa using hsz
  have e1 : Try.prog.cellsOf 22 = 1 := by kernel_rfl
  replace e : (cs.toList.drop 0).take (Try.prog.cellsOf 22) = [.slice a n cap] := e
  rw [e1, List.drop_zero, List.take_of_length_le (by omega)] at e
  have : cs = cs.toList.toArray := by simp
  rw [this, e]
end Go.Proofs.Ytdoelmjaongjfaa
