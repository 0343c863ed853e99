/- What is kept but for some blocks. Cut out of XWalk. -/
import Derived.Test.YtdoelmjaongjfabBase
namespace Go.Proofs.Ytdoelmjaongjfab
open Go.ChangeShapes Go.WideShapes Go.ChangeAt Go.RowKit
set_option linter.unusedVariables false
/-- What lies below B is kept, but for the blocks X. -/
structure Keep (B : Nat) (X : Nat → Prop) (w w' : World) : Prop where
  os : w'.os = w.os
  tape : w'.tape = w.tape
  output : w'.output = w.output
  size : w.heap.size ≤ w'.heap.size
  block : ∀ k, k < B → ¬ X k → w'.heap[k]? = w.heap[k]?
theorem Keep.refl (B : Nat) (X : Nat → Prop) (w : World) : Keep B X w w := ⟨rfl, rfl, rfl, Nat.le_refl _, fun _ _ _ => rfl⟩
theorem Keep.trans {B : Nat} {X : Nat → Prop} {a b c : World} (h : Keep B X a b) (k : Keep B X b c) : Keep B X a c :=
  ⟨k.os.trans h.os, k.tape.trans h.tape, k.output.trans h.output, Nat.le_trans h.size k.size, fun i hi hx => (k.block i hi hx).trans (h.block i hi hx)⟩
theorem Keep.mono {B C : Nat} {X : Nat → Prop} {a b : World} (h : Keep B X a b) (hc : C ≤ B) : Keep C X a b := ⟨h.os, h.tape, h.output, h.size, fun i hi hx => h.block i (by omega) hx⟩
theorem Keep.of {B : Nat} (X : Nat → Prop) {a b : World} (h : Below B a b) : Keep B X a b := ⟨h.os, h.tape, h.output, h.size, fun i hi _ => h.block i hi⟩
theorem Keep.below {B C : Nat} {X : Nat → Prop} {a b : World} (h : Keep B X a b) (hc : C ≤ B) (hx : ∀ k, X k → C ≤ k) : Below C a b := ⟨h.os, h.tape, h.output, h.size, fun i hi => h.block i (by omega) (fun hk => by have := hx i hk; omega)⟩
theorem Keep.call {B : Nat} {X : Nat → Prop} {a b c : World} (h : Keep B X a b) (hB : B ≤ b.heap.size) (k : Keep b.heap.size X b c) : Keep B X a c := h.trans (k.mono hB)
theorem Keep.hold {X : Nat → Prop} {a b : World} {g : Nat} {o : Obj} (k : Keep a.heap.size X a b) (hx : ¬ X g) (hg : a.heap[g]? = some o) : b.heap[g]? = some o :=
  (k.block g (Array.getElem?_eq_some_iff.1 hg).1 hx).trans hg
theorem Keep.cell {B : Nat} {X : Nat → Prop} {w : World} {p : Addr} {v : Value} (hx : X p.block) : Keep B X w (w.setCell p v) :=
  ⟨rfl, rfl, rfl, by simp [World.setCell], fun k hk hn => heap_setCell_other _ _ _ _ (fun e => hn (e ▸ hx))⟩
/-- A new block, written at once. -/
def World.laid (w : World) (old new : Array Value) (t : TypeId) : World := (w.alloc (.cells old t)).setRow w.heap.size new
theorem laid_below (w : World) (old new : Array Value) (t : TypeId) : Below w.heap.size w ((w.alloc (.cells old t)).setRow w.heap.size new) := Below.setRow ((Below.refl _ _).alloc (Nat.le_refl _) _) (Nat.le_refl _) _
theorem laid_new (w : World) (old new : Array Value) (t : TypeId) : ((w.alloc (.cells old t)).setRow w.heap.size new).heap[w.heap.size]? = some (.cells new t) := setRow_heap _ _ old new _ _ (heap_alloc_last w (.cells old t))
theorem laid_old {w : World} {g : Nat} {o : Obj} (old new : Array Value) (t : TypeId) (h : w.heap[g]? = some o) : ((w.alloc (.cells old t)).setRow w.heap.size new).heap[g]? = some o := keep_block h (laid_below w old new t)
end Go.Proofs.Ytdoelmjaongjfab
