/- Priorities of names, and keys of maps. Written by wip/gen/prio.py. -/
import Derived.Test.YtdoelmjaongjfaaVal
import Derived.Test.YtdoelmjaongjfaaHashI
import Derived.Lib.ConvBytes
namespace Go.Proofs.Ytdoelmjaongjfaa
open Go.ChangeShapes Go.WideShapes Go.ChangeAt Go.RowKit
set_option linter.unusedVariables false
set_option linter.unusedSimpArgs false
/-- The bytes of a text, as numbers. -/
def btS (s : ByteArray) : List Int := s.data.toList.map fun b => (b.toNat : Int)
theorem btS_len (s : ByteArray) : (btS s).length = s.size := by simp [btS]
theorem btS_range (s : ByteArray) : ∀ z ∈ btS s, 0 ≤ z ∧ z ≤ 255 := by
  intro z hz
  obtain ⟨b, _, rfl⟩ := List.mem_map.1 hz
  have := b.toNat_lt
  omega
theorem layB (w : World) (old new : Array Value) (t : TypeId) : Below w.heap.size w ((w.alloc (.cells old t)).setRow w.heap.size new) := Below.setRow ((Below.refl _ _).alloc (Nat.le_refl _) _) (Nat.le_refl _) _
theorem layN (w : World) (old new : Array Value) (t : TypeId) : ((w.alloc (.cells old t)).setRow w.heap.size new).heap[w.heap.size]? = some (.cells new t) := setRow_heap _ _ old new _ _ (heap_alloc_last w (.cells old t))
/-- A text as a slice of bytes. -/
theorem conv_bytes (s : ByteArray) (w : World) : ∃ W1 cap, (convert 9 41 (.string s)).run Try.prog w = .ok (.slice (some ⟨w.heap.size, 0, none⟩) s.size cap) W1 ∧ Below w.heap.size w W1 ∧ w.heap.size < W1.heap.size ∧ (∀ j, j < s.size → W1.cell? ⟨w.heap.size, 0 + j, none⟩ = some (.int .u8 ((btS s)[j]?.getD 0))) := by
  refine ⟨_, _, Lib.run_convert_string_bytes w 9 41 5 s Try.underlying9 Try.underlying41 Try.underlying5, ?_, by rw [Lib.bytesWorld_size]; omega, fun j hj => ?_⟩
  · exact ⟨rfl, rfl, rfl, by rw [Lib.bytesWorld_size]; omega, fun k hk => Lib.bytesWorld_at_old w 5 s k hk⟩
  · rw [Nat.zero_add, Lib.bytesWorld_cell w 5 s j hj]
    simp [btS, List.getElem?_eq_getElem (show j < s.data.toList.length by simpa using hj)]
/-- The key of the empty map. -/
def emK : List Int := hashK 5 []
theorem hash_imp (tag : Int) (a : Option Addr) (n cap : Nat) (l : List Int) (h0 : 0 ≤ tag) (h1 : tag ≤ 255) (fl : ∀ z ∈ l, 0 ≤ z ∧ z ≤ 255) (hn : n ≤ 4096) (w : World) (hr : Rd .u8 w a n l) :
    Calls Try.prog 107 #[.int .u8 tag, .slice a n cap] w fun e w' => e = .returned (.tuple #[.agg (ints .u8 (hashK tag l)), .int .i64 0]) ∧ Below w.heap.size w w' := by
  have h := hasho_impl tag a n cap l h0 h1 fl (by omega) w hr
  unfold hashV hashE at h
  rw [if_pos (by rw [hr.1]; exact hn), if_pos (by rw [hr.1]; exact hn)] at h
  exact h
end Go.Proofs.Ytdoelmjaongjfaa
