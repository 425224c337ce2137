/- A map keyed by a bool that a literal writes out and a look-up reads at once: what the operations do to the block just made, at values of any type. -/
import Derived.Test.YtinkkdgjpcnklaaAtS
import Derived.Carry
import Derived.MapKept
import Derived.Outline
namespace Go.Proofs.Ytinkkdgjpcnklaa.mapl
open Go.RowKit Go.MapKept

theorem world_set (W : World) (o o' : Obj) : ({ W.alloc o with heap := (W.alloc o).heap.setIfInBounds W.heap.size o' } : World) = W.alloc o' := by
  show ({ W with heap := (W.heap.push o).setIfInBounds W.heap.size o' } : World) = { W with heap := W.heap.push o' }
  have e : (W.heap.push o).setIfInBounds W.heap.size o' = W.heap.push o' := by
    apply Array.ext'
    simp
  rw [e]
theorem put {P : Program} {t kt et : TypeId} (W : World) (es : Array MapEntry) (clock : Nat) (x : Bool) (v : Value) (ht : P.underlying t = some (.map kt et)) (hk : P.underlying kt = some .bool)
    (hf : Instr.findNow .bool (.bool x) es.toList 0 = some none) :
    (Instr.mapUpdate t (.map (some W.heap.size)) (.bool x) v).run P (W.alloc (.map es clock)) = .ok () (W.alloc (.map (es.push ⟨.bool x, v, clock⟩) (clock + 1))) := by
  have hb : (W.alloc (.map es clock)).heap[W.heap.size]? = some (.map es clock) := heap_alloc_new W _
  have hi : IsKey .bool (.bool x) := by simp [IsKey]
  simp [Instr.mapUpdate, run_underlying ht, MapKept.run_getObj_map hb, run_checkKey hk hi, run_findKey hk hf, MapKept.run_setObj_map _ hb, Result.andThen]
  exact world_set _ _ _
theorem get {P : Program} {t kt et : TypeId} (W : World) (es : Array MapEntry) (clock : Nat) (x : Bool) (i : Nat) (v : Value) (ht : P.underlying t = some (.map kt et)) (hk : P.underlying kt = some .bool)
    (hf : Instr.findNow .bool (.bool x) es.toList 0 = some (some (i, v))) :
    (Instr.lookup t (.map (some W.heap.size)) (.bool x) false).run P (W.alloc (.map es clock)) = .ok v (W.alloc (.map es clock)) := by
  have hb : (W.alloc (.map es clock)).heap[W.heap.size]? = some (.map es clock) := heap_alloc_new W _
  have hi : IsKey .bool (.bool x) := by simp [IsKey]
  simp [Instr.lookup, run_underlying ht, MapKept.run_getObj_map hb, run_checkKey hk hi, run_findKey hk hf, Result.andThen]
end Go.Proofs.Ytinkkdgjpcnklaa.mapl
