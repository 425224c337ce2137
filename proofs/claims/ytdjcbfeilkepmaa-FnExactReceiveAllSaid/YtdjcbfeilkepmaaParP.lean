/- impl's patternsFromRight, slices.Index and slices.Contains at []uint64, and what is over them. -/
import Derived.Test.YtdjcbfeilkepmaaParI
import Derived.Test.YtdjcbfeilkepmaaBitsI
import Derived.Test.YtdjcbfeilkepmaaOwn
import Derived.Deep.WholeRow
import Derived.Deep.MidRow
import Derived.Deep.Cut
namespace Go.Proofs.Ytdjcbfeilkepmaa.parp
open Go.RowKit Go.Proofs.Ytdjcbfeilkepmaa.bin Go.Proofs.Ytdjcbfeilkepmaa.pop_ Go.Proofs.Ytdjcbfeilkepmaa.good_ Go.Proofs.Ytdjcbfeilkepmaa.par

theorem zero46 : (∀ w, (zeroValue 214).run Try.prog w = .ok (.agg (Array.replicate 64 (.int .u64 0))) w) ∧ (Try.prog.info? 214).map (·.size) = some 64 := zero_of_info (by kernel_rfl)
/-- The first k patterns, and zeros behind them. -/
def cells (k : Nat) : Array Value := ((List.range 64).map (fun j => if j < k then Value.int .u64 (pat j) else Value.int .u64 0)).toArray
theorem cells_size (k : Nat) : (cells k).size = 64 := by unfold cells; simp
theorem cells_zero : cells 0 = Array.replicate 64 (.int .u64 0) := by
  unfold cells
  apply Array.ext_getElem?
  intro i
  simp only [List.getElem?_toArray, List.getElem?_map, Array.getElem?_replicate]
  by_cases h : i < 64
  · rw [if_pos h, List.getElem?_range h]; rfl
  · rw [if_neg h, List.getElem?_eq_none (by rw [List.length_range]; omega)]; rfl
theorem cells_at (k j : Nat) (h : j < 64) : (cells k)[j]? = some (if j < k then Value.int .u64 (pat j) else Value.int .u64 0) := by
  unfold cells
  simp only [List.getElem?_toArray, List.getElem?_map]
  rw [List.getElem?_range h]; rfl
theorem cells_step (k : Nat) (h : k < 64) : (cells k).setIfInBounds k (Value.int .u64 (pat k)) = cells (k + 1) := by
  apply Array.ext_getElem?
  intro i
  rw [Array.getElem?_setIfInBounds]
  by_cases hi : i < 64
  · rw [cells_at _ _ hi]
    by_cases hik : k = i
    · subst hik
      rw [if_pos rfl, if_pos (by rw [cells_size]; exact h), cells_at (k + 1) _ h, if_pos (by omega)]
    · rw [if_neg hik, cells_at (k + 1) _ hi]
      by_cases h1 : i < k
      · rw [if_pos h1, if_pos (by omega)]
      · rw [if_neg h1, if_neg (by omega)]
  · rw [if_neg (by omega), Array.getElem?_eq_none (by rw [cells_size]; omega), Array.getElem?_eq_none (by rw [cells_size]; omega)]
theorem cells_one (k : Nat) : (cells k).all (·.oneCell') = true := by
  rw [Array.all_eq_true_iff_forall_mem]
  intro v hv
  unfold cells at hv
  simp only [List.mem_toArray, List.mem_map] at hv
  obtain ⟨j, _, rfl⟩ := hv
  split <;> rfl

theorem below_setCells {B b : Nat} (hb : B ≤ b) : ∀ (vs : List Value) (o : Nat) (a w : World), Below B a w → Below B a (w.setCells b o vs)
  | [], _, _, _, h => h
  | v :: r, o, a, w, h => by
    rw [World.setCells]
    exact below_setCells hb r (o + 1) a _ (h.setCell (p := ⟨b, o, none⟩) hb v)
theorem results_cell1 {fn : Func} {p : Tmp} {ty : TypeId} (h : fn.results = #[.cell p ty]) (tmps : Array Value) (P : Program) (w : World) :
    (results fn tmps).run P w = ((asAddr (tmps.getD p undef)).run P w).andThen fun a w₁ => (loadVar ty a).run P w₁ := by
  simp only [results, h]
  simp [Sem.run_bind, Result.andThen]
theorem range_block {w : World} {b : Nat} {c : Array Value} {t : TypeId} (h : w.heap[b]? = some (.cells c t)) : w.rangeAt b 0 c.toList := fun j v hv => by
  rw [Nat.zero_add, cell_of_row _ _ j c t (0, 0) h]
  simpa using hv
theorem there_block {w : World} {b n : Nat} {c : Array Value} {t : TypeId} (h : w.heap[b]? = some (.cells c t)) (hn : n ≤ c.size) : w.there b 0 n := fun j hj => by
  rw [Nat.zero_add]
  refine ⟨?_, ?_⟩
  · rw [cell_of_row _ _ j c t (0, 0) h, Array.getElem?_eq_getElem (by omega)]
    rfl
  · simp [World.frozen?, h]

set_option maxRecDepth 100000 in
theorem patterns (w : World) :
    Calls Try.prog 199 #[] w fun e w' => e = .returned (.agg (cells 64)) ∧ Below w.heap.size w w' := by
  have hz := zero46.1
  go_enter Try.func199, Try.ntmps199
  go_wp2_with fail
  rw [← cells_zero]
  clear hz
  go_loopw [2, 3] (fun _ i wx => ∃ k : Nat, k ≤ 64 ∧ i = .int .i64 k ∧ wx = (w.alloc (.cells (cells 0) 214)).alloc (.cells (cells k) 214)) (fun _ i _ => 64 - (intOf i).toNat)
  case atStart => exact ⟨0, by omega, rfl, rfl⟩
  case round =>
    obtain ⟨k, hk, rfl, rfl⟩ := hrel
    by_cases hlt : k < 64
    · have hlt2 : (k : Int) < 64 := by omega
      have hp : 2 ^ k < 18446744073709551616 := by
        have : (2 : Nat) ^ k ≤ 2 ^ 63 := Nat.pow_le_pow_right (by omega) (by omega)
        omega
      have f1 := bitsi.wrap_pow hp
      have HR := Lib.hid (fun w => show Calls Try.prog 217 #[.int .u64 ((2 ^ k : Nat) : Int)] w fun e w' => e = .returned (.int .u64 (pat k)) ∧ w = w' from pari.reduce (2 ^ k) w (by omega))
      have HS := Lib.hid (cells_step k hlt)
      have hsz := cells_size k
      generalize 2 ^ k = p at f1 HR
      clear hp
      go_wp2_with fail
      refine (HR.out _).mono ?_
      rintro e w' ⟨rfl, rfl⟩
      go_wp2_with fail
      go_roundw
      case rel => exact ⟨k + 1, by omega, by go_num, by rw [HS.out]⟩
      case measure => simp [intOf]; omega
    · obtain rfl : k = 64 := by omega
      go_upto_region 7 with fail
      have hB1 : ((w.alloc (.cells (cells 0) 214)).alloc (.cells (cells 64) 214)).heap[w.heap.size + 1]? = some (.cells (cells 64) 214) := by
        rw [show w.heap.size + 1 = (w.alloc (.cells (cells 0) 214)).heap.size from (World.size_alloc _ _).symm]
        exact heap_alloc_last _ _
      have hB0 : ((w.alloc (.cells (cells 0) 214)).alloc (.cells (cells 64) 214)).heap[w.heap.size]? = some (.cells (cells 0) 214) := by
        show ((w.alloc (.cells (cells 0) 214)).heap.push _)[w.heap.size]? = _
        rw [Array.getElem?_push_lt (by show w.heap.size < (w.heap.push _).size; rw [Array.size_push]; omega), ← Array.getElem?_eq_getElem]
        exact heap_alloc_last _ _
      have hbl : Below w.heap.size w ((w.alloc (.cells (cells 0) 214)).alloc (.cells (cells 64) 214)) := ((Below.refl _ _).alloc (Nat.le_refl _) _).alloc (by rw [World.size_alloc]; omega) _
      generalize ((w.alloc (.cells (cells 0) 214)).alloc (.cells (cells 64) 214)) = W at *
      refine wp_region_lit ?_
      refine wpList_load_mid rfl 214 _ rfl _ _ rfl (cells 64).toList _ (range_block hB1) Try.underlying214 rfl (by rw [Array.length_toList, cells_size]; exact zero46.2) ?_
      refine wpList_store_mid rfl 214 _ _ rfl _ _ (cells 64).toList.toArray rfl rfl (there_block hB0 (by rw [cells_size]; simp [cells_size])) (by rw [Array.toArray_toList, cells_size]; exact zero46.2) (by rw [Array.toArray_toList]; exact cells_one 64) ?_
      rw [Array.toArray_toList]
      have hrg := World.rangeAt_setCells_same W w.heap.size 0 (cells 64).toList (there_block hB0 (by rw [Array.length_toList, cells_size, cells_size]; omega))
      have hbl2 := below_setCells (Nat.le_refl w.heap.size) (cells 64).toList 0 _ _ hbl
      generalize W.setCells w.heap.size 0 (cells 64).toList = W2 at *
      go_wp2_with fail
      have hld := run_loadVar_mid (P := Try.prog) W2 w.heap.size 0 214 (cells 64).toList _ hrg Try.underlying214 rfl (by rw [Array.length_toList, cells_size]; exact zero46.2)
      rw [Array.toArray_toList] at hld
      refine bodyPost_ret (v := .agg (cells 64)) ?_ rfl ⟨rfl, hbl2⟩
      rw [results_cell1 rfl]
      simp [asAddr, Result.andThen, hld, Act.put]
end Go.Proofs.Ytdjcbfeilkepmaa.parp
