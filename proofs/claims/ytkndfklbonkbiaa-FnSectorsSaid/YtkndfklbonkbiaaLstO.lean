/- An argument that is a slice of structs of ints, opened: it reads as a flat list of ints (lst.RdZ). -/
import Derived.Test.YtkndfklbonkbiaaLst
import Derived.Deep.Slices
import Derived.Deep.Fields
import Derived.ChangeSame
namespace Go.Proofs.Ytkndfklbonkbiaa.lsto
open Go.RowKit Go.ChangeShapes Go.WideShapes Go.Deep Go.Proofs.Ytkndfklbonkbiaa.lst

def intAt (w : World) (b o j : Nat) : Int := match w.cell? ⟨b, o + j, none⟩ with | some (.int _ x) => x | _ => 0
theorem intAt_of {w : World} {b o j : Nat} {x : Int} (h : w.cell? ⟨b, o + j, none⟩ = some (.int .i64 x)) : intAt w b o j = x := by unfold intAt; rw [h]
section
variable {H : Type} {enc : TypeId × Value → H} {P : Program} {w : World} {base : Nat} {spare : Nat → Bool} {held : Bool}
/-- One struct: each of its cells is an int. -/
theorem struct_ints {e : TypeId} {fs : Array Field} {fuel : Nat} {cs : List Value} {x : DataW H × List MemPlace} (he : P.underlying e = some (.struct fs)) (hone : oneCellFields P fs = true) (hC : P.cellsOf e = fs.size)
    (hI : ∀ (j : Nat) (f : Field), fs[j]? = some f → P.underlying f.type = some (.int .i64)) (h : DataW.trod enc P w base spare held fuel e cs = some x) : ∀ j, j < fs.size → ∃ z, cs[j]? = some (.int .i64 z) := by
  intro j hj
  obtain ⟨xs, n, _, _, hlen, hxs, hf⟩ := DataW.trod_struct he h
  have hfj := Array.getElem?_eq_getElem hj
  have h1 := hf j _ hfj
  obtain ⟨ho, hk⟩ := hone_of hone j _ hfj
  rw [ho, hk] at h1
  have hx : xs[j]? = some (xs[j]'(by omega)) := List.getElem?_eq_getElem (by omega)
  obtain ⟨z, hz, _⟩ := DataW.trod_int (hI j _ hfj) (h1.trans hx)
  refine ⟨z, ?_⟩
  have h2 : ((cs.drop j).take 1)[0]? = some (Value.int .i64 z) := by rw [hz]; rfl
  rw [List.getElem?_take, if_pos (by omega), List.getElem?_drop] at h2
  exact h2
theorem open_structs {t e : TypeId} {fs : Array Field} {fuel : Nat} {cs : List Value} {x : DataW H × List MemPlace} (ht : P.underlying t = some (.slice e)) (he : P.underlying e = some (.struct fs)) (hone : oneCellFields P fs = true) (hC : P.cellsOf e = fs.size) (hs : 0 < fs.size)
    (hI : ∀ (j : Nat) (f : Field), fs[j]? = some f → P.underlying f.type = some (.int .i64)) (h : DataW.trod enc P w base spare held fuel t cs = some x) :
    ∃ (A : Option Addr) (n c : Nat) (zs : List Int), cs = [.slice A n c] ∧ RdZ fs.size w w.heap.size A n zs ∧ n ≤ maxLen := by
  rcases open_slice ht h with ⟨rfl, _⟩ | ⟨a, n, c, m, _, D, Pl, rfl, _, hl, hm, hmm, _, hi⟩
  · exact ⟨none, 0, 0, [], rfl, ⟨by simp, fun h => absurd h (Nat.not_lt_zero _)⟩, Nat.zero_le _⟩
  · have hnm : n ≤ m := by rw [hmm]; split <;> omega
    rw [hC] at hi
    have each : ∀ i, i < n → ∀ j, j < fs.size → ∃ z, w.cell? (a.add (i * fs.size + j)) = some (.int .i64 z) := by
      intro i hin j hj
      obtain ⟨cs', hc, ht'⟩ := hi i (by omega)
      obtain ⟨_, _, hat⟩ := World.cells?_some hc
      obtain ⟨z, hz⟩ := struct_ints he hone hC hI ht' j hj
      exact ⟨z, by rw [← add_add, hat j hj, hz]⟩
    rcases Nat.eq_zero_or_pos n with rfl | hn
    · exact ⟨some a, 0, c, [], rfl, ⟨by simp, fun h => absurd h (Nat.not_lt_zero _)⟩, Nat.zero_le _⟩
    obtain ⟨z0, h00⟩ := each 0 hn 0 hs
    rw [Nat.zero_mul, Nat.zero_add, Addr.add_zero'] at h00
    obtain ⟨b, o, sp⟩ := a
    obtain rfl : sp = none := World.cell?_spot h00
    have flat : ∀ q, q < n * fs.size → ∃ z, w.cell? ⟨b, o + q, none⟩ = some (.int .i64 z) := by
      intro q hq
      obtain ⟨z, hz⟩ := each (q / fs.size) (Nat.div_lt_of_lt_mul (by rw [Nat.mul_comm]; exact hq)) (q % fs.size) (Nat.mod_lt _ hs)
      rw [Nat.div_add_mod', Addr.add_lit] at hz
      exact ⟨z, hz⟩
    refine ⟨_, n, c, (List.range (n * fs.size)).map (intAt w b o), rfl, ⟨by simp, fun _ => ⟨b, o, rfl, World.block_lt_of_cell? _ _ h00, fun j x hx => ?_⟩⟩, by omega⟩
    have hj : j < n * fs.size := by have := (List.getElem?_eq_some_iff.1 hx).1; simpa using this
    obtain ⟨z, hz⟩ := flat j hj
    rw [List.getElem?_map, List.getElem?_range hj] at hx
    obtain rfl : intAt w b o j = x := by simpa using hx
    rw [intAt_of hz]
    exact hz
end
end Go.Proofs.Ytkndfklbonkbiaa.lsto
