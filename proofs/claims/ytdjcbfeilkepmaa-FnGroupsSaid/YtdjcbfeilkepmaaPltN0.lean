/- A slice of plots of the call's own: the plots, and their sites in rows of their own. -/
import Derived.Test.YtdjcbfeilkepmaaPltM
import Derived.Test.YtdjcbfeilkepmaaRws
namespace Go.Proofs.Ytdjcbfeilkepmaa.pltn0
open Go.RowKit Go.Proofs.Ytdjcbfeilkepmaa.ints Go.Proofs.Ytdjcbfeilkepmaa.lst Go.Proofs.Ytdjcbfeilkepmaa.plt Go.Proofs.Ytdjcbfeilkepmaa.pltm Go.Proofs.Ytdjcbfeilkepmaa.rws

/-- The five cells of the plot of a group whose sites lie in u. -/
def plc (zs : List Int) (q : List Nat) (u : Value) : List Value := [.int .i64 (plS zs q), .int .i64 (plA zs q), .int .i64 (plX zs q), .int .i64 (plY zs q), u]
def plCells (zs : List Int) (G : List (List Nat)) (us : List Value) : List Value := (List.zipWith (plc zs) G us).flatten
theorem plCells_app {zs : List Int} {G : List (List Nat)} {us : List Value} (q : List Nat) (u : Value) (h : us.length = G.length) : plCells zs (G ++ [q]) (us ++ [u]) = plCells zs G us ++ plc zs q u := by
  unfold plCells
  rw [List.zipWith_append h.symm]
  simp
theorem plCells_length {zs : List Int} : ∀ {G : List (List Nat)} {us : List Value}, us.length = G.length → (plCells zs G us).length = G.length * 5
  | [], us, h => by simp [plCells]
  | q :: G, [], h => by simp at h
  | q :: G, u :: us, h => by
    have := plCells_length (zs := zs) (G := G) (us := us) (by simpa using h)
    show (plc zs q u ++ plCells zs G us).length = _
    rw [List.length_append, this, List.length_cons]
    show 5 + _ = _
    omega
/-- A slice of plots. -/
def GP (zs : List Int) (B : Nat) (W : World) (v : Value) (G : List (List Nat)) : Prop :=
  ∃ us, us.length = G.length ∧ W.ownsRow B 50 5 v G.length (plCells zs G us) ∧ Ins B 3 1 W us (G.map fun q => cellsI (plL zs q))
section
variable {zs : List Int} {B : Nat} {W W' : World} {v : Value} {G : List (List Nat)}
theorem GP.nil (h : W.ownsRow B 50 5 v 0 []) : GP zs B W v [] := ⟨[], rfl, h, Ins.nil ..⟩
theorem GP.below (h : GP zs B W v G) (hb : Below W.heap.size W W') : GP zs B W' v G := by
  obtain ⟨us, h1, h2, h3⟩ := h
  exact ⟨us, h1, own_.own_below h2 hb, h3.below hb⟩
theorem GP.base {B' : Nat} (h : GP zs B' W v G) (hB : B ≤ B') : GP zs B W v G := by
  obtain ⟨us, h1, h2, h3, h4, h5⟩ := h
  exact ⟨us, h1, own_.own_base h2 hB, h3, fun i u r hu hr => by
    obtain ⟨n, hn⟩ := h4 i u r hu hr
    exact ⟨n, own_.own_base hn hB⟩, h5⟩
theorem GP.slice (h : GP zs B W v G) : ∃ A c, v = .slice A G.length c := by
  obtain ⟨us, _, h2, _⟩ := h
  exact own_sliceZ h2
theorem GP.push {us : List Value} (hul : us.length = G.length) (h1 : W.ownsRow B 50 5 v G.length (plCells zs G us)) (h2 : Ins B 3 1 W us (G.map fun q => cellsI (plL zs q))) {W1 : World} {v' u : Value} {q : List Nat} {k : Nat} (hB : B ≤ W.heap.size) (hb : Below W.heap.size W W1)
    (hu : W1.ownsRow W.heap.size 3 1 u k (cellsI (plL zs q))) (hg : W1.grownBy W' v.ownBlock) (ho : W'.ownsRow B 50 5 v' (G.length + 1) (plCells zs G us ++ plc zs q u)) : GP zs B W' v' (G ++ [q]) := by
  have h1' := own_.own_below h1 hb
  have h3 := (h2.below hb).push (own_.own_base hu hB) (fun g i u' e1 e2 e3 => by
    have := (hu.lt g e1).1
    have := h2.lt e2 e3
    omega)
  refine ⟨us ++ [u], by rw [List.length_append, List.length_append, hul]; rfl, by rw [List.length_append, plCells_app q u hul]; exact ho, ?_⟩
  rw [List.map_append]
  refine h3.kept hg fun g j w0 e hw hg0 => ?_
  obtain ⟨k1, r1, ho1⟩ := h3.row hw
  exact rws.apart ho1 h1' (by decide) hg0 e
end
theorem infoP : (Try.prog.info? 50).map (fun i => (i.zero, i.size, i.bytes)) = some (some (.agg #[.int .i64 0, .int .i64 0, .int .i64 0, .int .i64 0, .slice none 0 0]), 5, 56) := by kernel_rfl
theorem plc_one (zs : List Int) (q : List Nat) (A : Option Addr) (n c : Nat) : ∀ u ∈ plc zs q (.slice A n c), u.oneCell' = true := by
  intro u hu
  simp [plc] at hu
  rcases hu with rfl | rfl | rfl | rfl | rfl <;> rfl
end Go.Proofs.Ytdjcbfeilkepmaa.pltn0
