/- impl's IsAssignment. -/
import Derived.Test.YtedocpocfpopgaaDoorAsgA
import Derived.Lib.QuietBelow
namespace Go.Proofs.YtedocpocfpopgaaDoor.asgc
open Go.RowKit Go.Proofs.YtedocpocfpopgaaDoor.ints Go.Proofs.YtedocpocfpopgaaDoor.lst Go.Proofs.YtedocpocfpopgaaDoor.in_ Go.Proofs.YtedocpocfpopgaaDoor.ats Go.Proofs.YtedocpocfpopgaaDoor.pos Go.Proofs.YtedocpocfpopgaaDoor.trk Go.Proofs.YtedocpocfpopgaaDoor.trkm Go.Proofs.YtedocpocfpopgaaDoor.trke Go.Proofs.YtedocpocfpopgaaDoor.intc Go.Proofs.YtedocpocfpopgaaDoor.asg Go.Proofs.YtedocpocfpopgaaDoor.rws

theorem rdI_take {w : World} {B n k : Nat} {A : Option Addr} {xs : List Int} (h : RdI w B A n xs) (hk : k ≤ n) : RdI w B A k (xs.take k) :=
  ⟨by rw [List.length_take, h.1]; omega, fun h0 => by
    obtain ⟨b, o, e, hb, hc⟩ := h.2 (by omega)
    refine ⟨b, o, e, hb, fun j x hx => hc j x ?_⟩
    have hj := (List.getElem?_eq_some_iff.1 hx).1
    rw [List.length_take] at hj
    rwa [List.getElem?_take, if_pos (by omega)] at hx⟩
theorem to_below {P : Program} {f : FuncId} {args : Array Value} {w : World} {v : Value} (h : Calls P f args w fun e w' => e = .returned v ∧ w = w') : Calls P f args w fun e w' => e = .returned v ∧ Below w.heap.size w w' :=
  h.mono fun _ _ ⟨a, b⟩ => ⟨a, b ▸ Below.refl _ _⟩
theorem to_below2 {P : Program} {f : FuncId} {args : Array Value} {w : World} {v : Value} (h : Calls P f args w fun e w' => e = .returned v ∧ w' = w) : Calls P f args w fun e w' => e = .returned v ∧ Below w.heap.size w w' :=
  h.mono fun _ _ ⟨a, b⟩ => ⟨a, b ▸ Below.refl _ _⟩
end Go.Proofs.YtedocpocfpopgaaDoor.asgc
