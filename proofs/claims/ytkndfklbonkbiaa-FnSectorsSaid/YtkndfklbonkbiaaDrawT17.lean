/- spec's DrawIsValidSector, DrawDoubleArea, DrawTurnedSector. -/
import Derived.Test.YtkndfklbonkbiaaDrawS17
namespace Go.Proofs.Ytkndfklbonkbiaa.drawt17
open Go.RowKit Go.Proofs.Ytkndfklbonkbiaa.cur Go.Proofs.Ytkndfklbonkbiaa.atc Go.Proofs.Ytkndfklbonkbiaa.ats Go.Proofs.Ytkndfklbonkbiaa.ints Go.Proofs.Ytkndfklbonkbiaa.lst Go.Proofs.Ytkndfklbonkbiaa.scte Go.Proofs.Ytkndfklbonkbiaa.draws17

/-- What a Draw of a sector returns. -/
def SecD (w : World) (e : Ending) (w' : World) : Prop := ∃ (d : Int) (A : Option Addr) (n c : Nat) (zs : List Int), e = .returned (.agg #[.int .i64 d, .slice A n c]) ∧ w'.ownsRow w.heap.size 31 2 (.slice A n c) n (cellsI zs) ∧ n ≤ 6 ∧ n ≤ c ∧ Sd n zs ∧ Below w.heap.size w w'
theorem bytes_al {w : World} {A : Option Addr} {n : Nat} (o : Obj) (h : Bytes w w.heap.size A n) : Bytes (w.alloc o) (w.alloc o).heap.size A n := by
  intro h0
  obtain ⟨b, o', e, hb, hc⟩ := h h0
  exact ⟨b, o', e, by rw [World.size_alloc]; omega, fun j hj => by
    obtain ⟨x, hx⟩ := hc j hj
    exact ⟨x, (World.cell?_alloc_lt w _ ⟨b, o' + j, none⟩ hb).trans hx.1, hx.2⟩⟩
theorem at_gr {T : TypeId} {cs : Array Value} {w W W' : World} {b p : Nat} (h : ats.AtS T cs w W b) (hg : W.grownBy W' (some p)) (hne : b ≠ p) (hp : w.heap.size ≤ p) : ats.AtS T cs w W' b :=
  ⟨h.1.grown hg h.1.size (fun g e => by injection e with e; omega), h.2.1, Nat.lt_of_lt_of_le h.2.2.1 hg.size, (hg.block _ h.2.2.1 (fun e => by injection e with e; exact hne e)).trans h.2.2.2⟩
theorem own_nc {W : World} {B n c : Nat} {A : Option Addr} {xs : List Value} (h : W.ownsRow B 31 2 (.slice A n c) n xs) : n ≤ c := by
  rcases h.2 with ⟨h', h0⟩ | ⟨g', cap', cur, h', hb, hg, hnc, hcm, hcs, htake⟩
  · omega
  · simp only [Value.slice.injEq] at h'
    omega
end Go.Proofs.Ytkndfklbonkbiaa.drawt17
