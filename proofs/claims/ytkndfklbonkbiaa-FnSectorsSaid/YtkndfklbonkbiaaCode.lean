/- What a general law's walk is told of its code (a []byte that came in), and the contract of vBig. -/
import Derived.Test.YtkndfklbonkbiaaCur
import Derived.WalkKit
namespace Go.Proofs.Ytkndfklbonkbiaa.code_
open Go.RowKit Go.Proofs.Ytkndfklbonkbiaa.cur

def IsRow (k : IntKind) (w : World) (a : Option Addr) (len cap : Nat) (zs : List Int) : Prop :=
  (a = none ∧ len = 0 ∧ cap = 0 ∧ zs = []) ∨
  ∃ x, a = some x ∧ len ≤ cap ∧ cap ≤ maxLen ∧ zs.length = cap ∧ (∀ i, i < zs.length → w.cell? (x.add i) = some (.int k (zs.getD i 0))) ∧ ∀ n ∈ zs, (Lit.int k n).wf = true

theorem byte_wf {x : Int} (h : (Lit.int .u8 x).wf = true) : 0 ≤ x ∧ x ≤ 255 := by
  have h1 : IntKind.u8.min = 0 := rfl
  have h2 : IntKind.u8.max = 255 := rfl
  simp only [Lit.wf, Bool.and_eq_true, decide_eq_true_eq] at h
  omega

theorem bytes_of {w : World} {a : Option Addr} {len cap : Nat} {zs : List Int} (h : IsRow .u8 w a len cap zs) : Bytes w w.heap.size a len ∧ len ≤ cap ∧ cap ≤ maxLen := by
  rcases h with ⟨rfl, rfl, rfl, rfl⟩ | ⟨x, rfl, hl, hm, hz, hcell, hwz⟩
  · exact ⟨fun h => absurd h (by omega), Nat.le_refl _, Nat.zero_le _⟩
  · refine ⟨fun h0 => ?_, hl, hm⟩
    have hc0 := hcell 0 (by omega)
    rw [Addr.add_zero'] at hc0
    obtain ⟨b, o, sp⟩ := x
    obtain rfl : sp = none := World.cell?_spot hc0
    refine ⟨b, o, rfl, World.block_lt_of_cell? _ _ hc0, fun k hk => ?_⟩
    have hk2 : k < zs.length := by omega
    have h1 := hcell k hk2
    rw [Addr.add_lit] at h1
    have h2 := hwz (zs.getD k 0) (by rw [List.getD_eq_getElem?_getD, List.getElem?_eq_getElem hk2]; exact List.getElem_mem hk2)
    refine ⟨_, h1, ?_⟩
    have h3 := byte_wf h2
    omega

theorem Bytes_below {w w' : World} {A : Option Addr} {n : Nat} (h : Bytes w w.heap.size A n) (hb : Below w.heap.size w w') : Bytes w' w'.heap.size A n := fun hn => by
  obtain ⟨b, o, e, hlt, hc⟩ := h hn
  exact ⟨b, o, e, Nat.lt_of_lt_of_le hlt hb.size, fun k hk => by obtain ⟨v, h1, h2⟩ := hc k hk; exact ⟨v, (hb.cell (p := ⟨b, o + k, none⟩) hlt).trans h1, h2⟩⟩

theorem vBig (A : Option Addr) (n c : Nat) (w : World) :
    Calls Try.prog 16 #[.slice A n c] w fun e w' => e = .returned (.bool (decide ((65536 : Int) < (n : Int)))) ∧ w = w' := by
  go_enter Try.func16, Try.ntmps16
  go_wp2
  go_ret
  exact ⟨rfl, rfl⟩

end Go.Proofs.Ytkndfklbonkbiaa.code_
