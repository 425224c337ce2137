/- A string turned into a []byte of its own, one cell set, and back. -/
import Derived.Test.YtiddeelndlfnmaaDoorAid
import Derived.Laws.IdiomStrings
import Derived.Laws.AppendOwn
import Derived.Laws.OwnMore
namespace Go.Proofs.YtiddeelndlfnmaaDoor.bytes_
open Go.RowKit

/-- Block g begins with the bytes l, and they may be written. -/
def BytesRow (w : World) (g : Nat) (l : List UInt8) : Prop :=
  (∀ j (hj : j < l.length), w.cell? ⟨g, j, none⟩ = some (.int .u8 (l[j].toNat : Int))) ∧ (∀ j, j < l.length → w.frozen? ⟨g, j, none⟩ = false) ∧ g < w.heap.size

theorem of_string (w : World) (s : ByteArray) : ∃ (cap : Nat) (w' : World), (convert 9 22 (.string s)).run Tryd.prog w = .ok (.slice (some ⟨w.heap.size, 0, none⟩) s.data.toList.length cap) w' ∧ BytesRow w' w.heap.size s.data.toList ∧ Below w.heap.size w w' ∧ s.data.toList.length ≤ cap := by
  have hr := run_bytes_of_string (P := Tryd.prog) w 9 22 5 s Tryd.underlying9 Tryd.underlying22 Tryd.underlying5
  have hsz : s.data.toList.length = s.size := by simp [← ByteArray.size_data]
  refine ⟨_, _, by rw [hsz]; exact hr, ⟨fun j hj => ?_, fun j hj => ?_, ?_⟩, ?_, by rw [hsz]; exact grownCap_ge w s.size 0 5⟩
  · have hj2 : j < s.data.size := by simpa using hj
    have h1 := bytesRow_at s (grownCap w s.size 0 5) j hj2
    have : (w.drew.alloc (.cells (bytesRow s (grownCap w s.size 0 5)) 5 ((bytesRow s (grownCap w s.size 0 5)).size, (bytesRow s (grownCap w s.size 0 5)).size + 1))).heap[w.heap.size]? = some (.cells (bytesRow s (grownCap w s.size 0 5)) 5 ((bytesRow s (grownCap w s.size 0 5)).size, (bytesRow s (grownCap w s.size 0 5)).size + 1)) := heap_alloc_new w.drew _
    simp only [World.cell?, this, h1]
    simp
  · have hj2 : j < s.data.size := by simpa using hj
    have h1 := (Array.getElem?_eq_some_iff.1 (bytesRow_at s (grownCap w s.size 0 5) j hj2)).1
    have : (w.drew.alloc (.cells (bytesRow s (grownCap w s.size 0 5)) 5 ((bytesRow s (grownCap w s.size 0 5)).size, (bytesRow s (grownCap w s.size 0 5)).size + 1))).heap[w.heap.size]? = some (.cells (bytesRow s (grownCap w s.size 0 5)) 5 ((bytesRow s (grownCap w s.size 0 5)).size, (bytesRow s (grownCap w s.size 0 5)).size + 1)) := heap_alloc_new w.drew _
    simp only [World.frozen?, this]
    simp
    omega
  · show w.heap.size < (w.drew.alloc _).heap.size
    rw [World.size_alloc]
    exact Nat.lt_succ_self _
  · exact ((Below.refl _ w).drew).alloc (Nat.le_refl _) _

theorem BytesRow.keep {w w' : World} {g : Nat} {l : List UInt8} (h : BytesRow w g l) (hb : Below w.heap.size w w') : BytesRow w' g l :=
  ⟨fun j hj => (hb.cell (p := ⟨g, j, none⟩) h.2.2).trans (h.1 j hj), fun j hj => by
    have := h.2.1 j hj
    unfold World.frozen? at this ⊢
    rw [hb.block g h.2.2]
    exact this, Nat.lt_of_lt_of_le h.2.2 hb.size⟩

theorem BytesRow.set {w : World} {g k : Nat} {l : List UInt8} (h : BytesRow w g l) (hk : k < l.length) (c : UInt8) : BytesRow (w.setCell ⟨g, k, none⟩ (.int .u8 (c.toNat : Int))) g (l.set k c) := by
  refine ⟨fun j hj => ?_, fun j hj => ?_, by simpa [World.setCell] using h.2.2⟩
  · have hj2 : j < l.length := by simpa using hj
    by_cases e : k = j
    · subst e
      rw [World.cell?_setCell_same _ _ _ (h.1 k hk)]
      simp
    · have h2 : (⟨g, k, none⟩ : Addr) ≠ ⟨g, j, none⟩ := fun he => e (by injection he)
      have h3 := World.cell?_setCell_other w ⟨g, k, none⟩ ⟨g, j, none⟩ (.int .u8 (c.toNat : Int)) h2
      rw [h3, h.1 j hj2]
      simp [List.getElem_set_ne e]
  · rw [World.frozen?_setCell]
    exact h.2.1 j (by simpa using hj)

theorem to_string {w : World} {g cap n : Nat} {l : List UInt8} (h : BytesRow w g l) (hn : n = l.length) : (convert 22 9 (.slice (some ⟨g, 0, none⟩) n cap)).run Tryd.prog w = .ok (.string ⟨l.toArray⟩) w := by
  subst hn
  refine run_convert_bytes_back _ _ _ 5 _ cap l Tryd.underlying22 Tryd.underlying5 Tryd.underlying9 ?_
  intro j hj
  rw [Addr.add_lit, Nat.zero_add]
  exact h.1 j hj

/-- The exclusive or with a byte that is not 0 is another byte. -/
theorem xor_byte (u : UInt8) (d : Int) (h0 : 1 ≤ d) (h1 : d ≤ 255) : ∃ c : UInt8, bits .xor .u8 (u.toNat : Int) d = (c.toNat : Int) ∧ c ≠ u := by
  obtain ⟨n, rfl⟩ := Int.eq_ofNat_of_zero_le (show 0 ≤ d by omega)
  have hn : n < 256 := by omega
  have hn0 : UInt8.ofNat n ≠ 0 := fun e => by
    have := congrArg UInt8.toNat e
    rw [UInt8.toNat_ofNat'] at this
    simp at this
    omega
  refine ⟨u ^^^ UInt8.ofNat n, ?_, fun e => hn0 ?_⟩
  · have hb : bits .xor .u8 (u.toNat : Int) (n : Int) = IntKind.u8.wrap ((BitVec.ofInt 8 (u.toNat : Int) ^^^ BitVec.ofInt 8 (n : Int)).toNat : Int) := rfl
    rw [hb, BitVec.toNat_xor, UInt8.toNat_xor, UInt8.toNat_ofNat']
    have hu := u.toNat_lt
    have e1 : (BitVec.ofInt 8 (u.toNat : Int)).toNat = u.toNat := by simp
    have e2 : (BitVec.ofInt 8 (n : Int)).toNat = n % 2 ^ 8 := by simp
    rw [e1, e2]
    have hx : u.toNat ^^^ n % 2 ^ 8 < 2 ^ 8 := Nat.xor_lt_two_pow hu (by omega)
    generalize u.toNat ^^^ n % 2 ^ 8 = q at *
    rw [IntKind.wrap_u8]
    omega
  · have : u ^^^ (u ^^^ UInt8.ofNat n) = u ^^^ u := by rw [e]
    rw [← UInt8.xor_assoc, UInt8.xor_self, UInt8.zero_xor] at this
    exact this
end Go.Proofs.YtiddeelndlfnmaaDoor.bytes_
