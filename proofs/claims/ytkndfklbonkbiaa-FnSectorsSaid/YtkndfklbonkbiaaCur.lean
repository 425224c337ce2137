/- The reader of choices in spec (l1Cur): what its memory holds, and the contracts of next and pick: whatever the bytes are, they return numbers in range and write their own block alone. -/
import Derived.Test.YtkndfklbonkbiaaOwn
import Derived.RegionTactic
import Derived.BigRegion
import Derived.BigQuiet
import Derived.Deep.QuietTactic
import Derived.ChangeAlike
import Derived.Laws.BitsAllLaws
import Derived.Laws.Bits64
import Derived.IntWalk
import Derived.WalkSpells
import Derived.Outline
namespace Go.Proofs.Ytkndfklbonkbiaa.cur
open Go.RowKit

/-- The bytes (A, n) that came in, below block B. -/
def Bytes (w : World) (B : Nat) (A : Option Addr) (n : Nat) : Prop :=
  0 < n → ∃ b o, A = some ⟨b, o, none⟩ ∧ b < B ∧ ∀ k, k < n → ∃ v : Int, w.cell? ⟨b, o + k, none⟩ = some (.int .u8 v) ∧ 0 ≤ v ∧ v ≤ 255
theorem Bytes.keep {w w' : World} {B n : Nat} {A : Option Addr} (h : Bytes w B A n) (hb : ∀ b o, b < B → w'.cell? ⟨b, o, none⟩ = w.cell? ⟨b, o, none⟩) : Bytes w' B A n := fun hn => by
  obtain ⟨b, o, e, hlt, hc⟩ := h hn
  exact ⟨b, o, e, hlt, fun k hk => by obtain ⟨v, h1, h2⟩ := hc k hk; exact ⟨v, (hb _ _ hlt).trans h1, h2⟩⟩

/-- Block p holds a reader of bytes that lie below p; it has read at most m of them. -/
def Cur (w : World) (p m : Nat) : Prop := ∃ (A : Option Addr) (n c : Nat) (i : Nat) (sd : Int),
  w.heap[p]? = some (.cells #[.slice A n c, .int .i64 i, .int .u64 sd] 92 (0, 0)) ∧ i ≤ m ∧ n ≤ 9223372036854775807 ∧ Bytes w p A n
theorem Cur.more {w : World} {p m m' : Nat} (h : Cur w p m) (hm : m ≤ m') : Cur w p m' := by
  obtain ⟨A, n, c, i, sd, h1, h2, h3, h4⟩ := h
  exact ⟨A, n, c, i, sd, h1, by omega, h3, h4⟩
/-- What leaves block p and all below it alone keeps the reader. -/
theorem Cur.keep {w w' : World} {p m : Nat} (h : Cur w p m) (hb : Below (p + 1) w w') : Cur w' p m := by
  obtain ⟨A, n, c, i, sd, h1, h2, h3, h4⟩ := h
  exact ⟨A, n, c, i, sd, (hb.block p (by omega)).trans h1, h2, h3, h4.keep fun b o hlt => hb.cell (p := ⟨b, o, none⟩) (by show b < p + 1; omega)⟩
theorem Cur.lt {w : World} {p m : Nat} (h : Cur w p m) : p < w.heap.size := by
  obtain ⟨A, n, c, i, sd, h1, _⟩ := h
  exact (Array.getElem?_eq_some_iff.1 h1).1

theorem and255 (x : Int) : 0 ≤ bits .and .u64 x 255 ∧ bits .and .u64 x 255 ≤ 255 := by
  have h : bits .and .u64 x 255 = IntKind.u64.wrap ((BitVec.ofInt 64 x &&& BitVec.ofInt 64 255).toNat : Int) := rfl
  rw [h, BitVec.toNat_and]
  have h2 : (BitVec.ofInt 64 255).toNat = 255 := by decide
  rw [h2]
  have h3 : (BitVec.ofInt 64 x).toNat &&& 255 ≤ 255 := Nat.and_le_right
  rw [IntKind.wrap_u64]
  generalize (BitVec.ofInt 64 x).toNat &&& 255 = y at *
  omega

theorem wand255 (x : Int) : 0 ≤ wrap64 (bits .and .u64 x 255) ∧ wrap64 (bits .and .u64 x 255) ≤ 255 := by
  have h := and255 x
  rw [IntWalk.wrap64_in _ ⟨by omega, by omega⟩]
  exact h

def Reads (lo hi : Int) (p m : Nat) (w : World) (e : Ending) (w' : World) : Prop := ∃ r : Int, e = .returned (.int .i64 r) ∧ lo ≤ r ∧ r ≤ hi ∧ Cur w' p m ∧ w.grownBy w' (some p)

theorem stored {w : World} {p n c i m : Nat} {A : Option Addr} {sd : Int} (hb : w.heap[p]? = some (.cells #[.slice A n c, .int .i64 i, .int .u64 sd] 92 (0, 0))) (hi : i ≤ m) (hn : n ≤ 9223372036854775807) (hby : Bytes w p A n) (k q : Nat) (z : Int) :
    Cur ((((w.drewN k).setCell ⟨p, 1, none⟩ (.int .i64 ((i : Int) + 1))).setCell ⟨p, 2, none⟩ (.int .u64 z)).drewN q) p (m + 1) ∧ w.grownBy ((((w.drewN k).setCell ⟨p, 1, none⟩ (.int .i64 ((i : Int) + 1))).setCell ⟨p, 2, none⟩ (.int .u64 z)).drewN q) (some p) := by
  have hlt : p < w.heap.size := (Array.getElem?_eq_some_iff.1 hb).1
  have hbl : Below p w ((((w.drewN k).setCell ⟨p, 1, none⟩ (.int .i64 ((i : Int) + 1))).setCell ⟨p, 2, none⟩ (.int .u64 z)).drewN q) :=
    aid.below_drewN (((aid.below_drewN (Below.refl p w) k).setCell (p := ⟨p, 1, none⟩) (Nat.le_refl _) _).setCell (p := ⟨p, 2, none⟩) (Nat.le_refl _) _) q
  refine ⟨⟨A, n, c, i + 1, z, ?_, by omega, hn, hby.keep fun b o h => hbl.cell (p := ⟨b, o, none⟩) h⟩, ⟨rfl, rfl, rfl, hbl.size, fun j hj hne => ?_⟩⟩
  · show ((((w.drewN k).setCell ⟨p, 1, none⟩ (.int .i64 ((i : Int) + 1))).setCell ⟨p, 2, none⟩ (.int .u64 z))).heap[p]? = _
    rw [heap_setCell_same _ p 2 _ _ _ (heap_setCell_same _ p 1 _ _ _ (show (w.drewN k).heap[p]? = _ from hb))]
    simp
  · have hjp : j ≠ p := fun e => hne (by rw [e])
    show ((((w.drewN k).setCell ⟨p, 1, none⟩ (.int .i64 ((i : Int) + 1))).setCell ⟨p, 2, none⟩ (.int .u64 z))).heap[j]? = _
    rw [Below.heap_setCell _ _ _ _ hjp, Below.heap_setCell _ _ _ _ hjp]
    rfl

set_option maxHeartbeats 1000000 in
theorem next (p m : Nat) (w : World) (h : Cur w p m) (hm : m ≤ 1000000) :
    Calls Try.prog 102 #[.pointer (some ⟨p, 0, none⟩)] w (Reads 0 255 p (m + 1) w) := by
  obtain ⟨A, n, c, i, sd, hb, hi, hn, hby⟩ := h
  have c0 : w.cell? ⟨p, 0, none⟩ = some (.slice A n c) := by simp [World.cell?, hb]
  have c1 : w.cell? ⟨p, 1, none⟩ = some (.int .i64 i) := by simp [World.cell?, hb]
  have c2 : w.cell? ⟨p, 2, none⟩ = some (.int .u64 sd) := by simp [World.cell?, hb]
  have f1 : w.frozen? ⟨p, 1, none⟩ = false := by simp [World.frozen?, hb]
  have f2 : w.frozen? ⟨p, 2, none⟩ = false := by simp [World.frozen?, hb]
  have HS := Lib.hid (fun k q z => stored hb hi hn hby k q z)
  by_cases hlt : i < n
  · obtain ⟨b, o, rfl, hbp, hcell⟩ := hby (by omega)
    obtain ⟨v, hv, v0, v1⟩ := hcell i hlt
    clear hb hby hcell
    have hlt2 : (i : Int) < (n : Int) := by omega
    go_enter Try.func102, Try.ntmps102
    go_wp2
    go_quiet (fail)
    go_wp2
    go_quiet (fail)
    go_wp2
    go_quiet (fail)
    go_wp2
    go_ret
    exact ⟨v, rfl, v0, v1, (HS.out _ _ _).1, (HS.out _ _ _).2⟩
  · clear hb hby
    have hlt2 : (n : Int) ≤ (i : Int) := by omega
    go_enter Try.func102, Try.ntmps102
    go_wp2
    go_quiet (fail)
    go_wp2
    go_quiet (fail)
    go_wp2
    go_ret
    exact ⟨_, rfl, (wand255 _).1, (wand255 _).2, (HS.out _ _ _).1, (HS.out _ _ _).2⟩

theorem grown_trans {a b c : World} {row : Option Nat} (h : a.grownBy b row) (k : b.grownBy c row) : a.grownBy c row :=
  ⟨k.os.trans h.os, k.tape.trans h.tape, k.output.trans h.output, Nat.le_trans h.size k.size, fun j hj hne => (k.block j (Nat.lt_of_lt_of_le hj h.size) hne).trans (h.block j hj hne)⟩

theorem pick (p m : Nat) (n : Int) (w : World) (h : Cur w p m) (hm : m ≤ 900000) (hn : 1 ≤ n) (hn2 : n ≤ 60000) :
    Calls Try.prog 66 #[.pointer (some ⟨p, 0, none⟩), .int .i64 n] w (Reads 0 (n - 1) p (m + 2) w) := by
  by_cases h1 : n ≤ 1
  · have hc := Lib.hid (h.more (m' := m + 2) (by omega))
    have h0 : 0 ≤ n - 1 := by omega
    clear h
    go_enter Try.func66, Try.ntmps66
    go_wp2
    go_ret
    exact ⟨0, rfl, by omega, h0, hc.out, World.grownBy.refl w _⟩
  · have hx := Lib.hid (next p m w h (by omega))
    by_cases h2 : 200 < n
    · clear h
      go_enter Try.func66, Try.ntmps66
      go_wp2_with fail
      refine hx.out.mono ?_
      rintro e w1 ⟨r, rfl, r0, r1, hc1, hg1⟩
      go_wp2_with fail
      refine (next p (m + 1) w1 hc1 (by omega)).mono ?_
      rintro e w2 ⟨r2, rfl, r20, r21, hc2, hg2⟩
      go_wp2_with fail
      go_ret
      exact ⟨_, rfl, Int.emod_nonneg _ (by omega), by have := Int.emod_lt_of_pos (r * 256 + r2) (show 0 < n by omega); omega, hc2, grown_trans hg1 hg2⟩
    · clear h
      go_enter Try.func66, Try.ntmps66
      go_wp2_with fail
      refine hx.out.mono ?_
      rintro e w1 ⟨r, rfl, r0, r1, hc1, hg1⟩
      go_wp2_with fail
      go_ret
      exact ⟨_, rfl, Int.emod_nonneg _ (by omega), by have := Int.emod_lt_of_pos r (show 0 < n by omega); omega, hc1.more (by omega), hg1⟩

theorem one (p m : Nat) (n : Int) (w : World) (h : Cur w p m) (hm : m ≤ 900000) (hn : 1 ≤ n) (hn2 : n ≤ 60000) :
    Calls Try.prog 67 #[.pointer (some ⟨p, 0, none⟩), .int .i64 n] w fun e w' => ∃ b : Bool, e = .returned (.bool b) ∧ Cur w' p (m + 2) ∧ w.grownBy w' (some p) := by
  have hx := Lib.hid (pick p m n w h hm hn hn2)
  clear h
  go_enter Try.func67, Try.ntmps67
  go_wp2_with fail
  refine hx.out.mono ?_
  rintro e w1 ⟨r, rfl, r0, r1, hc1, hg1⟩
  go_wp2_with fail
  go_ret
  exact ⟨_, rfl, hc1, hg1⟩
end Go.Proofs.Ytkndfklbonkbiaa.cur
