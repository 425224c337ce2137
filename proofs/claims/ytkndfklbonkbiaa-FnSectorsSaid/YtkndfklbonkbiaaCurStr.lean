/- The reader of choices, on: of: one of some short strings. -/
import Derived.Test.YtkndfklbonkbiaaCur
namespace Go.Proofs.Ytkndfklbonkbiaa.cur
open Go.RowKit

/-- A string of at most k bytes is handed back; only the reader's block has turned. -/
def Str (k p m : Nat) (w : World) (e : Ending) (w' : World) : Prop := ∃ x : ByteArray, e = .returned (.string x) ∧ x.size ≤ k ∧ Cur w' p m ∧ w.grownBy w' (some p)

/-- A string with a property is handed back; only the reader's block has turned. -/
def StrQ (Q : ByteArray → Prop) (p m : Nat) (w : World) (e : Ending) (w' : World) : Prop := ∃ x : ByteArray, e = .returned (.string x) ∧ Q x ∧ Cur w' p m ∧ w.grownBy w' (some p)

theorem grown_alloc {w : World} (o : Obj) (row : Option Nat) : w.grownBy (w.alloc o) row := World.grownBy_alloc w o row

/-- A reader made in a new block. -/
theorem new_cur {w : World} {A : Option Addr} {n : Nat} (c : Nat) (hn : n ≤ 9223372036854775807) (h : Bytes w w.heap.size A n) : Cur (w.alloc (.cells #[.slice A n c, .int .i64 0, .int .u64 0] 92)) w.heap.size 0 :=
  ⟨A, n, c, 0, 0, heap_alloc_new w _, Nat.le_refl _, hn, h.keep fun b o hlt => World.cell?_alloc_lt w _ ⟨b, o, none⟩ hlt⟩

theorem below_of_grown {w w1 w2 : World} (h : Below w.heap.size w w1) (hg : w1.grownBy w2 (some w.heap.size)) : Below w.heap.size w w2 :=
  h.grown hg h.size (fun k e => by cases e; exact Nat.le_refl _)

end Go.Proofs.Ytkndfklbonkbiaa.cur
