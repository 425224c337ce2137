/- spec's IsValidReceiver. -/
import Derived.Test.YtdeghpihcddlgaaRcvA
namespace Go.Proofs.Ytdeghpihcddlgaa.rcve
open Go.RowKit Go.Proofs.Ytdeghpihcddlgaa.rcv Go.Proofs.Ytdeghpihcddlgaa.rcvm Go.Proofs.Ytdeghpihcddlgaa.ats

theorem isValidReceiver (m : Int) (hs : List Hd) (A : Option Addr) (c : Nat) (w : World) (hn : hs.length ≤ 1048577) (h : RdH w w.heap.size A hs) :
    Calls Try.prog 40 #[.agg #[.int .i64 m, .slice A hs.length c]] w fun e w' => e = .returned (.bool (vB m hs)) ∧ Below w.heap.size w w' := by
  have B0 := Lib.hid (newS 46 #[.int .i64 m, .slice A hs.length c] w)
  have X1 := Lib.hid (rcva.good9 m hs A c _ hn (h.next B0.out.1))
  generalize hs.length = n at *
  generalize vB m hs = O at *
  clear h hn
  go_enter Try.func40, Try.ntmps40
  go_wp2_with fail
  refine X1.out.mono ?_
  rintro e V2 ⟨rfl, hb2⟩
  have B2 := Lib.hid (B0.out.old hb2)
  go_wp2_with fail
  go_ret
  exact ⟨rfl, B2.out.1⟩
end Go.Proofs.Ytdeghpihcddlgaa.rcve
