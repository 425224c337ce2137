/- The draws of spec for chapter 2's laws: numbers in range, strings of bounded size, whatever the bytes are. -/
import Derived.Test.YtpjpdfannnafbaaDoorCurBits
import Derived.Test.YtpjpdfannnafbaaDoorBitsS
import Derived.Test.YtpjpdfannnafbaaDoorHexS
namespace Go.Proofs.YtpjpdfannnafbaaDoor.drawb
open Go.RowKit Go.Proofs.YtpjpdfannnafbaaDoor.cur Go.Proofs.YtpjpdfannnafbaaDoor.bin Go.Proofs.YtpjpdfannnafbaaDoor.good_ Go.Proofs.YtpjpdfannnafbaaDoor.bitsi Go.Proofs.YtpjpdfannnafbaaDoor.hexs

def Str1 (k : Nat) (w : World) (e : Ending) (w' : World) : Prop := ∃ x : ByteArray, e = .returned (.string x) ∧ x.size ≤ k ∧ Below w.heap.size w w'
def Ints2 (a b c d : Int) (w : World) (e : Ending) (w' : World) : Prop := ∃ x y : Int, e = .returned (.tuple #[.int .i64 x, .int .i64 y]) ∧ a ≤ x ∧ x ≤ b ∧ c ≤ y ∧ y ≤ d ∧ Below w.heap.size w w'
def StrInt (k : Nat) (a b : Int) (w : World) (e : Ending) (w' : World) : Prop := ∃ (x : ByteArray) (y : Int), e = .returned (.tuple #[.string x, .int .i64 y]) ∧ x.size ≤ k ∧ a ≤ y ∧ y ≤ b ∧ Below w.heap.size w w'
def StrInts (k : Nat) (a b c d : Int) (w : World) (e : Ending) (w' : World) : Prop := ∃ (x : ByteArray) (y z : Int), e = .returned (.tuple #[.string x, .int .i64 y, .int .i64 z]) ∧ x.size ≤ k ∧ a ≤ y ∧ y ≤ b ∧ c ≤ z ∧ z ≤ d ∧ Below w.heap.size w w'

def Str2 (k : Nat) (w : World) (e : Ending) (w' : World) : Prop := ∃ x y : ByteArray, e = .returned (.tuple #[.string x, .string y]) ∧ x.size ≤ k ∧ y.size ≤ k ∧ Below w.heap.size w w'

end Go.Proofs.YtpjpdfannnafbaaDoor.drawb
