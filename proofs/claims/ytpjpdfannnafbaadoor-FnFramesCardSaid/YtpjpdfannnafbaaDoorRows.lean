/-
  NARROWER THAN 'FOR EVERY INPUT', by the rows' own cells (each row's printed sentence says how): FnFrames: laid · FnExactFrameText: laid · FnExactParseFrameText: laid.
  DERIVED. THE GIVEN ROWS OF THIS SEAT. 3 by the template 'for every input the law returns true; each argument reads behind the call as it read before'; 0 by the template 'total and deterministic' (their statements: YtpjpdfannnafbaaDoorTotals.lean).
  GIVEN WITH THE SEED: the statements are not yours to turn. If you find one false, say at which input.
  Laid BY PROGRAM, IN A SANDBOX (cutbox-rows.mjs): the forced cells as the released guide's own fill.sh prints them over the translation ac9d093c376d6afa… (all of the seat's roots in one cut). By AI agents, Wed Nov 11 2026. No macro, syntax, notation, axiom, sorry.
-/
import Derived.Test.YtpjpdfannnafbaaDoorChecked
import GoSem.Claim
import GoSem.ClaimJoined
import GoSem.ClaimMapViews
import Derived.JoinedTies
import Derived.KernelRfl
namespace Go.Proofs.YtpjpdfannnafbaaDoor
/- THE CELL 'sum', in the pinned program and in every row, IS THE sha256 OF THE DUMP (.gsa) THAT YtpjpdfannnafbaaDoorProg.lean LOADS. Nothing in Lean hashes anything: it is a label: what it is worth is what the hold of that sum in a sandbox is worth. -/
noncomputable def Tryd.pinned : Pinned := { name := "ytpjpdfannnafbaadoor", sum := "ac9d093c376d6afae3c6e9e0e96facf564fbaf95e267e0ac30a88af66fd37dfe", checked := Tryd.checked }
namespace Rows
def none {H : Type} : Left H := { results := [], args := [] }

/- WHAT THE LISTED PACKAGE-LEVEL VARIABLES READ AS WHEN THE CALL BEGINS. Each datum BY PROGRAM (the guide's laid-datum.mjs) off the statement by which the dump's own 'gosem.cut.vars' lays the variable. In a bare row this is a premise. The card (YtpjpdfannnafbaaDoorCards.lean) ties it to the program's text. -/
def laid_loop_example_g00875_impl_frameWords {H : Type} : DataW H := .agg [.lit (.string []), .lit (.string [110, 97, 109, 101]), .lit (.string [112, 111, 115, 105, 116, 105, 111, 110]), .lit (.string [104, 101, 105, 103, 104, 116]), .lit (.string [115, 112, 101, 101, 100])]

/-- 'laws.FnFrames': WHATEVER THE INPUT: true; the input reads as it did. -/
def fnFramesSpec : ChangeSpec := { name := "fnFrames", vars := ["loop.example/g00875/impl.frameWords"], fn := fun _ => fun
  | [d, g1] => { results := [.lit (.bool true)], args := [d], vars := [g1] }
  | _ => none }
def fnFramesRow : OpenClaim := { program := "ytpjpdfannnafbaadoor", sum := "ac9d093c376d6afae3c6e9e0e96facf564fbaf95e267e0ac30a88af66fd37dfe", func := "loop.example/g00875/laws.FnFrames", spec := "fnFrames", inPlace := ["internal/abi.NoEscape", "internal/bytealg.IndexByteString"], unfollowed := true, recurses := true, named := ["loop.example/g00875/impl.frameWords"], apart := false, laid := [("loop.example/g00875/impl.frameWords", laid_loop_example_g00875_impl_frameWords)] }
def FnFramesSaid : Prop := fnFramesRow.holds Tryd.pinned (OpenSpec.ofChange fnFramesSpec)

/-- ITS FALSE NEIGHBOUR: 'it returns false'. Refute it at one input. -/
def fnFramesWrong : ChangeSpec := { name := "fnFrames", vars := ["loop.example/g00875/impl.frameWords"], fn := fun _ => fun
  | [d, g1] => { results := [.lit (.bool false)], args := [d], vars := [g1] }
  | _ => none }
def FnFramesWrongFalsely : Prop := fnFramesRow.holds Tryd.pinned (OpenSpec.ofChange fnFramesWrong)

/-- 'laws.FnExactFrameText': WHATEVER THE INPUT: true; the input reads as it did. -/
def fnExactFrameTextSpec : ChangeSpec := { name := "fnExactFrameText", vars := ["loop.example/g00875/impl.frameWords"], fn := fun _ => fun
  | [d, g1] => { results := [.lit (.bool true)], args := [d], vars := [g1] }
  | _ => none }
def fnExactFrameTextRow : OpenClaim := { program := "ytpjpdfannnafbaadoor", sum := "ac9d093c376d6afae3c6e9e0e96facf564fbaf95e267e0ac30a88af66fd37dfe", func := "loop.example/g00875/laws.FnExactFrameText", spec := "fnExactFrameText", inPlace := ["internal/abi.NoEscape"], named := ["loop.example/g00875/impl.frameWords"], apart := false, laid := [("loop.example/g00875/impl.frameWords", laid_loop_example_g00875_impl_frameWords)] }
def FnExactFrameTextSaid : Prop := fnExactFrameTextRow.holds Tryd.pinned (OpenSpec.ofChange fnExactFrameTextSpec)

/-- ITS FALSE NEIGHBOUR: 'it returns false'. Refute it at one input. -/
def fnExactFrameTextWrong : ChangeSpec := { name := "fnExactFrameText", vars := ["loop.example/g00875/impl.frameWords"], fn := fun _ => fun
  | [d, g1] => { results := [.lit (.bool false)], args := [d], vars := [g1] }
  | _ => none }
def FnExactFrameTextWrongFalsely : Prop := fnExactFrameTextRow.holds Tryd.pinned (OpenSpec.ofChange fnExactFrameTextWrong)

/-- 'laws.FnExactParseFrameText': WHATEVER THE INPUT: true; the input reads as it did. -/
def fnExactParseFrameTextSpec : ChangeSpec := { name := "fnExactParseFrameText", vars := ["loop.example/g00875/impl.frameWords"], fn := fun _ => fun
  | [d, g1] => { results := [.lit (.bool true)], args := [d], vars := [g1] }
  | _ => none }
def fnExactParseFrameTextRow : OpenClaim := { program := "ytpjpdfannnafbaadoor", sum := "ac9d093c376d6afae3c6e9e0e96facf564fbaf95e267e0ac30a88af66fd37dfe", func := "loop.example/g00875/laws.FnExactParseFrameText", spec := "fnExactParseFrameText", inPlace := ["internal/bytealg.IndexByteString", "internal/abi.NoEscape"], unfollowed := true, recurses := true, named := ["loop.example/g00875/impl.frameWords"], apart := false, laid := [("loop.example/g00875/impl.frameWords", laid_loop_example_g00875_impl_frameWords)] }
def FnExactParseFrameTextSaid : Prop := fnExactParseFrameTextRow.holds Tryd.pinned (OpenSpec.ofChange fnExactParseFrameTextSpec)

/-- ITS FALSE NEIGHBOUR: 'it returns false'. Refute it at one input. -/
def fnExactParseFrameTextWrong : ChangeSpec := { name := "fnExactParseFrameText", vars := ["loop.example/g00875/impl.frameWords"], fn := fun _ => fun
  | [d, g1] => { results := [.lit (.bool false)], args := [d], vars := [g1] }
  | _ => none }
def FnExactParseFrameTextWrongFalsely : Prop := fnExactParseFrameTextRow.holds Tryd.pinned (OpenSpec.ofChange fnExactParseFrameTextWrong)

/- THE SECOND FORM. 'bulk': how many values and letters a reading holds, each counted each time it is reached (what is shared counts as often as it is met; a slice's spare places count too). A statement '..UptoSaid' is the law's where the arguments, and the package variables that the reading takes, are together of bulk at most 1048576: NARROWER than '..Said'. Prove '..Said' where nothing that the law and all that it calls make is longer than what came in: it says more and counts as full. Else prove '..UptoSaid'. A law counts once. -/
mutual
def uptoBulk {H : Type} : DataW H → Nat
  | .lit (.string bytes) => bytes.length + 1
  | .lit _ => 1
  | .nil => 1
  | .ptr d => uptoBulk d + 1
  | .slice elems spare => uptoBulkAll elems + uptoBulkAll spare + 1
  | .agg parts => uptoBulkAll parts + 1
  | .iface _ d => uptoBulk d + 1
  | .map entries => uptoBulkEntries entries + 1
  | .held _ => 1
def uptoBulkAll {H : Type} : List (DataW H) → Nat
  | [] => 0
  | d :: r => uptoBulk d + uptoBulkAll r
def uptoBulkEntries {H : Type} : List (Lit × DataW H) → Nat
  | [] => 0
  | x :: r => uptoBulkEntry x + uptoBulkEntries r
def uptoBulkEntry {H : Type} : Lit × DataW H → Nat
  | (.string bytes, d) => bytes.length + uptoBulk d + 1
  | (_, d) => uptoBulk d + 1
 end
def uptoSmall : (H : Type) → List (DataW H) → Bool := fun _ ds => decide (uptoBulkAll ds ≤ 1048576)
def OpenSpec.upto (s : _root_.Go.ChangeSpec) : _root_.Go.OpenSpec := { _root_.Go.OpenSpec.ofChange s with cond := some uptoSmall }

/-- 'laws.FnFrames', WHERE WHAT IT READS IS OF BULK AT MOST 1048576: true; the input reads as it did. -/
def fnFramesUptoRow : OpenClaim := { program := "ytpjpdfannnafbaadoor", sum := "ac9d093c376d6afae3c6e9e0e96facf564fbaf95e267e0ac30a88af66fd37dfe", func := "loop.example/g00875/laws.FnFrames", spec := "fnFrames", inPlace := ["internal/abi.NoEscape", "internal/bytealg.IndexByteString"], unfollowed := true, recurses := true, named := ["loop.example/g00875/impl.frameWords"], apart := false, laid := [("loop.example/g00875/impl.frameWords", laid_loop_example_g00875_impl_frameWords)], narrowed := true }
def FnFramesUptoSaid : Prop := fnFramesUptoRow.holds Tryd.pinned (OpenSpec.upto fnFramesSpec)

/-- 'laws.FnExactFrameText', WHERE WHAT IT READS IS OF BULK AT MOST 1048576: true; the input reads as it did. -/
def fnExactFrameTextUptoRow : OpenClaim := { program := "ytpjpdfannnafbaadoor", sum := "ac9d093c376d6afae3c6e9e0e96facf564fbaf95e267e0ac30a88af66fd37dfe", func := "loop.example/g00875/laws.FnExactFrameText", spec := "fnExactFrameText", inPlace := ["internal/abi.NoEscape"], named := ["loop.example/g00875/impl.frameWords"], apart := false, laid := [("loop.example/g00875/impl.frameWords", laid_loop_example_g00875_impl_frameWords)], narrowed := true }
def FnExactFrameTextUptoSaid : Prop := fnExactFrameTextUptoRow.holds Tryd.pinned (OpenSpec.upto fnExactFrameTextSpec)

/-- 'laws.FnExactParseFrameText', WHERE WHAT IT READS IS OF BULK AT MOST 1048576: true; the input reads as it did. -/
def fnExactParseFrameTextUptoRow : OpenClaim := { program := "ytpjpdfannnafbaadoor", sum := "ac9d093c376d6afae3c6e9e0e96facf564fbaf95e267e0ac30a88af66fd37dfe", func := "loop.example/g00875/laws.FnExactParseFrameText", spec := "fnExactParseFrameText", inPlace := ["internal/bytealg.IndexByteString", "internal/abi.NoEscape"], unfollowed := true, recurses := true, named := ["loop.example/g00875/impl.frameWords"], apart := false, laid := [("loop.example/g00875/impl.frameWords", laid_loop_example_g00875_impl_frameWords)], narrowed := true }
def FnExactParseFrameTextUptoSaid : Prop := fnExactParseFrameTextUptoRow.holds Tryd.pinned (OpenSpec.upto fnExactParseFrameTextSpec)

end Rows
end Go.Proofs.YtpjpdfannnafbaaDoor
