/- spec's texts of frames: l5Words, l5Text, FrameText. -/
import Derived.Test.YtpjpdfannnafbaaFrmS
import Derived.Test.YtpjpdfannnafbaaAt3
import Derived.Deep.RegionHeld3
import Derived.Deep.CutRange
namespace Go.Proofs.Ytpjpdfannnafbaa.frmt
open Go.RowKit Go.Proofs.Ytpjpdfannnafbaa.bin Go.Proofs.Ytpjpdfannnafbaa.good_ Go.Proofs.Ytpjpdfannnafbaa.par Go.Proofs.Ytpjpdfannnafbaa.in_ Go.Proofs.Ytpjpdfannnafbaa.frm Go.Proofs.Ytpjpdfannnafbaa.frms Go.Proofs.Ytpjpdfannnafbaa.at3

/-- The words of the kinds; the text of a frame. -/
def wd : Nat → ByteArray
  | 1 => ⟨#[110, 97, 109, 101]⟩
  | 2 => ⟨#[112, 111, 115, 105, 116, 105, 111, 110]⟩
  | 3 => ⟨#[104, 101, 105, 103, 104, 116]⟩
  | 4 => ⟨#[115, 112, 101, 101, 100]⟩
  | _ => ⟨#[]⟩
def wordsC : Array Value := #[.string (wd 0), .string (wd 1), .string (wd 2), .string (wd 3), .string (wd 4)]
theorem words_at {k : Nat} (h : k < 5) : wordsC[k]? = some (.string (wd k)) := by
  match k, h with
  | 0, _ => rfl
  | 1, _ => rfl
  | 2, _ => rfl
  | 3, _ => rfl
  | 4, _ => rfl
theorem wd_size {k : Nat} (h : k < 5) : (wd k).size ≤ 8 := by
  match k, h with
  | 0, _ => decide
  | 1, _ => decide
  | 2, _ => decide
  | 3, _ => decide
  | 4, _ => decide
def hx (n v : Nat) : ByteArray := ⟨(enc 16 n v).toArray⟩
def textT (K A D : Nat) : ByteArray := wd K ++ ⟨#[32]⟩ ++ hx 4 A ++ ⟨#[32]⟩ ++ hx 6 D

theorem wpAnyH_mono {P : Program} {md : Region.Mode} {ops : Array Oper} {Q : Exit → Act → World → Prop} {S S' : World → Prop} (h : ∀ w, S w → S' w) :
    ∀ (fuel : Nat) (listed : Array Bool) (a : Act) (w : World), wpAnyH P md ops Q S fuel listed a w → wpAnyH P md ops Q S' fuel listed a w
  | 0, _, _, _, k => k
  | fuel + 1, _, _, _, k => ⟨k.1, fun i hi => wpOp_mono (fun a' w' h' => ⟨h _ h'.1, wpAnyH_mono h fuel _ a' w' h'.2⟩) (k.2 i hi)⟩
theorem words_cell (w : World) {k : Nat} (h : k < 5) : (w.alloc (.cells wordsC 9)).cell? ⟨w.heap.size, k, none⟩ = some (.string (wd k)) := by
  rw [cell_of_row _ _ k wordsC 9 (0, 0) (heap_alloc_new w _)]
  exact words_at h

theorem hex_bits (k n v : Nat) (hn : k = 4 * n) (hv : v < 2 ^ k) : (⟨(enc 16 ((⟨(enc 2 k v).toArray⟩ : ByteArray).size / 4) (dec 2 (⟨(enc 2 k v).toArray⟩ : ByteArray).data.toList)).toArray⟩ : ByteArray) = hx n v := by
  rw [e_size, e_dec k v hv, hn, Nat.mul_div_cancel_left _ (by omega)]
  rfl

end Go.Proofs.Ytpjpdfannnafbaa.frmt
