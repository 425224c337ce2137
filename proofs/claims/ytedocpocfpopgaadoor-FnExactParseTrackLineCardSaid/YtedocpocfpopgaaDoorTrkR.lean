/- The lines of tracks and their parts, in plain mathematics (no program in it): the words of a line, the cut at ' lost ', a line's track. -/
import Derived.Test.YtedocpocfpopgaaDoorTrkP
import Derived.Test.YtedocpocfpopgaaDoorPtx
namespace Go.Proofs.YtedocpocfpopgaaDoor.trkr
open Go.RowKit Go.Proofs.YtedocpocfpopgaaDoor.num Go.Proofs.YtedocpocfpopgaaDoor.read Go.Proofs.YtedocpocfpopgaaDoor.split_ Go.Proofs.YtedocpocfpopgaaDoor.pos Go.Proofs.YtedocpocfpopgaaDoor.trk Go.Proofs.YtedocpocfpopgaaDoor.trkm Go.Proofs.YtedocpocfpopgaaDoor.trkp Go.Proofs.YtedocpocfpopgaaDoor.ptx

theorem hd_list' (i : Int) (k : Nat) (x y h : Int) : (hdT i k x y h).data.toList = (txt i).data.toList ++ 32 :: ((wd k).data.toList ++ 32 :: ([97, 116] ++ 32 :: ((txt x ++ ⟨#[44]⟩ ++ txt y : ByteArray).data.toList ++ 32 :: ([104, 105, 116, 115] ++ 32 :: (txt h).data.toList)))) := by
  unfold hdT
  simp only [aid.str_app]
  simp
theorem tl_zero {i s x y h l : Int} (hz : l = 0) : tlT i s x y h l = hdT i s.toNat x y h := by unfold tlT; rw [if_pos hz]
theorem tl_lost {i s x y h l : Int} (hz : ¬ l = 0) : tlT i s x y h l = hdT i s.toNat x y h ++ ⟨#[32, 108, 111, 115, 116, 32]⟩ ++ txt l := by unfold tlT; rw [if_neg hz]
theorem wd_no : ∀ k : Nat, (32 : UInt8) ∉ (wd k).data.toList ∧ (108 : UInt8) ∉ (wd k).data.toList
  | 0 => by decide
  | 1 => by decide
  | 2 => by decide
  | 3 => by decide
  | _ + 4 => by
    show (32 : UInt8) ∉ ([] : List UInt8) ∧ (108 : UInt8) ∉ ([] : List UInt8)
    simp
theorem place_no {x y : Int} (hx : 0 ≤ x) (hy : 0 ≤ y) : (32 : UInt8) ∉ (txt x ++ ⟨#[44]⟩ ++ txt y : ByteArray).data.toList ∧ (108 : UInt8) ∉ (txt x ++ ⟨#[44]⟩ ++ txt y : ByteArray).data.toList := by
  constructor <;>
  · rw [aid.str_app, aid.str_app, List.mem_append, List.mem_append]
    rintro ((h1 | h1) | h1)
    · first | exact dig_no (txt_dig (n := x) hx) (Or.inl (by decide)) h1 | exact dig_no (txt_dig (n := x) hx) (Or.inr (by decide)) h1
    · revert h1; decide
    · first | exact dig_no (txt_dig (n := y) hy) (Or.inl (by decide)) h1 | exact dig_no (txt_dig (n := y) hy) (Or.inr (by decide)) h1
/-- The six words ahead. -/
def six6 (i : Int) (k : Nat) (x y h : Int) : List (List UInt8) := [(txt i).data.toList, (wd k).data.toList, [97, 116], (txt x ++ ⟨#[44]⟩ ++ txt y : ByteArray).data.toList, [104, 105, 116, 115], (txt h).data.toList]
theorem words_hd {i x y h : Int} {k : Nat} (hi : 0 ≤ i) (hx : 0 ≤ x) (hy : 0 ≤ y) (hh : 0 ≤ h) : pieces 32 (hdT i k x y h).data.toList [] = six6 i k x y h := by
  rw [hd_list', pieces_cut 32 _ _ _ (dig_no (txt_dig hi) (Or.inl (by decide))), pieces_cut 32 _ _ _ (wd_no k).1, pieces_cut 32 _ _ _ (by decide), pieces_cut 32 _ _ _ (place_no hx hy).1, pieces_cut 32 _ _ _ (by decide), pieces_last 32 _ _ (dig_no (txt_dig hh) (Or.inl (by decide)))]
  rfl
theorem words_tl {i x y h l : Int} {k : Nat} (hi : 0 ≤ i) (hx : 0 ≤ x) (hy : 0 ≤ y) (hh : 0 ≤ h) (hl : 0 ≤ l) :
    pieces 32 (hdT i k x y h ++ ⟨#[32, 108, 111, 115, 116, 32]⟩ ++ txt l : ByteArray).data.toList [] = six6 i k x y h ++ [[108, 111, 115, 116], (txt l).data.toList] := by
  have e : (hdT i k x y h ++ ⟨#[32, 108, 111, 115, 116, 32]⟩ ++ txt l : ByteArray).data.toList = (txt i).data.toList ++ 32 :: ((wd k).data.toList ++ 32 :: ([97, 116] ++ 32 :: ((txt x ++ ⟨#[44]⟩ ++ txt y : ByteArray).data.toList ++ 32 :: ([104, 105, 116, 115] ++ 32 :: ((txt h).data.toList ++ 32 :: ([108, 111, 115, 116] ++ 32 :: (txt l).data.toList)))))) := by
    rw [aid.str_app, aid.str_app, hd_list']
    simp
  rw [e, pieces_cut 32 _ _ _ (dig_no (txt_dig hi) (Or.inl (by decide))), pieces_cut 32 _ _ _ (wd_no k).1, pieces_cut 32 _ _ _ (by decide), pieces_cut 32 _ _ _ (place_no hx hy).1, pieces_cut 32 _ _ _ (by decide), pieces_cut 32 _ _ _ (dig_no (txt_dig hh) (Or.inl (by decide))), pieces_cut 32 _ _ _ (by decide), pieces_last 32 _ _ (dig_no (txt_dig hl) (Or.inl (by decide)))]
  rfl
theorem comma {x y : Int} (hx : 0 ≤ x) (hy : 0 ≤ y) : pieces 44 (txt x ++ ⟨#[44]⟩ ++ txt y : ByteArray).data.toList [] = [(txt x).data.toList, (txt y).data.toList] := by
  have e : (txt x ++ ⟨#[44]⟩ ++ txt y : ByteArray).data.toList = (txt x).data.toList ++ 44 :: (txt y).data.toList := by
    rw [aid.str_app, aid.str_app]; simp
  rw [e, pieces_cut 44 _ _ _ (dig_no (txt_dig hx) (Or.inl (by decide))), pieces_last 44 _ _ (dig_no (txt_dig hy) (Or.inl (by decide)))]
  rfl
theorem comma_cut {x y : Int} (hx : 0 ≤ x) : Lib.cut (txt x ++ ⟨#[44]⟩ ++ txt y : ByteArray).data.toList [44] = ((txt x).data.toList, (txt y).data.toList, true) := by
  have e : (txt x ++ ⟨#[44]⟩ ++ txt y : ByteArray).data.toList = (txt x).data.toList ++ ([44] ++ (txt y).data.toList) := by
    rw [aid.str_app, aid.str_app]; simp
  rw [e]
  exact cut_at (dig_no (txt_dig hx) (Or.inl (by decide)))
/-- Where the second byte of the word does not occur before it. -/
theorem index_at2 {c d : UInt8} {sep m : List UInt8} (hcd : d ≠ c) : ∀ {l : List UInt8}, d ∉ l → Lib.index (l ++ ((c :: d :: sep) ++ m)) (c :: d :: sep) = l.length
  | [], _ => by
    show Lib.index ((c :: d :: sep) ++ m) (c :: d :: sep) = 0
    rw [List.cons_append, Lib.index, if_pos]
    rw [← List.cons_append, List.isPrefixOf_iff_prefix]
    exact List.prefix_append _ _
  | b :: l, h => by
    have ih := index_at2 (sep := sep) (m := m) hcd (l := l) (fun e => h (List.mem_cons_of_mem _ e))
    have hn : ¬ (c :: d :: sep).isPrefixOf (b :: (l ++ ((c :: d :: sep) ++ m))) = true := by
      cases l with
      | nil => simp [List.isPrefixOf, hcd]
      | cons b2 l =>
        have : d ≠ b2 := fun e => h (by simp [e])
        simp [List.isPrefixOf, this]
    rw [List.cons_append, Lib.index, if_neg hn, ih, if_neg]
    · simp
    · first | omega | simp
theorem index_no {c d : UInt8} {sep : List UInt8} : ∀ {l : List UInt8}, d ∉ l → Lib.index l (c :: d :: sep) = -1
  | [], _ => by rfl
  | b :: l, h => by
    have ih := index_no (c := c) (sep := sep) (l := l) (fun e => h (List.mem_cons_of_mem _ e))
    have hn : ¬ (c :: d :: sep).isPrefixOf (b :: l) = true := by
      cases l with
      | nil => simp [List.isPrefixOf]
      | cons b2 l =>
        have : d ≠ b2 := fun e => h (by simp [e])
        simp [List.isPrefixOf, this]
    rw [Lib.index, if_neg hn, ih, if_pos (by decide)]
theorem cut_at2 {c d : UInt8} {sep l m : List UInt8} (hcd : d ≠ c) (h : d ∉ l) : Lib.cut (l ++ ((c :: d :: sep) ++ m)) (c :: d :: sep) = (l, m, true) := by
  unfold Lib.cut
  rw [index_at2 hcd h, if_pos (by omega)]
  have e : ((l.length : Int)).toNat = l.length := by omega
  rw [e, List.take_left, ← List.append_assoc, List.drop_left' (by simp)]
theorem cut_no {c d : UInt8} {sep l : List UInt8} (h : d ∉ l) : Lib.cut l (c :: d :: sep) = (l, [], false) := by
  unfold Lib.cut
  rw [index_no h, if_neg (by decide)]
theorem hd_no {i x y h : Int} {k : Nat} (hi : 0 ≤ i) (hx : 0 ≤ x) (hy : 0 ≤ y) (hh : 0 ≤ h) : (108 : UInt8) ∉ (hdT i k x y h).data.toList := by
  rw [hd_list']
  simp only [List.mem_append, List.mem_cons]
  rintro (h1 | h1 | h1 | h1 | h1 | h1 | h1 | h1 | h1 | h1 | h1)
  all_goals first
    | exact dig_no (txt_dig hi) (Or.inr (by decide)) h1
    | exact dig_no (txt_dig hh) (Or.inr (by decide)) h1
    | exact (wd_no k).2 h1
    | exact (place_no hx hy).2 h1
    | (revert h1; decide)
theorem lost_cut {i x y h l : Int} {k : Nat} (hi : 0 ≤ i) (hx : 0 ≤ x) (hy : 0 ≤ y) (hh : 0 ≤ h) :
    Lib.cut (hdT i k x y h ++ ⟨#[32, 108, 111, 115, 116, 32]⟩ ++ txt l : ByteArray).data.toList [32, 108, 111, 115, 116, 32] = ((hdT i k x y h).data.toList, (txt l).data.toList, true) := by
  have e : (hdT i k x y h ++ ⟨#[32, 108, 111, 115, 116, 32]⟩ ++ txt l : ByteArray).data.toList = (hdT i k x y h).data.toList ++ ((32 :: 108 :: [111, 115, 116, 32]) ++ (txt l).data.toList) := by
    rw [aid.str_app, aid.str_app, List.append_assoc]
  rw [e]
  exact cut_at2 (by decide) (hd_no hi hx hy hh)
theorem lost_no {i x y h : Int} {k : Nat} (hi : 0 ≤ i) (hx : 0 ≤ x) (hy : 0 ≤ y) (hh : 0 ≤ h) :
    Lib.cut (hdT i k x y h).data.toList [32, 108, 111, 115, 116, 32] = ((hdT i k x y h).data.toList, [], false) := cut_no (hd_no hi hx hy hh)

/-- What impl.readTrack reads. -/
def rB (t : ByteArray) : List UInt8 := (Lib.cut t.data.toList [32, 108, 111, 115, 116, 32]).1
def rO (t : ByteArray) : List UInt8 := (Lib.cut t.data.toList [32, 108, 111, 115, 116, 32]).2.1
def rW (t : ByteArray) : List (List UInt8) := pieces 32 (rB t) []
def rK (t : ByteArray) : Bool := decide ((rW t).length = 6)
def rP (t : ByteArray) : List UInt8 × List UInt8 × Bool := Lib.cut ((rW t).getD 3 []) [44]
def rI (t : ByteArray) : Int := if rK t then rdN ⟨((rW t).getD 0 []).toArray⟩ else 0
def rX (t : ByteArray) : Int := if rK t then rdN ⟨(rP t).1.toArray⟩ else 0
def rY (t : ByteArray) : Int := if rK t then rdN ⟨(rP t).2.1.toArray⟩ else 0
def rH (t : ByteArray) : Int := if rK t then rdN ⟨((rW t).getD 5 []).toArray⟩ else 0
def rL (t : ByteArray) : Int := if rK t then rdN ⟨(rO t).toArray⟩ else 0
def rS (t : ByteArray) : Int := if rK t then sw (rH t) (rL t) else 0
theorem rdN_empty : rdN ⟨#[]⟩ = 0 := by decide +kernel
/-- A track's line is read as the track. -/
theorem rd_text {i s x y h l : Int} {t : ByteArray} (hh : tkB i s x y h l = true) (ht : tlT i s x y h l = t) : rK t = true ∧ rI t = i ∧ rS t = s ∧ rX t = x ∧ rY t = y ∧ rH t = h ∧ rL t = l := by
  obtain ⟨hi, hp, h4, hl, -, hs⟩ := tkB_yes hh
  obtain ⟨hx, hy⟩ := pB_yes hp
  have E : rB t = (hdT i s.toNat x y h).data.toList ∧ rdN ⟨(rO t).toArray⟩ = l := by
    by_cases hz : l = 0
    · rw [tl_zero hz] at ht
      unfold rB rO
      rw [← ht, lost_no (by omega) hx.1 hy.1 (by omega)]
      exact ⟨rfl, rdN_empty.trans hz.symm⟩
    · rw [tl_lost hz] at ht
      unfold rB rO
      rw [← ht, lost_cut (by omega) hx.1 hy.1 (by omega)]
      exact ⟨rfl, (hgtt.rdN_txt (by omega) (by omega)).2⟩
  have EW : rW t = six6 i s.toNat x y h := by
    unfold rW
    rw [E.1]
    exact words_hd (by omega) hx.1 hy.1 (by omega)
  have EK : rK t = true := by unfold rK; rw [EW]; rfl
  have EP : rP t = ((txt x).data.toList, (txt y).data.toList, true) := by
    unfold rP; rw [EW]; exact comma_cut hx.1
  have EH : rH t = h := by unfold rH; rw [EK, EW]; exact (hgtt.rdN_txt (by omega) (by omega)).2
  have EL : rL t = l := by unfold rL; rw [EK]; exact E.2
  refine ⟨EK, ?_, ?_, ?_, ?_, EH, EL⟩
  · unfold rI; rw [EK, EW]; exact (hgtt.rdN_txt (by omega) (by omega)).2
  · unfold rS; rw [EK, EH, EL]; exact hs.symm
  · unfold rX; rw [EK, EP]; exact (hgtt.rdN_txt (by omega) (by omega)).2
  · unfold rY; rw [EK, EP]; exact (hgtt.rdN_txt (by omega) (by omega)).2
/-- Whether a text is a track's line; what ParseTrackLine returns. -/
def ptB (t : ByteArray) : Bool := tkB (rI t) (rS t) (rX t) (rY t) (rH t) (rL t) && ((tlT (rI t) (rS t) (rX t) (rY t) (rH t) (rL t)).toList == t.toList)
theorem pt_yes {t : ByteArray} (h : ptB t = true) : tkB (rI t) (rS t) (rX t) (rY t) (rH t) (rL t) = true ∧ tlT (rI t) (rS t) (rX t) (rY t) (rH t) (rL t) = t := by
  unfold ptB at h
  rw [Bool.and_eq_true] at h
  exact ⟨h.1, str_of h.2⟩
theorem pt_text {i s x y h l : Int} {t : ByteArray} (hh : tkB i s x y h l = true) (ht : tlT i s x y h l = t) : ptB t = true ∧ rI t = i ∧ rS t = s ∧ rX t = x ∧ rY t = y ∧ rH t = h ∧ rL t = l := by
  obtain ⟨-, h1, h2, h3, h4, h5, h6⟩ := rd_text hh ht
  refine ⟨?_, h1, h2, h3, h4, h5, h6⟩
  unfold ptB
  rw [h1, h2, h3, h4, h5, h6, hh, ht]
  simp
/-- What impl's comparison tells. -/
theorem pt_is (t : ByteArray) : ptB t = (tkB (rI t) (rS t) (rX t) (rY t) (rH t) (rL t) && ((tlV (rI t) (rS t) (rX t) (rY t) (rH t) (rL t)).toList == t.toList)) := by
  unfold ptB tlV
  cases tkB (rI t) (rS t) (rX t) (rY t) (rH t) (rL t) <;> rfl
def pI (t : ByteArray) : Int := if ptB t then rI t else 0
def pS (t : ByteArray) : Int := if ptB t then rS t else 0
def pX (t : ByteArray) : Int := if ptB t then rX t else 0
def pY (t : ByteArray) : Int := if ptB t then rY t else 0
def pH (t : ByteArray) : Int := if ptB t then rH t else 0
def pL (t : ByteArray) : Int := if ptB t then rL t else 0
theorem p_no {t : ByteArray} (h : ptB t = false) : pI t = 0 ∧ pS t = 0 ∧ pX t = 0 ∧ pY t = 0 ∧ pH t = 0 ∧ pL t = 0 := by unfold pI pS pX pY pH pL; rw [h]; exact ⟨rfl, rfl, rfl, rfl, rfl, rfl⟩
theorem p_yes {t : ByteArray} (h : ptB t = true) : pI t = rI t ∧ pS t = rS t ∧ pX t = rX t ∧ pY t = rY t ∧ pH t = rH t ∧ pL t = rL t := by unfold pI pS pX pY pH pL; rw [h]; exact ⟨rfl, rfl, rfl, rfl, rfl, rfl⟩
end Go.Proofs.YtedocpocfpopgaaDoor.trkr
