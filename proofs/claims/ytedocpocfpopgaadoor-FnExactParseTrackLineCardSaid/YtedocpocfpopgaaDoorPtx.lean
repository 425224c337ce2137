/- The texts of plots, in plain mathematics (no program in it). -/
import Derived.Test.YtedocpocfpopgaaDoorPltM
import Derived.Test.YtedocpocfpopgaaDoorHgtT
import Derived.Test.YtedocpocfpopgaaDoorSplit
import Derived.Lib.CutLaws
namespace Go.Proofs.YtedocpocfpopgaaDoor.ptx
open Go.RowKit Go.Proofs.YtedocpocfpopgaaDoor.num Go.Proofs.YtedocpocfpopgaaDoor.read Go.Proofs.YtedocpocfpopgaaDoor.split_ Go.Proofs.YtedocpocfpopgaaDoor.pos Go.Proofs.YtedocpocfpopgaaDoor.plt Go.Proofs.YtedocpocfpopgaaDoor.pltm

/-- A text with the decimal texts of the first numbers of a list behind it. -/
def dgT (t : ByteArray) (xs : List Int) : Nat → ByteArray
  | 0 => t
  | k + 1 => dgT t xs k ++ txt (xs.getD k 0)
def hd (s a x y : Int) : ByteArray := txt s ++ ⟨#[58, 32]⟩ ++ txt a ++ ⟨#[32, 97, 116, 32]⟩ ++ txt x ++ ⟨#[47]⟩ ++ txt y ++ ⟨#[32, 98, 121, 32]⟩
def ptxT (s a x y : Int) (xs : List Int) (n : Nat) : ByteArray := dgT (hd s a x y) xs n
/-- What PlotText returns. -/
def ptV (s a x y : Int) (xs : List Int) (n : Nat) : ByteArray := if plB s a x y xs n then ptxT s a x y xs n else ⟨#[]⟩
theorem pt_no {s a x y : Int} {xs : List Int} {n : Nat} (h : plB s a x y xs n = false) : Ending.returned (.tuple #[.string ⟨#[]⟩, .bool false]) = .returned (.tuple #[.string (ptV s a x y xs n), .bool (plB s a x y xs n)]) := by unfold ptV; rw [h]; rfl
theorem pt_yes {s a x y : Int} {xs : List Int} {n : Nat} (h : plB s a x y xs n = true) : Ending.returned (.tuple #[.string (ptxT s a x y xs n), .bool true]) = .returned (.tuple #[.string (ptV s a x y xs n), .bool (plB s a x y xs n)]) := by unfold ptV; rw [h]; rfl

/-- Sizes. -/
theorem txt_dec {n : Int} (h0 : 0 ≤ n) : (txt n).data.toList = Lib.decDigits n.toNat := by
  show Lib.itoa n = _
  unfold Lib.itoa
  rw [if_neg (by omega)]
theorem len_list (s : ByteArray) : s.data.toList.length = s.size := by simp [← ByteArray.size_data]
theorem txt_len {n : Int} (h0 : 0 ≤ n) (h1 : n ≤ 999999) : 1 ≤ (txt n).data.toList.length ∧ (txt n).data.toList.length ≤ 6 := by
  rw [txt_dec h0]
  exact dec_len 6 _ (by omega) (by omega)
theorem txt_dig {n : Int} (h0 : 0 ≤ n) : allDig (txt n).data.toList := by
  rw [txt_dec h0]
  exact (dec_facts _).2
theorem dig_no {l : List UInt8} (h : allDig l) {c : UInt8} (hc : c.toNat < 48 ∨ 57 < c.toNat) : c ∉ l := fun hm => by
  have := h c hm
  omega
theorem hd_list (s a x y : Int) : (hd s a x y).data.toList = (txt s).data.toList ++ ([58, 32] ++ ((txt a).data.toList ++ ([32, 97, 116, 32] ++ ((txt x).data.toList ++ ([47] ++ ((txt y).data.toList ++ [32, 98, 121, 32])))))) := by
  unfold hd
  rw [aid.str_app, aid.str_app, aid.str_app, aid.str_app, aid.str_app, aid.str_app, aid.str_app]
  simp
theorem hd_size {s a x y : Int} (hs : 0 ≤ s ∧ s ≤ 999999) (ha : 0 ≤ a ∧ a ≤ 999999) (hx : 0 ≤ x ∧ x ≤ 999999) (hy : 0 ≤ y ∧ y ≤ 999999) : 12 ≤ (hd s a x y).size ∧ (hd s a x y).size ≤ 35 := by
  have h1 := txt_len hs.1 hs.2
  have h2 := txt_len ha.1 ha.2
  have h3 := txt_len hx.1 hx.2
  have h4 := txt_len hy.1 hy.2
  rw [← len_list, hd_list]
  simp only [List.length_append, List.length_cons, List.length_nil]
  omega
/-- A digit's text. -/
def dgc (z : Int) : UInt8 := UInt8.ofNat (48 + z.toNat)
theorem fin_dig : ∀ k : Fin 10, (txt (k.val : Int)).data.toList = [UInt8.ofNat (48 + k.val)] := by decide +kernel
theorem one_dig {z : Int} (h0 : 0 ≤ z) (h1 : z ≤ 9) : (txt z).data.toList = [dgc z] := by
  obtain ⟨k, rfl⟩ := Int.eq_ofNat_of_zero_le h0
  exact fin_dig ⟨k, by omega⟩
theorem dgc_nat {z : Int} (h0 : 0 ≤ z) (h1 : z ≤ 9) : (dgc z).toNat = 48 + z.toNat := byte_digit z.toNat (by omega)
theorem dg_list {t : ByteArray} {xs : List Int} : ∀ n, n ≤ xs.length → (∀ k, k < n → 1 ≤ xs.getD k 0 ∧ xs.getD k 0 ≤ 9) → (dgT t xs n).data.toList = t.data.toList ++ (xs.take n).map dgc
  | 0, _, _ => by simp [dgT]
  | n + 1, hn, h => by
    have hx := h n (by omega)
    have hg : xs[n]? = some (xs.getD n 0) := by rw [List.getD_eq_getElem?_getD, List.getElem?_eq_getElem (by omega)]; rfl
    rw [dgT, aid.str_app, dg_list n (by omega) (fun k hk => h k (by omega)), one_dig (by omega) hx.2, List.take_add_one, hg]
    simp
theorem dg_size {t : ByteArray} {xs : List Int} {n : Nat} (hn : n ≤ xs.length) (h : riT xs n = true) : ∀ k, k ≤ n → (dgT t xs k).size = t.size + k := by
  intro k hk
  rw [← len_list, dg_list k (by omega) (fun j hj => (riT_all h j (by omega)).1), List.length_append, List.length_map, List.length_take, len_list]
  omega
theorem ptx_list {s a x y : Int} {xs : List Int} {n : Nat} (hl : xs.length = n) (h : plB s a x y xs n = true) :
    (ptxT s a x y xs n).data.toList = (txt s).data.toList ++ ([58, 32] ++ ((txt a).data.toList ++ ([32, 97, 116, 32] ++ ((txt x).data.toList ++ ([47] ++ ((txt y).data.toList ++ ([32, 98, 121, 32] ++ xs.map dgc))))))) := by
  obtain ⟨_, _, _, _, hr⟩ := plB_yes h
  unfold ptxT
  rw [dg_list n (by omega) (fun k hk => (riT_all hr k hk).1), hd_list, ← hl, List.take_length]
  simp
theorem ptx_size {s a x y : Int} {xs : List Int} {n : Nat} (hl : xs.length = n) (h : plB s a x y xs n = true) : (ptxT s a x y xs n).size ≤ 60 := by
  obtain ⟨hs, ha, hp, hn, hr⟩ := plB_yes h
  unfold ptxT
  rw [dg_size (by omega) hr n (Nat.le_refl _)]
  have := (hd_size (s := s) (a := a) (x := x) (y := y) (by omega) (by omega) (by omega) (by omega)).2
  omega

/-- Cutting at a word whose first byte does not occur before it. -/
theorem index_at {c : UInt8} {sep m : List UInt8} : ∀ {l : List UInt8}, c ∉ l → Lib.index (l ++ ((c :: sep) ++ m)) (c :: sep) = l.length
  | [], _ => by
    show Lib.index ((c :: sep) ++ m) (c :: sep) = 0
    rw [List.cons_append, Lib.index, if_pos]
    rw [← List.cons_append, List.isPrefixOf_iff_prefix]
    exact List.prefix_append _ _
  | b :: l, h => by
    have hb : b ≠ c := fun e => h (by simp [e])
    have ih := index_at (sep := sep) (m := m) (l := l) (fun e => h (List.mem_cons_of_mem _ e))
    rw [List.cons_append, Lib.index, if_neg, ih, if_neg]
    · simp
    · simp
    · simp [List.isPrefixOf, hb.symm]
theorem cut_at {c : UInt8} {sep l m : List UInt8} (h : c ∉ l) : Lib.cut (l ++ ((c :: sep) ++ m)) (c :: sep) = (l, m, true) := by
  unfold Lib.cut
  rw [index_at h, if_pos (by omega)]
  have e : ((l.length : Int)).toNat = l.length := by omega
  rw [e, List.take_left, ← List.append_assoc, List.drop_left' (by simp)]

/-- What impl.readPlot reads. -/
def k1 (t : ByteArray) : List UInt8 × List UInt8 × Bool := Lib.cut t.data.toList [58, 32]
def k2 (t : ByteArray) : List UInt8 × List UInt8 × Bool := Lib.cut (k1 t).2.1 [32, 97, 116, 32]
def k3 (t : ByteArray) : List UInt8 × List UInt8 × Bool := Lib.cut (k2 t).2.1 [47]
def k4 (t : ByteArray) : List UInt8 × List UInt8 × Bool := Lib.cut (k3 t).2.1 [32, 98, 121, 32]
def st (l : List UInt8) : List Int := l.map fun c => (c.toNat : Int) - 48
def rS (t : ByteArray) : Int := rdN ⟨(k1 t).1.toArray⟩
def rA (t : ByteArray) : Int := rdN ⟨(k2 t).1.toArray⟩
def rX (t : ByteArray) : Int := rdN ⟨(k3 t).1.toArray⟩
def rY (t : ByteArray) : Int := rdN ⟨(k4 t).1.toArray⟩
def rD (l : List UInt8) : List Int := if l.length ≤ 9 then st l else []
def rL (t : ByteArray) : List Int := rD (k4 t).2.1
def ppB (t : ByteArray) : Bool := plB (rS t) (rA t) (rX t) (rY t) (rL t) (rL t).length && ((ptxT (rS t) (rA t) (rX t) (rY t) (rL t) (rL t).length).toList == t.toList)
theorem st_dgc {xs : List Int} (h : ∀ z ∈ xs, 1 ≤ z ∧ z ≤ 9) : st (xs.map dgc) = xs := by
  unfold st
  rw [List.map_map]
  conv => rhs; rw [← List.map_id xs]
  refine List.map_congr_left fun z hz => ?_
  have := h z hz
  show ((dgc z).toNat : Int) - 48 = z
  rw [dgc_nat (by omega) this.2]
  omega
theorem ri_mem {xs : List Int} {n : Nat} (hl : xs.length = n) (h : riT xs n = true) : ∀ z ∈ xs, 1 ≤ z ∧ z ≤ 9 := by
  intro z hz
  obtain ⟨k, hk⟩ := List.mem_iff_getElem?.1 hz
  have hlt : k < n := by have := (List.getElem?_eq_some_iff.1 hk).1; omega
  have := (riT_all h k hlt).1
  rw [List.getD_eq_getElem?_getD, hk] at this
  exact this
/-- A plot's text is read as the plot. -/
theorem rd_text {s a x y : Int} {xs : List Int} {n : Nat} (hl : xs.length = n) (h : plB s a x y xs n = true) :
    rS (ptxT s a x y xs n) = s ∧ rA (ptxT s a x y xs n) = a ∧ rX (ptxT s a x y xs n) = x ∧ rY (ptxT s a x y xs n) = y ∧ rL (ptxT s a x y xs n) = xs := by
  obtain ⟨hs, ha, hp, hn, hr⟩ := plB_yes h
  have e := ptx_list hl h
  have w1 := dig_no (txt_dig (n := s) hs.1) (c := 58) (Or.inr (by decide))
  have w2 := dig_no (txt_dig (n := a) (by omega)) (c := 32) (Or.inl (by decide))
  have w3 := dig_no (txt_dig (n := x) (by omega)) (c := 47) (Or.inl (by decide))
  have w4 := dig_no (txt_dig (n := y) (by omega)) (c := 32) (Or.inl (by decide))
  have e1 : k1 (ptxT s a x y xs n) = ((txt s).data.toList, ((txt a).data.toList ++ ([32, 97, 116, 32] ++ ((txt x).data.toList ++ ([47] ++ ((txt y).data.toList ++ ([32, 98, 121, 32] ++ xs.map dgc)))))), true) := by
    unfold k1; rw [e]; exact cut_at w1
  have e2 : k2 (ptxT s a x y xs n) = ((txt a).data.toList, ((txt x).data.toList ++ ([47] ++ ((txt y).data.toList ++ ([32, 98, 121, 32] ++ xs.map dgc)))), true) := by
    unfold k2; rw [e1]; exact cut_at w2
  have e3 : k3 (ptxT s a x y xs n) = ((txt x).data.toList, ((txt y).data.toList ++ ([32, 98, 121, 32] ++ xs.map dgc)), true) := by
    unfold k3; rw [e2]; exact cut_at w3
  have e4 : k4 (ptxT s a x y xs n) = ((txt y).data.toList, xs.map dgc, true) := by
    unfold k4; rw [e3]; exact cut_at w4
  refine ⟨?_, ?_, ?_, ?_, ?_⟩
  · unfold rS; rw [e1]; exact (hgtt.rdN_txt (by omega) (by omega)).2
  · unfold rA; rw [e2]; exact (hgtt.rdN_txt (by omega) (by omega)).2
  · unfold rX; rw [e3]; exact (hgtt.rdN_txt (by omega) (by omega)).2
  · unfold rY; rw [e4]; exact (hgtt.rdN_txt (by omega) (by omega)).2
  · unfold rL rD; rw [e4, if_pos (by simp; omega)]; exact st_dgc (ri_mem hl hr)
theorem str_of {t u : ByteArray} (h : (t.toList == u.toList) = true) : t = u := aid.str_ext (by rw [beq_iff_eq, Lib.toList_data, Lib.toList_data] at h; exact h)
theorem pp_text {s a x y : Int} {xs : List Int} {n : Nat} {t : ByteArray} (hl : xs.length = n) (h : plB s a x y xs n = true) (ht : ptxT s a x y xs n = t) :
    ppB t = true ∧ rS t = s ∧ rA t = a ∧ rX t = x ∧ rY t = y ∧ rL t = xs := by
  subst ht
  obtain ⟨h1, h2, h3, h4, h5⟩ := rd_text hl h
  refine ⟨?_, h1, h2, h3, h4, h5⟩
  unfold ppB
  rw [h1, h2, h3, h4, h5, hl, h]
  simp
theorem pp_yes {t : ByteArray} (h : ppB t = true) : plB (rS t) (rA t) (rX t) (rY t) (rL t) (rL t).length = true ∧ ptxT (rS t) (rA t) (rX t) (rY t) (rL t) (rL t).length = t := by
  unfold ppB at h
  rw [Bool.and_eq_true] at h
  exact ⟨h.1, str_of h.2⟩
/-- What ParsePlot returns. -/
def pS (t : ByteArray) : Int := if ppB t then rS t else 0
def pA (t : ByteArray) : Int := if ppB t then rA t else 0
def pX (t : ByteArray) : Int := if ppB t then rX t else 0
def pY (t : ByteArray) : Int := if ppB t then rY t else 0
def pL (t : ByteArray) : List Int := if ppB t then rL t else []
theorem p_no {t : ByteArray} (h : ppB t = false) : pS t = 0 ∧ pA t = 0 ∧ pX t = 0 ∧ pY t = 0 ∧ pL t = [] := by unfold pS pA pX pY pL; rw [h]; exact ⟨rfl, rfl, rfl, rfl, rfl⟩
theorem p_yes {t : ByteArray} (h : ppB t = true) : pS t = rS t ∧ pA t = rA t ∧ pX t = rX t ∧ pY t = rY t ∧ pL t = rL t := by unfold pS pA pX pY pL; rw [h]; exact ⟨rfl, rfl, rfl, rfl, rfl⟩
theorem st_size {l : List UInt8} : (st l).length = l.length := by simp [st]

/-- The words of a plot's text. -/
theorem pieces_last (b : UInt8) : ∀ (l cur : List UInt8), b ∉ l → pieces b l cur = [cur ++ l]
  | [], cur, _ => by simp [pieces]
  | c :: l, cur, h => by
    rw [pieces, if_neg (fun e => h (by simp [e])), pieces_last b l (cur ++ [c]) (fun e => h (List.mem_cons_of_mem _ e))]
    simp
theorem pieces_cut (b : UInt8) (m : List UInt8) : ∀ (l cur : List UInt8), b ∉ l → pieces b (l ++ b :: m) cur = (cur ++ l) :: pieces b m []
  | [], cur, _ => by simp [pieces]
  | c :: l, cur, h => by
    rw [List.cons_append, pieces, if_neg (fun e => h (by simp [e])), pieces_cut b m l (cur ++ [c]) (fun e => h (List.mem_cons_of_mem _ e))]
    simp
theorem dgc_no {xs : List Int} (h : ∀ z ∈ xs, 1 ≤ z ∧ z ≤ 9) : (32 : UInt8) ∉ xs.map dgc := fun hm => by
  obtain ⟨z, hz, e⟩ := List.mem_map.1 hm
  have h1 := h z hz
  have h2 := dgc_nat (z := z) (by omega) h1.2
  rw [e] at h2
  simp at h2
  omega
theorem words {s a x y : Int} {xs : List Int} {n : Nat} (hl : xs.length = n) (h : plB s a x y xs n = true) :
    pieces 32 (ptxT s a x y xs n).data.toList [] = [(txt s ++ ⟨#[58]⟩ : ByteArray).data.toList, (txt a).data.toList, [97, 116], (txt x ++ ⟨#[47]⟩ ++ txt y : ByteArray).data.toList, [98, 121], xs.map dgc] := by
  obtain ⟨hs, ha, hp, hn, hr⟩ := plB_yes h
  have e : (ptxT s a x y xs n).data.toList = (txt s ++ ⟨#[58]⟩ : ByteArray).data.toList ++ 32 :: ((txt a).data.toList ++ 32 :: ([97, 116] ++ 32 :: ((txt x ++ ⟨#[47]⟩ ++ txt y : ByteArray).data.toList ++ 32 :: ([98, 121] ++ 32 :: xs.map dgc)))) := by
    rw [ptx_list hl h, aid.str_app, aid.str_app, aid.str_app]
    simp
  have w0 : (32 : UInt8) ∉ (txt s ++ ⟨#[58]⟩ : ByteArray).data.toList := by
    rw [aid.str_app, List.mem_append]
    rintro (h1 | h1)
    · exact dig_no (txt_dig hs.1) (Or.inl (by decide)) h1
    · revert h1; decide
  have w1 := dig_no (txt_dig (n := a) (by omega)) (c := 32) (Or.inl (by decide))
  have w3 : (32 : UInt8) ∉ (txt x ++ ⟨#[47]⟩ ++ txt y : ByteArray).data.toList := by
    rw [aid.str_app, aid.str_app, List.mem_append, List.mem_append]
    rintro ((h1 | h1) | h1)
    · exact dig_no (txt_dig (n := x) (by omega)) (Or.inl (by decide)) h1
    · revert h1; decide
    · exact dig_no (txt_dig (n := y) (by omega)) (Or.inl (by decide)) h1
  rw [e, pieces_cut 32 _ _ _ w0, pieces_cut 32 _ _ _ w1, pieces_cut 32 _ _ _ (by decide), pieces_cut 32 _ _ _ w3, pieces_cut 32 _ _ _ (by decide), pieces_last 32 _ _ (dgc_no (ri_mem hl hr))]
  rfl
theorem places {x y : Int} (hx : 0 ≤ x) (hy : 0 ≤ y) : pieces 47 (txt x ++ ⟨#[47]⟩ ++ txt y : ByteArray).data.toList [] = [(txt x).data.toList, (txt y).data.toList] := by
  have e : (txt x ++ ⟨#[47]⟩ ++ txt y : ByteArray).data.toList = (txt x).data.toList ++ 47 :: (txt y).data.toList := by
    rw [aid.str_app, aid.str_app]; simp
  rw [e, pieces_cut 47 _ _ _ (dig_no (txt_dig hx) (Or.inl (by decide))), pieces_last 47 _ _ (dig_no (txt_dig hy) (Or.inl (by decide)))]
  rfl
end Go.Proofs.YtedocpocfpopgaaDoor.ptx
