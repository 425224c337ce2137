/- Reading a velocity's text, in plain mathematics. -/
import Derived.Test.YtdeghpihcddlgaaDoorVelW
import Derived.Test.YtdeghpihcddlgaaDoorParse
import Derived.Test.YtdeghpihcddlgaaDoorSplit
namespace Go.Proofs.YtdeghpihcddlgaaDoor.velp
open Go.Proofs.YtdeghpihcddlgaaDoor.vel Go.Proofs.YtdeghpihcddlgaaDoor.num Go.Proofs.YtdeghpihcddlgaaDoor.read Go.Proofs.YtdeghpihcddlgaaDoor.velw Go.Proofs.YtdeghpihcddlgaaDoor.split_

def rv (t : ByteArray) (p m : UInt8) : Int := if Lib.hasSuffix t.data.toList [m] then -(rdN ⟨(Lib.trimSuffix t.data.toList [m]).toArray⟩) else rdN ⟨(Lib.trimSuffix t.data.toList [p]).toArray⟩
/-- Where the space is. -/
def ci (s : ByteArray) : Int := Lib.indexByte s.data.toList 32
def cN (s : ByteArray) : ByteArray := if 0 ≤ ci s then s.extract 0 (ci s).toNat else s
def cE (s : ByteArray) : ByteArray := if 0 ≤ ci s then s.extract ((ci s).toNat + 1) s.size else s
def rvX (s : ByteArray) : Int := rv (cE s) 69 87
def rvY (s : ByteArray) : Int := rv (cN s) 78 83
def pvB (s : ByteArray) : Bool := vB (rvX s) (rvY s) && ((vt (rvX s) (rvY s)).toList == s.toList)
def pvX (s : ByteArray) : Int := if pvB s then rvX s else 0
def pvY (s : ByteArray) : Int := if pvB s then rvY s else 0
theorem pv_no {s : ByteArray} (h : pvB s = false) : (Value.tuple #[.agg #[.int .i64 0, .int .i64 0], .bool false]) = .tuple #[.agg #[.int .i64 (pvX s), .int .i64 (pvY s)], .bool (pvB s)] := by unfold pvX pvY; rw [h]; rfl
theorem pv_yes {s : ByteArray} (h : pvB s = true) : (Value.tuple #[.agg #[.int .i64 (rvX s), .int .i64 (rvY s)], .bool true]) = .tuple #[.agg #[.int .i64 (pvX s), .int .i64 (pvY s)], .bool (pvB s)] := by unfold pvX pvY; rw [h]; rfl

/-- A word of the text. -/
def wd (t : ByteArray) : Option (UInt8 × Int) := if t.size < 2 then none else if rdB (t.extract 0 (t.size - 1)) then some (t.data.toList.getD (t.size - 1) 0, rdN (t.extract 0 (t.size - 1))) else none
def ap (c : UInt8) (n x y : Int) : Int × Int := if c = 78 then (x, n) else if c = 83 then (x, -n) else if c = 69 then (n, y) else if c = 87 then (-n, y) else (x, y)
def fw : List ByteArray → Int → Int → Option (Int × Int)
  | [], x, y => some (x, y)
  | t :: l, x, y => match wd t with
    | none => none
    | some (c, n) => fw l (ap c n x y).1 (ap c n x y).2
def okS (s : ByteArray) : Bool := decide (s.size ≤ 10) && !(s.toList == [48])
def FF (s : ByteArray) (xs : List ByteArray) : Option (Int × Int) := if okS s then fw xs 0 0 else some (0, 0)

theorem fin_len : ∀ k : Fin 401, (pt ((k.val : Int) - 200) 69 87).data.toList.length ≤ 4 ∧ (pt ((k.val : Int) - 200) 78 83).data.toList.length ≤ 4 ∧ (pt ((k.val : Int) - 200) 69 87).data.toList.contains 32 = false ∧ (pt ((k.val : Int) - 200) 78 83).data.toList.contains 32 = false := by decide +kernel
theorem fin_rv : ∀ k : Fin 401, rv (pt ((k.val : Int) - 200) 69 87) 69 87 = (k.val : Int) - 200 ∧ rv (pt ((k.val : Int) - 200) 69 87) 78 83 = 0 ∧ rv (pt ((k.val : Int) - 200) 78 83) 78 83 = (k.val : Int) - 200 ∧ rv (pt ((k.val : Int) - 200) 78 83) 69 87 = 0 := by decide +kernel
theorem fin_wd : ∀ k : Fin 401, k.val = 200 ∨ (wd (pt ((k.val : Int) - 200) 69 87) = some (if 200 < k.val then 69 else 87, ab ((k.val : Int) - 200)) ∧ wd (pt ((k.val : Int) - 200) 78 83) = some (if 200 < k.val then 78 else 83, ab ((k.val : Int) - 200)) ∧ (pt ((k.val : Int) - 200) 69 87).data.toList ≠ [48] ∧ (pt ((k.val : Int) - 200) 78 83).data.toList ≠ [48]) := by decide +kernel
theorem not_mem {l : List UInt8} {c : UInt8} (h : l.contains c = false) : c ∉ l := by simpa using h
theorem at_fin {x : Int} (h : -200 ≤ x ∧ x ≤ 200) : ∃ k : Fin 401, (k.val : Int) - 200 = x := ⟨⟨(x + 200).toNat, by omega⟩, by show ((x + 200).toNat : Int) - 200 = x; omega⟩
theorem len_in {x : Int} (h : -200 ≤ x ∧ x ≤ 200) : (pt x 69 87).data.toList.length ≤ 4 ∧ (pt x 78 83).data.toList.length ≤ 4 ∧ 32 ∉ (pt x 69 87).data.toList ∧ 32 ∉ (pt x 78 83).data.toList := by
  obtain ⟨k, rfl⟩ := at_fin h
  obtain ⟨h1, h2, h3, h4⟩ := fin_len k
  exact ⟨h1, h2, not_mem h3, not_mem h4⟩
theorem rv_in {x : Int} (h : -200 ≤ x ∧ x ≤ 200) : rv (pt x 69 87) 69 87 = x ∧ rv (pt x 69 87) 78 83 = 0 ∧ rv (pt x 78 83) 78 83 = x ∧ rv (pt x 78 83) 69 87 = 0 := by
  obtain ⟨k, rfl⟩ := at_fin h
  exact fin_rv k
theorem wd_in {x : Int} (h : -200 ≤ x ∧ x ≤ 200) (h0 : x ≠ 0) : (∀ u v, (wd (pt x 69 87)).map (fun q => ap q.1 q.2 u v) = some (x, v)) ∧ (∀ u v, (wd (pt x 78 83)).map (fun q => ap q.1 q.2 u v) = some (u, x)) ∧ (pt x 69 87).data.toList ≠ [48] ∧ (pt x 78 83).data.toList ≠ [48] := by
  obtain ⟨k, rfl⟩ := at_fin h
  rcases fin_wd k with hk | ⟨h1, h2, h3, h4⟩
  · omega
  · refine ⟨fun u v => ?_, fun u v => ?_, h3, h4⟩
    · rw [h1]
      by_cases hk : 200 < k.val
      · rw [if_pos hk, show ab ((k.val : Int) - 200) = (k.val : Int) - 200 by unfold ab; rw [if_neg (by omega)]]; rfl
      · rw [if_neg hk, show ab ((k.val : Int) - 200) = -((k.val : Int) - 200) by unfold ab; rw [if_pos (by omega)]]
        show some (- -((k.val : Int) - 200), v) = _
        rw [Int.neg_neg]
    · rw [h2]
      by_cases hk : 200 < k.val
      · rw [if_pos hk, show ab ((k.val : Int) - 200) = (k.val : Int) - 200 by unfold ab; rw [if_neg (by omega)]]; rfl
      · rw [if_neg hk, show ab ((k.val : Int) - 200) = -((k.val : Int) - 200) by unfold ab; rw [if_pos (by omega)]]
        show some (u, - -((k.val : Int) - 200)) = _
        rw [Int.neg_neg]

theorem ib_none {c : UInt8} : ∀ {l : List UInt8}, c ∉ l → Lib.indexByte l c = -1
  | [], _ => rfl
  | b :: l, h => by
    have h1 : (b == c) = false := beq_eq_false_iff_ne.2 (fun e => h (e ▸ List.mem_cons_self))
    have h2 := ib_none (l := l) (fun hm => h (List.mem_cons_of_mem _ hm))
    unfold Lib.indexByte
    rw [h1, h2]
    rfl
theorem ib_at {c : UInt8} {m : List UInt8} : ∀ {l : List UInt8}, c ∉ l → Lib.indexByte (l ++ c :: m) c = l.length
  | [], _ => by unfold Lib.indexByte; simp
  | b :: l, h => by
    have h1 : (b == c) = false := beq_eq_false_iff_ne.2 (fun e => h (e ▸ List.mem_cons_self))
    have h2 := ib_at (m := m) (l := l) (fun hm => h (List.mem_cons_of_mem _ hm))
    show Lib.indexByte (b :: (l ++ c :: m)) c = _
    unfold Lib.indexByte
    rw [h1, h2, if_neg (by simp), if_neg (by simp), List.length_cons]
    omega
theorem ci_none {s : ByteArray} (h : 32 ∉ s.data.toList) : cN s = s ∧ cE s = s := by
  have e : ci s = -1 := ib_none h
  unfold cN cE
  rw [e]
  exact ⟨if_neg (by omega), if_neg (by omega)⟩
theorem list_size (s : ByteArray) : s.size = s.data.toList.length := by rw [Array.length_toList]; rfl
theorem sub_list (s : ByteArray) (a b : Nat) : (s.extract a b).data.toList = (s.data.toList.drop a).take (b - a) := by
  obtain ⟨⟨l⟩⟩ := s
  rw [show (⟨⟨l⟩⟩ : ByteArray) = ByteArray.mk l.toArray from rfl, Go.ByteArray.extract_mk]
theorem ci_at {A B : ByteArray} (h : 32 ∉ A.data.toList) : cN (A ++ ⟨#[32]⟩ ++ B) = A ∧ cE (A ++ ⟨#[32]⟩ ++ B) = B := by
  have el : (A ++ ⟨#[32]⟩ ++ B : ByteArray).data.toList = A.data.toList ++ 32 :: B.data.toList := by rw [aid.str_app, aid.str_app, List.append_assoc]; rfl
  have e : ci (A ++ ⟨#[32]⟩ ++ B) = A.data.toList.length := by unfold ci; rw [el]; exact ib_at h
  have hsz : (A ++ ⟨#[32]⟩ ++ B : ByteArray).size = A.data.toList.length + 1 + B.data.toList.length := by rw [list_size, el, List.length_append, List.length_cons]; omega
  unfold cN cE
  rw [e, if_pos (by omega), if_pos (by omega), hsz]
  refine ⟨aid.str_ext ?_, aid.str_ext ?_⟩
  · rw [sub_list, el, List.drop_zero, Int.toNat_natCast, Nat.sub_zero, List.take_left' rfl]
  · rw [sub_list, el, Int.toNat_natCast, show A.data.toList ++ 32 :: B.data.toList = (A.data.toList ++ [32]) ++ B.data.toList by simp, List.drop_left' (by simp), List.take_of_length_le (by omega)]
theorem empty_app (t : ByteArray) : (⟨#[]⟩ : ByteArray) ++ t = t ∧ t ++ (⟨#[]⟩ : ByteArray) = t := ⟨aid.str_ext (by rw [aid.str_app, List.nil_append]), aid.str_ext (by rw [aid.str_app, List.append_nil])⟩
/-- The forms of a text. -/
theorem forms {x y : Int} : (x = 0 ∧ y = 0 ∧ vt x y = ⟨#[48]⟩) ∨ (x ≠ 0 ∧ y = 0 ∧ vt x y = pt x 69 87) ∨ (x = 0 ∧ y ≠ 0 ∧ vt x y = pt y 78 83) ∨ (x ≠ 0 ∧ y ≠ 0 ∧ vt x y = pt y 78 83 ++ ⟨#[32]⟩ ++ pt x 69 87) := by
  by_cases hx : x = 0
  · by_cases hy : y = 0
    · left; subst hx hy; exact ⟨rfl, rfl, rfl⟩
    · right; right; left
      refine ⟨hx, hy, ?_⟩
      rw [← vt_one (fun h => hy h.2) (Or.inl hx), hx, pt_zero, (empty_app _).2]
  · by_cases hy : y = 0
    · right; left
      refine ⟨hx, hy, ?_⟩
      rw [← vt_one (fun h => hx h.1) (Or.inr hy), hy, pt_zero, (empty_app _).1]
    · right; right; right
      exact ⟨hx, hy, (vt_two (fun h => h.elim hx hy)).symm⟩
theorem rest_back : rvX ⟨#[48]⟩ = 0 ∧ rvY ⟨#[48]⟩ = 0 := by decide +kernel
theorem back {x y : Int} (h : vB x y = true) : rvX (vt x y) = x ∧ rvY (vt x y) = y := by
  obtain ⟨hx, hy⟩ := vB_yes h
  have lx := len_in hx
  have ly := len_in hy
  have rx := rv_in hx
  have ry := rv_in hy
  rcases forms (x := x) (y := y) with ⟨e1, e2, e⟩ | ⟨e1, e2, e⟩ | ⟨e1, e2, e⟩ | ⟨e1, e2, e⟩
  · rw [e, e1, e2]; exact rest_back
  · rw [e]
    unfold rvX rvY
    rw [(ci_none lx.2.2.1).1, (ci_none lx.2.2.1).2, e2]
    exact ⟨rx.1, rx.2.1⟩
  · rw [e]
    unfold rvX rvY
    rw [(ci_none ly.2.2.2).1, (ci_none ly.2.2.2).2, e1]
    exact ⟨ry.2.2.2, ry.2.2.1⟩
  · rw [e]
    unfold rvX rvY
    rw [(ci_at ly.2.2.2).1, (ci_at ly.2.2.2).2]
    exact ⟨rx.1, ry.2.2.1⟩
theorem eq_of {a b : ByteArray} (h : (a.toList == b.toList) = true) : a = b := by
  have h2 := eq_of_beq h
  rw [Lib.toList_data, Lib.toList_data] at h2
  exact aid.str_ext h2
theorem pv_good {s : ByteArray} {x y : Int} (hv : vB x y = true) (ht : ((vt x y).toList == s.toList) = true) : pvB s = true ∧ rvX s = x ∧ rvY s = y := by
  obtain rfl := eq_of ht
  obtain ⟨e1, e2⟩ := back hv
  refine ⟨?_, e1, e2⟩
  unfold pvB
  rw [e1, e2, hv]
  simp
theorem pv_text {s : ByteArray} (h : pvB s = true) : vB (rvX s) (rvY s) = true ∧ s = vt (rvX s) (rvY s) := by
  unfold pvB at h
  rw [Bool.and_eq_true] at h
  exact ⟨h.1, (eq_of h.2).symm⟩
theorem one_of {xs : List ByteArray} {s : ByteArray} (h : xs.map (·.data.toList) = [s.data.toList]) : xs = [s] := by
  cases xs with
  | nil => simp at h
  | cons t l =>
    cases l with
    | nil => rw [List.map_cons, List.map_nil, List.cons.injEq] at h; rw [aid.str_ext h.1]
    | cons u l => simp at h
theorem two_of {xs : List ByteArray} {s t : ByteArray} (h : xs.map (·.data.toList) = [s.data.toList, t.data.toList]) : xs = [s, t] := by
  cases xs with
  | nil => simp at h
  | cons u l =>
    rw [List.map_cons, List.cons.injEq] at h
    rw [aid.str_ext h.1, one_of h.2]
theorem fw_cons {t : ByteArray} {l : List ByteArray} {x y u v : Int} (h : (wd t).map (fun q => ap q.1 q.2 x y) = some (u, v)) : fw (t :: l) x y = fw l u v := by
  have e : fw (t :: l) x y = match wd t with
    | none => none
    | some (c, n) => fw l (ap c n x y).1 (ap c n x y).2 := rfl
  rw [e]
  cases hw : wd t with
  | none => rw [hw] at h; cases h
  | some q =>
    rw [hw] at h
    have h2 : ap q.1 q.2 x y = (u, v) := Option.some.inj h
    show fw l (ap q.1 q.2 x y).1 (ap q.1 q.2 x y).2 = _
    rw [h2]
theorem ok_of {s : ByteArray} (h1 : s.data.toList.length ≤ 10) (h2 : s.data.toList ≠ [48]) : okS s = true := by
  unfold okS
  rw [list_size, decide_eq_true h1, Lib.toList_data, beq_eq_false_iff_ne.2 h2]
  rfl
theorem pieces_last (b : UInt8) : ∀ (l cur : List UInt8), b ∉ l → pieces b l cur = [cur ++ l]
  | [], cur, _ => by simp [pieces]
  | a :: l, cur, h => by
    have h1 : ¬ a = b := fun e => h (e ▸ List.mem_cons_self)
    rw [pieces, if_neg h1, pieces_last b l _ (fun hm => h (List.mem_cons_of_mem _ hm))]
    simp
theorem pieces_cut (b : UInt8) (m : List UInt8) : ∀ (l cur : List UInt8), b ∉ l → pieces b (l ++ b :: m) cur = (cur ++ l) :: pieces b m []
  | [], cur, _ => by simp [pieces]
  | a :: l, cur, h => by
    have h1 : ¬ a = b := fun e => h (e ▸ List.mem_cons_self)
    rw [List.cons_append, pieces, if_neg h1, pieces_cut b m l _ (fun hm => h (List.mem_cons_of_mem _ hm))]
    simp
theorem FF_text {x y : Int} (h : vB x y = true) {s : ByteArray} {xs : List ByteArray} (hs : s = vt x y) (hpc : xs.map (·.data.toList) = pieces 32 s.data.toList []) : FF s xs = some (x, y) := by
  obtain ⟨hx, hy⟩ := vB_yes h
  have lx := len_in hx
  have ly := len_in hy
  subst hs
  unfold FF
  rcases forms (x := x) (y := y) with ⟨e1, e2, e⟩ | ⟨e1, e2, e⟩ | ⟨e1, e2, e⟩ | ⟨e1, e2, e⟩
  · rw [e, show okS ⟨#[48]⟩ = false by decide +kernel, e1, e2]; rfl
  · obtain ⟨w1, -, n1, -⟩ := wd_in hx e1
    rw [e] at hpc ⊢
    rw [pieces_last 32 _ [] lx.2.2.1] at hpc
    rw [one_of hpc, ok_of (by omega) n1, if_pos rfl, fw_cons (w1 0 0), e2]
    rfl
  · obtain ⟨-, w1, -, n1⟩ := wd_in hy e2
    rw [e] at hpc ⊢
    rw [pieces_last 32 _ [] ly.2.2.2] at hpc
    rw [one_of hpc, ok_of (by omega) n1, if_pos rfl, fw_cons (w1 0 0), e1]
    rfl
  · obtain ⟨w1, -, -, -⟩ := wd_in hx e1
    obtain ⟨-, w2, -, -⟩ := wd_in hy e2
    have el : (pt y 78 83 ++ ⟨#[32]⟩ ++ pt x 69 87 : ByteArray).data.toList = (pt y 78 83).data.toList ++ 32 :: (pt x 69 87).data.toList := by rw [aid.str_app, aid.str_app, List.append_assoc]; rfl
    rw [e] at hpc ⊢
    rw [el, pieces_cut 32 _ _ [] ly.2.2.2, pieces_last 32 _ [] lx.2.2.1] at hpc
    have hok : okS (pt y 78 83 ++ ⟨#[32]⟩ ++ pt x 69 87) = true := ok_of (by rw [el, List.length_append, List.length_cons]; omega) (by
      rw [el]
      intro h2
      have h3 := congrArg List.length h2
      rw [List.length_append, List.length_cons] at h3
      have h4 : (pt y 78 83).data.toList = [] := List.eq_nil_of_length_eq_zero (by simp only [List.length_cons, List.length_nil] at h3; omega)
      rw [h4] at h2
      simp at h2)
    rw [two_of hpc, hok, if_pos rfl, fw_cons (w2 0 0), fw_cons (w1 0 y)]
    rfl
theorem pv_none {s : ByteArray} {xs : List ByteArray} (hpc : xs.map (·.data.toList) = pieces 32 s.data.toList []) (h : FF s xs = none) : pvB s = false := by
  cases hb : pvB s
  · rfl
  · obtain ⟨h1, h2⟩ := pv_text hb
    rw [FF_text h1 h2 hpc] at h
    cases h
theorem pv_other {s : ByteArray} {xs : List ByteArray} {x y : Int} (hpc : xs.map (·.data.toList) = pieces 32 s.data.toList []) (h : FF s xs = some (x, y)) (hb : vB x y = false ∨ ((vt x y).toList == s.toList) = false) : pvB s = false := by
  cases hp : pvB s
  · rfl
  · obtain ⟨h1, h2⟩ := pv_text hp
    rw [FF_text h1 h2 hpc] at h
    obtain ⟨rfl, rfl⟩ := Prod.mk.inj (Option.some.inj h)
    rcases hb with hb | hb
    · rw [h1] at hb; cases hb
    · rw [← h2] at hb; simp at hb
end Go.Proofs.YtdeghpihcddlgaaDoor.velp
