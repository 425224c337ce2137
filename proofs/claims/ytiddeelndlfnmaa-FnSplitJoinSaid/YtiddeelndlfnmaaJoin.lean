/- The contracts of spec.JoinStrings and impl.JoinStrings over any list of strings of together at most 1048576 bytes. -/
import Derived.Test.YtiddeelndlfnmaaStrs2
import Derived.Test.YtiddeelndlfnmaaStands
import Derived.Test.YtiddeelndlfnmaaShelf
import Derived.Lib.IndexAny
import Derived.Lib.Strings
namespace Go.Proofs.Ytiddeelndlfnmaa.join_
open Go.RowKit Go.Proofs.Ytiddeelndlfnmaa.strs Go.Proofs.Ytiddeelndlfnmaa.stands_

/-- The strings with the byte b between them. -/
def J (xs : List ByteArray) (b : UInt8) : List UInt8 := Lib.join (xs.map (·.data.toList)) [b]
theorem J_nil (b : UInt8) : J [] b = [] := rfl
theorem J_one (x : ByteArray) (b : UInt8) : J [x] b = x.data.toList := Lib.join_one _ _
theorem J_snoc (xs : List ByteArray) (x : ByteArray) (b : UInt8) (h : xs ≠ []) : J (xs ++ [x]) b = J xs b ++ [b] ++ x.data.toList := by
  cases xs with
  | nil => exact absurd rfl h
  | cons y r =>
    unfold J
    rw [List.cons_append, List.map_cons, List.map_cons, Lib.join_cons, Lib.join_cons, List.map_append]
    simp [Lib.joinTail]
theorem J_length (xs : List ByteArray) (b : UInt8) (h : xs ≠ []) : (J xs b).length + 1 = weight xs := by
  cases xs with
  | nil => exact absurd rfl h
  | cons y r =>
    unfold J
    rw [List.map_cons, Lib.join_cons]
    have hs : ∀ z : ByteArray, z.size = z.data.toList.length := fun z => by simp [← ByteArray.size_data]
    have : ∀ r : List ByteArray, (Lib.joinTail [b] (r.map (·.data.toList))).length = weight r := by
      intro r
      induction r with
      | nil => rfl
      | cons z r ih =>
        have e : Lib.joinTail [b] ((z :: r).map (·.data.toList)) = b :: (z.data.toList ++ Lib.joinTail [b] (r.map (·.data.toList))) := by simp [Lib.joinTail]
        rw [e]
        simp only [List.length_cons, List.length_append, ih, weight, List.map_cons, List.sum_cons, hs z]
        omega
    rw [List.length_append, this r]
    simp only [weight, List.map_cons, List.sum_cons, hs y]
    omega
theorem weight_part (xs : List ByteArray) (k : Nat) : weight (xs.take k) + (xs.length - k) ≤ weight xs := by
  have h : weight xs = weight (xs.take k) + weight (xs.drop k) := by
    conv => lhs; rw [← List.take_append_drop k xs]
    unfold weight
    rw [List.map_append, List.sum_append]
  have := weight_ge (xs.drop k)
  rw [List.length_drop] at this
  omega

def clean (xs : List ByteArray) (b : UInt8) : Prop := ∀ x ∈ xs, has x.data.toList b = false
open Classical in
/-- Can the strings be joined? And what they give. -/
noncomputable def jB (xs : List ByteArray) (sep : ByteArray) : Bool := decide (sep.size = 1 ∧ xs ≠ [] ∧ clean xs (sep.data.toList.headD 0) ∧ weight xs ≤ 4001)
noncomputable def jT (xs : List ByteArray) (sep : ByteArray) : ByteArray := if jB xs sep then ⟨(J xs (sep.data.toList.headD 0)).toArray⟩ else ⟨#[]⟩

open Classical in
theorem jB_no {xs : List ByteArray} {sep : ByteArray} (h : ¬ (sep.size = 1 ∧ xs ≠ [] ∧ clean xs (sep.data.toList.headD 0) ∧ weight xs ≤ 4001)) : jB xs sep = false := by
  unfold jB; exact decide_eq_false h
theorem end_no {xs : List ByteArray} {sep : ByteArray} (h : ¬ (sep.size = 1 ∧ xs ≠ [] ∧ clean xs (sep.data.toList.headD 0) ∧ weight xs ≤ 4001)) :
    Ending.returned (.tuple #[.string ⟨#[]⟩, .bool false]) = .returned (.tuple #[.string (jT xs sep), .bool (jB xs sep)]) := by
  unfold jT; rw [jB_no h]; rfl
open Classical in
theorem end_yes {xs : List ByteArray} {sep t : ByteArray} (h : sep.size = 1 ∧ xs ≠ [] ∧ clean xs (sep.data.toList.headD 0) ∧ weight xs ≤ 4001) (ht : t.data.toList = J xs (sep.data.toList.headD 0)) :
    Ending.returned (.tuple #[.string t, .bool true]) = .returned (.tuple #[.string (jT xs sep), .bool (jB xs sep)]) := by
  have hj : jB xs sep = true := by unfold jB; exact decide_eq_true h
  have e : t = jT xs sep := by
    unfold jT; rw [hj]
    exact aid.str_ext ht
  rw [e, hj]

theorem head_sep {sep : ByteArray} (h0 : 0 < sep.size) (h1 : sep.size = 1) : sep.data.toList.headD 0 = sep[0] ∧ sep.data.toList = [sep[0]] ∧ sep = ⟨#[sep[0]]⟩ := by
  obtain ⟨⟨l⟩⟩ := sep
  have hl : l.length = 1 := h1
  match l, hl with
  | [c], _ => exact ⟨rfl, rfl, rfl⟩

/-- spec's loop: what has been joined of the first k strings. -/
def SInv (xs : List ByteArray) (b : UInt8) (k : Nat) (out : ByteArray) : Prop := out.data.toList = J (xs.take k) b ∧ clean (xs.take k) b ∧ weight (xs.take k) ≤ 4001
theorem sinv_step {xs : List ByteArray} {b : UInt8} {k : Nat} {out o2 x : ByteArray} (h : SInv xs b k out) (hx : xs[k]? = some x) (hb : has x.data.toList b = false)
    (ho : o2.data.toList = if 0 < k then out.data.toList ++ [b] ++ x.data.toList else out.data.toList ++ x.data.toList) : o2.data.toList = J (xs.take (k + 1)) b ∧ clean (xs.take (k + 1)) b ∧ o2.size + 1 = weight (xs.take (k + 1)) := by
  obtain ⟨h1, h2, -⟩ := h
  have ht := take_at hx
  have hj : o2.data.toList = J (xs.take (k + 1)) b := by
    rw [ho, ht, h1]
    by_cases hk : 0 < k
    · rw [if_pos hk, J_snoc]
      intro e
      have h3 := (List.getElem?_eq_some_iff.1 hx).1
      have h4 := congrArg List.length e
      rw [List.length_take] at h4
      simp only [List.length_nil] at h4
      omega
    · obtain rfl : k = 0 := by omega
      rw [if_neg (by omega), List.take_zero, J_nil, List.nil_append, List.nil_append, J_one]
  refine ⟨hj, ?_, ?_⟩
  · rw [ht]; intro y hy
    rcases List.mem_append.1 hy with hy | hy
    · exact h2 y hy
    · simp at hy; subst hy; exact hb
  · rw [← J_length (xs.take (k + 1)) b (by rw [ht]; simp), ← hj]
    simp [← ByteArray.size_data]

theorem has_of_at {xs : List ByteArray} {b : UInt8} {k : Nat} {x : ByteArray} (hx : xs[k]? = some x) (h : has x.data.toList b = true) : ¬ clean xs b := fun hc => by
  have := hc x (List.mem_of_getElem? hx)
  rw [h] at this; cases this

set_option maxHeartbeats 1000000 in
theorem spec_loop (xs : List ByteArray) (A : Option Addr) (n c : Nat) (sep : ByteArray) (w : World) (hw : weight xs ≤ 1048576) (hn : 0 < n) (h : Rd w w.heap.size A n xs) (h0 : 0 < sep.size) (h1 : sep.size = 1) :
    Calls Try.prog 13 #[.slice A n c, .string sep] w fun e w' => e = .returned (.tuple #[.string (jT xs sep), .bool (jB xs sep)]) ∧ Below w.heap.size w w' := by
  obtain ⟨hb, hbl, -⟩ := head_sep h0 h1
  have hl := h.1
  have hwg := weight_ge xs
  have hne : xs ≠ [] := by rintro rfl; simp at hl; omega
  have NO := Lib.hid (fun hh => @end_no xs sep hh)
  have YES := Lib.hid (fun t hh ht => @end_yes xs sep t ⟨h1, hne, hh⟩ ht)
  rw [hb] at NO YES
  have hn2 : n ≤ 1048576 := by omega
  have hc1 : ((sep.size : Int) != 1) = false := by rw [h1]; rfl
  have hc2 : ((n : Int) == 0) = false := by simp; omega
  have HSZ := Lib.hid (show sep.size ≤ 1 by omega)
  have HNE := Lib.hid hne
  have HBL := Lib.hid hbl
  have HL := Lib.hid hl
  clear hb hbl hl hwg h1 hne
  go_enter Try.func13, Try.ntmps13
  go_wp2
  go_loopw [6, 7] (fun o i wr => ∃ (k : Nat) (out : ByteArray), k ≤ n ∧ i = .int .i64 k ∧ o = .string out ∧ SInv xs sep[0] k out ∧ out.size ≤ 4000 ∧ Below w.heap.size w wr) (fun _ i _ => n - (intOf i).toNat)
  case atStart => exact ⟨0, ⟨#[]⟩, Nat.zero_le _, rfl, rfl, ⟨rfl, (fun x hx => by simp at hx), by simp [weight_nil]⟩, by decide, Below.refl _ _⟩
  case round =>
    obtain ⟨k, out, hk, rfl, rfl, hinv, hos, hbw⟩ := hrel
    have HI := Lib.hid hinv
    clear hinv
    by_cases hlt : k < n
    · obtain ⟨b, o, x, rfl, hbl, hxx, hcc⟩ := h.at_ hlt
      have hcell := (hbw.cell (p := ⟨b, o + k, none⟩) hbl).trans hcc
      have hlt2 : (k : Int) < (n : Int) := by omega
      have hxs : x.size ≤ 1048576 := by
        have hp := weight_part xs (k + 1)
        rw [weight_take hxx] at hp
        omega
      have hst := Lib.hid (fun d => aid.quiet_left (stands x sep[0] (wr.drewN d) (by unfold maxLen; omega)))
      cases hh : has x.data.toList sep[0]
      · rw [hh] at hst
        have hsz := HSZ.out
        have hbsep := HBL.out
        have hp := weight_part xs (k + 1)
        by_cases hk0 : 0 < k
        · obtain ⟨q1, q2, q3⟩ := sinv_step (o2 := out ++ sep ++ x) HI.out hxx hh (by rw [if_pos hk0, aid.str_app, aid.str_app, hbsep])
          have q4 : (out ++ sep ++ x).size = out.size + sep.size + x.size := by rw [ByteArray.size_append, ByteArray.size_append]
          have hk1 : (0 : Int) < (k : Int) := by omega
          by_cases hbig : (4000 : Int) < (out.size : Int) + (sep.size : Int) + (x.size : Int)
          · have HB := Lib.hid (NO.out (fun hq => by have := hq.2.2.2; omega))
            clear h hxx hcc hh q1 q2 q3 q4 hp hbsep
            go_wp2_with fail
            go_quiet ((go_at_call 32; exact hst.out _))
            go_wp2
            go_ret2
            exact ⟨HB.out, aid.below_drewN hbw _⟩
          · have HN := Lib.hid (show SInv xs sep[0] (k + 1) (out ++ sep ++ x) ∧ (out ++ sep ++ x).size ≤ 4000 from ⟨⟨q1, q2, by omega⟩, by omega⟩)
            clear h hxx hcc hh q1 q2 q3 q4 hp hbsep
            go_wp2_with fail
            go_quiet ((go_at_call 32; exact hst.out _))
            go_wp2
            go_roundw
            case rel => exact ⟨k + 1, _, by omega, by go_num, rfl, HN.out.1, HN.out.2, aid.below_drewN hbw _⟩
            case measure => simp [intOf]; omega
        · obtain ⟨q1, q2, q3⟩ := sinv_step (o2 := out ++ x) HI.out hxx hh (by rw [if_neg hk0, aid.str_app])
          have q4 : (out ++ x).size = out.size + x.size := by rw [ByteArray.size_append]
          have hk1 : ¬ (0 : Int) < (k : Int) := by omega
          by_cases hbig : (4000 : Int) < (out.size : Int) + (x.size : Int)
          · have HB := Lib.hid (NO.out (fun hq => by have := hq.2.2.2; omega))
            clear h hxx hcc hh q1 q2 q3 q4 hp hbsep
            go_wp2_with fail
            go_quiet ((go_at_call 32; exact hst.out _))
            go_wp2
            go_ret2
            exact ⟨HB.out, aid.below_drewN hbw _⟩
          · have HN := Lib.hid (show SInv xs sep[0] (k + 1) (out ++ x) ∧ (out ++ x).size ≤ 4000 from ⟨⟨q1, q2, by omega⟩, by omega⟩)
            clear h hxx hcc hh q1 q2 q3 q4 hp hbsep
            go_wp2_with fail
            go_quiet ((go_at_call 32; exact hst.out _))
            go_wp2
            go_roundw
            case rel => exact ⟨k + 1, _, by omega, by go_num, rfl, HN.out.1, HN.out.2, aid.below_drewN hbw _⟩
            case measure => simp [intOf]; omega
      · rw [hh] at hst
        have HB := Lib.hid (NO.out (fun hq => has_of_at hxx hh hq.2.2.1))
        clear h hxx hcc hh
        go_wp2_with fail
        go_quiet ((go_at_call 32; exact hst.out _))
        go_wp2
        go_ret2
        exact ⟨HB.out, aid.below_drewN hbw _⟩
    · obtain rfl : k = n := by omega
      have ht : xs.take k = xs := List.take_of_length_le (by rw [HL.out]; exact Nat.le_refl _)
      have hi := HI.out
      unfold SInv at hi
      rw [ht] at hi
      have HY := Lib.hid (YES.out out ⟨hi.2.1, hi.2.2⟩ hi.1)
      clear h ht hi
      go_wp2
      go_ret2
      exact ⟨HY.out, hbw⟩

theorem spec_any (xs : List ByteArray) (A : Option Addr) (n c : Nat) (sep : ByteArray) (w : World) (hw : weight xs ≤ 1048576) (h : Rd w w.heap.size A n xs) :
    Calls Try.prog 13 #[.slice A n c, .string sep] w fun e w' => e = .returned (.tuple #[.string (jT xs sep), .bool (jB xs sep)]) ∧ Below w.heap.size w w' := by
  by_cases h1 : sep.size = 1
  · by_cases hn : 0 < n
    · exact spec_loop xs A n c sep w hw hn h (by omega) h1
    · have hl := h.1
      have HB := Lib.hid (end_no (xs := xs) (sep := sep) (fun hq => hq.2.1 (List.length_eq_zero_iff.1 (by omega))))
      have hc1 : ((sep.size : Int) != 1) = false := by rw [h1]; rfl
      have hc2 : ((n : Int) == 0) = true := by simp; omega
      clear h hl h1 hn hw
      go_enter Try.func13, Try.ntmps13
      go_wp2
      go_ret2
      exact ⟨HB.out, Below.refl _ _⟩
  · have HB := Lib.hid (end_no (xs := xs) (sep := sep) (fun hq => h1 hq.1))
    have hc1 : ((sep.size : Int) != 1) = true := by simp; omega
    clear h h1 hw
    go_enter Try.func13, Try.ntmps13
    go_wp2
    go_ret2
    exact ⟨HB.out, Below.refl _ _⟩

theorem contains (x sep : ByteArray) (w : World) (h0 : 0 < sep.size) (h1 : sep.size = 1) :
    Calls Try.prog 30 #[.string x, .string sep] w fun e w' => e = .returned (.bool (has x.data.toList sep[0])) ∧ w = w' := by
  have hs := (head_sep h0 h1).2.2
  have := Try.strings_Contains_one x sep[0] w
  rw [← hs] at this
  exact this.mono fun e w' ⟨he, hw⟩ => ⟨by rw [he, ← Lib.contains_iff_indexByte]; rfl, hw.symm⟩

theorem clean_step {xs : List ByteArray} {b : UInt8} {k : Nat} {x : ByteArray} (h : clean (xs.take k) b) (hx : xs[k]? = some x) (hb : has x.data.toList b = false) : clean (xs.take (k + 1)) b := by
  rw [take_at hx]; intro y hy
  rcases List.mem_append.1 hy with hy | hy
  · exact h y hy
  · simp at hy; subst hy; exact hb

set_option maxHeartbeats 1000000 in
theorem impl_loop (xs : List ByteArray) (A : Option Addr) (n c : Nat) (sep : ByteArray) (w : World) (hw : weight xs ≤ 1048576) (hn : 0 < n) (hnc : n ≤ c) (h : Rd w w.heap.size A n xs) (h0 : 0 < sep.size) (h1 : sep.size = 1) :
    Calls Try.prog 12 #[.slice A n c, .string sep] w fun e w' => e = .returned (.tuple #[.string (jT xs sep), .bool (jB xs sep)]) ∧ Below w.heap.size w w' := by
  obtain ⟨hb, hbl, -⟩ := head_sep h0 h1
  have hl := h.1
  have hwg := weight_ge xs
  have hne : xs ≠ [] := by rintro rfl; simp at hl; omega
  have NO := Lib.hid (fun hh => @end_no xs sep hh)
  have YES := Lib.hid (fun t hh ht => @end_yes xs sep t ⟨h1, hne, hh⟩ ht)
  rw [hb] at NO YES
  have hn2 : n ≤ 1048576 := by omega
  have hc1 : ((sep.size : Int) != 1) = false := by rw [h1]; rfl
  have hc2 : ((n : Int) == 0) = false := by simp; omega
  have HBL := Lib.hid hbl
  have HL := Lib.hid hl
  have HNE := Lib.hid hne
  have HC := Lib.hid (fun x w => contains x sep w h0 h1)
  clear hb hbl hl hwg h1 hne
  go_enter Try.func12, Try.ntmps12
  go_wp2
  go_loop [6, 8, 22] (fun z _ i => ∃ (k : Nat) (r : Int), k ≤ n ∧ i = .int .i64 k ∧ z = .int .i64 r ∧ 0 ≤ r ∧ r ≤ 4000 + (n : Int) ∧ r + 1 = (weight (xs.take k) : Int) + ((n : Int) - (k : Int)) ∧ clean (xs.take k) sep[0] ∧ (0 < k → r ≤ 4000)) (fun _ _ i => n - (intOf i).toNat)
  case atStart => exact ⟨0, _, Nat.zero_le _, rfl, rfl, by omega, by omega, by rw [List.take_zero, weight_nil]; omega, (fun x hx => by simp at hx), fun h => by omega⟩
  case round =>
    obtain ⟨k, r, hk, rfl, rfl, hr0, hr1, he, hcl, hr2⟩ := hrel
    have HE := Lib.hid he
    have HCL := Lib.hid hcl
    have HR := Lib.hid hr2
    clear he hcl hr2
    by_cases hlt : k < n
    · obtain ⟨b, o, x, rfl, _, hxx, hcc⟩ := h.at_ hlt
      have hlt2 : (k : Int) < (n : Int) := by omega
      have hp := weight_part xs (k + 1)
      have hwt := weight_take hxx
      have hll := HL.out
      have hee := HE.out
      have hxs : x.size ≤ 1048576 := by omega
      by_cases hbig : (4000 : Int) < r + (x.size : Int)
      · have HB := Lib.hid (NO.out (fun hq => by have := hq.2.2.2; omega))
        clear h hxx hp hwt hll hee
        go_wp2
        go_ret2
        exact ⟨HB.out, Below.refl _ _⟩
      · have hcx := HC.out x
        cases hh : has x.data.toList sep[0]
        · rw [hh] at hcx
          have HN := Lib.hid (clean_step HCL.out hxx hh)
          have HE2 := Lib.hid (show r + (x.size : Int) + 1 = (weight (xs.take (k + 1)) : Int) + ((n : Int) - ((k + 1 : Nat) : Int)) by omega)
          clear h hxx hp hwt hll hee hh
          go_wp2_with (go_at_call 30; refine (hcx _).mono ?_; rintro e w' ⟨rfl, rfl⟩)
          go_round
          case rel => exact ⟨k + 1, _, by omega, by go_num, by go_num, by omega, by omega, HE2.out, HN.out, fun _ => by omega⟩
          case measure => simp [intOf]; omega
        · rw [hh] at hcx
          have HB := Lib.hid (NO.out (fun hq => has_of_at hxx hh hq.2.2.1))
          clear h hxx hp hwt hll hee hh
          go_wp2_with (go_at_call 30; refine (hcx _).mono ?_; rintro e w' ⟨rfl, rfl⟩)
          go_ret2
          exact ⟨HB.out, Below.refl _ _⟩
    · obtain rfl : k = n := by omega
      have ht : xs.take k = xs := List.take_of_length_le (by rw [HL.out]; exact Nat.le_refl _)
      have hc2' := HCL.out
      have he2 := HE.out
      rw [ht] at hc2' he2
      have hjl := J_length xs sep[0] HNE.out
      have hr := HR.out hn
      have HY := Lib.hid (YES.out ⟨(J xs sep[0]).toArray⟩ ⟨hc2', by omega⟩ rfl)
      obtain ⟨b, o, rfl, hbk, hcells⟩ := h.2 hn
      have hj := Try.strings_Join b o c xs sep w hcells hbk (by have := weight_ge xs; omega) (by rw [HL.out]; exact hnc) (by
        rw [HBL.out]; show (J xs sep[0]).length ≤ _; omega)
      rw [HBL.out, HL.out] at hj
      have HJ := Lib.hid hj
      clear h hcells ht hc2' he2 hjl hj
      go_wp2_with (go_at_call 31; refine HJ.out.mono ?_; rintro e w' ⟨rfl, hbj⟩)
      go_ret2
      exact ⟨HY.out, hbj⟩

theorem impl_any (xs : List ByteArray) (A : Option Addr) (n c : Nat) (sep : ByteArray) (w : World) (hw : weight xs ≤ 1048576) (hnc : n ≤ c) (h : Rd w w.heap.size A n xs) :
    Calls Try.prog 12 #[.slice A n c, .string sep] w fun e w' => e = .returned (.tuple #[.string (jT xs sep), .bool (jB xs sep)]) ∧ Below w.heap.size w w' := by
  by_cases hn : 0 < n
  · by_cases h1 : sep.size = 1
    · exact impl_loop xs A n c sep w hw hn hnc h (by omega) h1
    · have HB := Lib.hid (end_no (xs := xs) (sep := sep) (fun hq => h1 hq.1))
      have hc1 : ((sep.size : Int) != 1) = true := by simp; omega
      have hc2 : ((n : Int) == 0) = false := by simp; omega
      clear h h1 hw
      go_enter Try.func12, Try.ntmps12
      go_wp2
      go_ret2
      exact ⟨HB.out, Below.refl _ _⟩
  · have hl := h.1
    have HB := Lib.hid (end_no (xs := xs) (sep := sep) (fun hq => hq.2.1 (List.length_eq_zero_iff.1 (by omega))))
    have hc2 : ((n : Int) == 0) = true := by simp; omega
    clear h hl hn hw
    go_enter Try.func12, Try.ntmps12
    go_wp2
    go_ret2
    exact ⟨HB.out, Below.refl _ _⟩
end Go.Proofs.Ytiddeelndlfnmaa.join_
