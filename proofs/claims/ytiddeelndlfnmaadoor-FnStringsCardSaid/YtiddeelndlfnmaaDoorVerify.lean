/- The contracts of spec.VerifyChecksum and impl.VerifyChecksum (strings.Cut at one byte), for every string of at most 1048576 bytes. -/
import Derived.Test.YtiddeelndlfnmaaDoorSeal
import Derived.Test.YtiddeelndlfnmaaDoorSplit
import Derived.Lib.IndexLaws
namespace Go.Proofs.YtiddeelndlfnmaaDoor.verify
open Go.RowKit Go.Proofs.YtiddeelndlfnmaaDoor.num Go.Proofs.YtiddeelndlfnmaaDoor.sum Go.Proofs.YtiddeelndlfnmaaDoor.stands_ Go.Proofs.YtiddeelndlfnmaaDoor.seal_ Go.Proofs.YtiddeelndlfnmaaDoor.split_

/-- What stands before the first mark. -/
def body (s : ByteArray) : ByteArray := ⟨(s.data.toList.takeWhile (· != 35)).toArray⟩

theorem body_list (s : ByteArray) : (body s).data.toList = s.data.toList.takeWhile (· != 35) := rfl
theorem body_size (s : ByteArray) : (body s).size ≤ s.size := by
  have h1 : (body s).size = (s.data.toList.takeWhile (· != 35)).length := by
    show (s.data.toList.takeWhile (· != 35)).toArray.size = _
    simp
  have h2 : s.size = s.data.toList.length := by simp [← ByteArray.size_data]
  rw [h1, h2]
  exact (List.takeWhile_sublist _).length_le

theorem pieces_head (b : UInt8) : ∀ l cur, ∃ r, pieces b l cur = (cur ++ l.takeWhile (· != b)) :: r
  | [], cur => ⟨[], by simp [pieces]⟩
  | c :: l, cur => by
    unfold pieces
    by_cases h : c = b
    · rw [if_pos h]; exact ⟨pieces b l [], by simp [h]⟩
    · rw [if_neg h]
      obtain ⟨r, hr⟩ := pieces_head b l (cur ++ [c])
      exact ⟨r, by rw [hr, List.takeWhile_cons_of_pos (by simp [h])]; simp⟩

theorem head_body {s : ByteArray} {xs : List ByteArray} (h : xs.map (·.data.toList) = pieces 35 s.data.toList []) : ∃ r, xs = body s :: r := by
  obtain ⟨r, hr⟩ := pieces_head 35 s.data.toList []
  rw [hr] at h
  cases xs with
  | nil => simp at h
  | cons x xs =>
    simp only [List.map_cons, List.cons.injEq, List.nil_append] at h
    exact ⟨xs, by rw [aid.str_ext (a := x) (b := body s) h.1]⟩

/-- The first piece in memory. -/
theorem head_cell {w : World} {B e : Nat} {v : Value} {x : ByteArray} {r : List ByteArray} (h : w.ownsRow B e 1 v (x :: r).length ((x :: r).map Value.string)) :
    ∃ g cap, v = .slice (some ⟨g, 0, none⟩) (x :: r).length cap ∧ w.cell? ⟨g, 0, none⟩ = some (.string x) := by
  have hc := fun g hg => h.cells (g := g) hg 0 (.string x) (by simp)
  rcases h.2 with ⟨_, h0⟩ | ⟨g, cap, _, hv, _⟩
  · simp at h0
  · refine ⟨g, cap, hv, ?_⟩
    have := hc g (by rw [hv]; rfl)
    simpa [Addr.add] using this

theorem spec_long (s : ByteArray) (w : World) (h : 4000 < (s.size : Int)) :
    Calls Tryd.prog 20 #[.string s] w fun e w' => e = .returned (.tuple #[.string ⟨#[]⟩, .bool false]) ∧ w = w' := by
  go_enter Tryd.func20, Tryd.ntmps20
  go_wp2
  go_ret2
  exact ⟨rfl, rfl⟩

/-- Is the string a sealed one? -/
def vfB (s : ByteArray) : Bool := decide ((s.size : Int) ≤ 4000) && ((sealT (body s)).toList == s.toList)
def vfT (s : ByteArray) : ByteArray := if vfB s then body s else ⟨#[]⟩

theorem spec_short (s : ByteArray) (w : World) (h : (s.size : Int) ≤ 4000) :
    Calls Tryd.prog 20 #[.string s] w fun e w' => e = .returned (.tuple #[.string (vfT s), .bool (vfB s)]) ∧ Below w.heap.size w w' := by
  have hsp := Lib.hid (fun w => l1Split s 35 w (by omega))
  have hsl := Lib.hid (fun w => l1Seal (body s) w (by have := body_size s; omega))
  have hyes : ((sealT (body s)).toList == s.toList) = true → Ending.returned (.tuple #[.string (body s), .bool true]) = Ending.returned (.tuple #[.string (vfT s), .bool (vfB s)]) := by
    intro e; have : vfB s = true := by unfold vfB; rw [e, decide_eq_true h]; rfl
    unfold vfT; rw [this]; rfl
  have hno : ((sealT (body s)).toList == s.toList) = false → Ending.returned (.tuple #[.string ⟨#[]⟩, .bool false]) = Ending.returned (.tuple #[.string (vfT s), .bool (vfB s)]) := by
    intro e; have : vfB s = false := by unfold vfB; rw [e]; simp
    unfold vfT; rw [this]; rfl
  have HY := Lib.hid hyes
  have HNO := Lib.hid hno
  have hhb := Lib.hid (fun xs => @head_body s xs)
  clear hyes hno
  generalize body s = x at *
  generalize sealT x = y at *
  cases hxy : (y.toList == s.toList)
  all_goals
    go_enter Tryd.func20, Tryd.ntmps20
    go_wp2_with fail
    refine (hsp.out _).mono ?_
    rintro e w1 ⟨v, xs, rfl, hown, hb, hp⟩
    obtain ⟨r, rfl⟩ := hhb.out xs hp
    obtain ⟨g, cap, rfl, hc⟩ := head_cell hown
    clear hown hp
    go_wp2_with (go_at_call 34; refine (hsl.out _).mono ?_; rintro e w' ⟨rfl, j, rfl⟩)
    go_ret2
  · exact ⟨HNO.out hxy, aid.below_drewN hb j⟩
  · exact ⟨HY.out hxy, aid.below_drewN hb j⟩

theorem vf_long {s : ByteArray} (h : 4000 < (s.size : Int)) : Ending.returned (.tuple #[.string ⟨#[]⟩, .bool false]) = Ending.returned (.tuple #[.string (vfT s), .bool (vfB s)]) := by
  have : vfB s = false := by unfold vfB; rw [decide_eq_false (by omega)]; rfl
  unfold vfT; rw [this]; rfl

theorem spec_any (s : ByteArray) (w : World) :
    Calls Tryd.prog 20 #[.string s] w fun e w' => e = .returned (.tuple #[.string (vfT s), .bool (vfB s)]) ∧ Below w.heap.size w w' := by
  by_cases h : (s.size : Int) ≤ 4000
  · exact spec_short s w h
  · exact (spec_long s w (by omega)).mono fun e w' ⟨he, hw⟩ => ⟨he.trans (vf_long (by omega)), hw ▸ Below.refl _ _⟩

theorem takeWhile_none {c : UInt8} : ∀ {l : List UInt8}, (∀ k : Nat, l[k]? ≠ some c) → l.takeWhile (· != c) = l
  | [], _ => rfl
  | b :: l, h => by
    have hb : b ≠ c := fun e => h 0 (by simp [e])
    rw [List.takeWhile_cons_of_pos (by simp [hb]), takeWhile_none (fun k => by have := h (k + 1); simpa using this)]
theorem takeWhile_free (c : UInt8) : ∀ l : List UInt8, (l.takeWhile (· != c)).contains c = false
  | [] => rfl
  | b :: l => by
    by_cases h : b = c
    · simp [h]
    · rw [List.takeWhile_cons_of_pos (by simp [h]), List.contains_cons, takeWhile_free c l]
      simp
      exact fun e => h e.symm
theorem takeWhile_some {c : UInt8} : ∀ {l : List UInt8} {o : Nat}, l[o]? = some c → (∀ k : Nat, k < o → l[k]? ≠ some c) → l.takeWhile (· != c) = l.take o
  | [], o, h, _ => by simp at h
  | b :: l, 0, h, _ => by simp at h; subst h; simp
  | b :: l, o + 1, h, hn => by
    have hb : b ≠ c := fun e => hn 0 (by omega) (by simp [e])
    rw [List.takeWhile_cons_of_pos (by simp [hb]), List.take_succ_cons, takeWhile_some (o := o) (by simpa using h) (fun k hk => by have := hn (k + 1) (by omega); simpa using this)]

/-- strings.Cut at the mark: what stands before the first one. -/
theorem cut (s : ByteArray) (w : World) (hs : s.size ≤ 1048576) :
    Calls Tryd.prog 41 #[.string s, .string ⟨#[35]⟩] w fun e w' => ∃ (y : ByteArray) (f : Bool), e = .returned (.tuple #[.string (body s), .string y, .bool f]) ∧ ∃ j, w' = w.drewN j := by
  have hc := fun w => Tryd.stringslite_Index_one s 35 w
  have hge := Lib.indexByte_ge s.data.toList 35
  rcases Int.lt_or_le (Lib.indexByte s.data.toList 35) 0 with hi | hi
  · have e1 : Lib.indexByte s.data.toList 35 = -1 := by omega
    rw [e1] at hc
    have hb : body s = s := aid.str_ext (by rw [body_list, takeWhile_none (Lib.indexByte_none e1)])
    rw [hb]
    clear e1 hi hge hb
    go_enter Tryd.func41, Tryd.ntmps41
    go_wp2_with (go_at_call 43; refine (hc _).mono ?_; rintro e w' ⟨rfl, rfl⟩)
    go_ret3
    exact ⟨_, _, rfl, 0, rfl⟩
  · obtain ⟨o, ho⟩ := Int.eq_ofNat_of_zero_le hi
    rw [ho] at hc
    obtain ⟨h1, h2⟩ := Lib.indexByte_some ho
    have hlt : o < s.size := by
      have := (List.getElem?_eq_some_iff.1 h1).1
      simpa using this
    have hb : body s = s.extract 0 o := aid.str_ext (by rw [body_list, takeWhile_some h1 h2, Lib.extract_data]; simp)
    rw [hb]
    clear hi hge hb ho h1 h2
    have c3 : IntKind.i64.wrap ((o : Int) + 1) = (o : Int) + 1 := IntWalk.i64_in _ (by omega)
    have c4 : ((o : Int) + 1) ≤ (s.size : Int) := by omega
    go_enter Tryd.func41, Tryd.ntmps41
    go_wp2_with (go_at_call 43; refine (hc _).mono ?_; rintro e w' ⟨rfl, rfl⟩)
    go_quiet (fail)
    go_wp2
    go_ret3
    exact ⟨_, _, rfl, nq, rfl⟩

theorem cut_top (s : ByteArray) (w : World) (hs : s.size ≤ 1048576) :
    Calls Tryd.prog 35 #[.string s, .string ⟨#[35]⟩] w fun e w' => ∃ (y : ByteArray) (f : Bool), e = .returned (.tuple #[.string (body s), .string y, .bool f]) ∧ ∃ j, w' = w.drewN j := by
  have hc := fun w => cut s w hs
  generalize body s = x at *
  go_enter Tryd.func35, Tryd.ntmps35
  go_wp2_with (go_at_call 41; refine (hc _).mono ?_; rintro e w' ⟨y, f, rfl, j, rfl⟩)
  go_ret3
  exact ⟨_, _, rfl, j, rfl⟩

theorem body_free (s : ByteArray) : has (body s).data.toList 35 = false := by
  rw [body_list]
  exact takeWhile_free 35 _

theorem same_str {a b : ByteArray} (h : (a.toList == b.toList) = true) : a = b := by
  rw [beq_iff_eq, Lib.toList_data, Lib.toList_data] at h
  exact aid.str_ext h
theorem same_self (a : ByteArray) : (a.toList == a.toList) = true := by simp

/-- Sealed if and only if the body seals to just this. -/
theorem vf_yes {s : ByteArray} (h : vfB s = true) : apB (body s) = true ∧ apT (body s) = s := by
  unfold vfB at h
  simp only [Bool.and_eq_true, decide_eq_true_eq] at h
  obtain ⟨h1, h2⟩ := h
  have e := same_str h2
  have hb := body_size s
  have ha : apB (body s) = true := ap_yes (by omega) (body_free s) (by rw [e]; exact h1)
  exact ⟨ha, by unfold apT; rw [ha]; exact e⟩
theorem vf_no {s : ByteArray} (h : vfB s = false) (ha : apB (body s) = true) : ((apT (body s)).toList == s.toList) = false := by
  have e : apT (body s) = sealT (body s) := by unfold apT; rw [ha]; rfl
  rw [e]
  unfold vfB at h
  cases hx : ((sealT (body s)).toList == s.toList)
  · rfl
  · rw [hx] at h
    have e2 := same_str hx
    unfold apB at ha
    simp only [Bool.and_eq_true, decide_eq_true_eq] at ha
    rw [e2] at ha
    rw [decide_eq_true ha.2] at h
    simp at h
theorem vfT_yes {s : ByteArray} (h : vfB s = true) : Ending.returned (.tuple #[.string (body s), .bool true]) = Ending.returned (.tuple #[.string (vfT s), .bool (vfB s)]) := by
  unfold vfT; rw [h]; rfl
theorem vfT_no {s : ByteArray} (h : vfB s = false) : Ending.returned (.tuple #[.string ⟨#[]⟩, .bool false]) = Ending.returned (.tuple #[.string (vfT s), .bool (vfB s)]) := by
  unfold vfT; rw [h]; rfl

theorem impl_any (s : ByteArray) (w : World) (hs : s.size ≤ 1048576) (ht : fmt.Tab w) :
    Calls Tryd.prog 18 #[.string s] w fun e w' => e = .returned (.tuple #[.string (vfT s), .bool (vfB s)]) ∧ Below w.heap.size w w' := by
  have hc := Lib.hid (fun w => cut_top s w hs)
  have ha := Lib.hid (fun j => seal_.impl_any (body s) (w.drewN j) (fmt.tab_on ht (aid.below_drewN (Below.refl _ _) j)))
  clear ht
  cases hv : vfB s
  · have HE := Lib.hid (vfT_no hv)
    rw [hv] at HE
    have hn := @vf_no s hv
    clear hv
    cases hb : apB (body s)
    · rw [hb] at ha
      clear hn hb
      generalize apT (body s) = y at *
      generalize body s = x at *
      go_enter Tryd.func18, Tryd.ntmps18
      go_wp2_with (go_at_call 35; refine (hc.out _).mono ?_; rintro e w' ⟨z, f, rfl, j, rfl⟩)
      go_wp2_with (go_at_call 16; refine (ha.out j).mono ?_; rintro e w' ⟨rfl, hbl⟩)
      go_ret2
      exact ⟨HE.out, (aid.below_drewN (Below.refl _ _) j).trans hbl⟩
    · rw [hb] at ha
      have hne := hn hb
      clear hn hb
      generalize apT (body s) = y at *
      generalize body s = x at *
      go_enter Tryd.func18, Tryd.ntmps18
      go_wp2_with (go_at_call 35; refine (hc.out _).mono ?_; rintro e w' ⟨z, f, rfl, j, rfl⟩)
      go_wp2_with (go_at_call 16; refine (ha.out j).mono ?_; rintro e w' ⟨rfl, hbl⟩)
      go_ret2
      exact ⟨HE.out, (aid.below_drewN (Below.refl _ _) j).trans hbl⟩
  · have HE := Lib.hid (vfT_yes hv)
    rw [hv] at HE
    obtain ⟨hb, he⟩ := vf_yes hv
    rw [hb, he] at ha
    have hss := same_self s
    clear hv hb he
    generalize body s = x at *
    go_enter Tryd.func18, Tryd.ntmps18
    go_wp2_with (go_at_call 35; refine (hc.out _).mono ?_; rintro e w' ⟨z, f, rfl, j, rfl⟩)
    go_wp2_with (go_at_call 16; refine (ha.out j).mono ?_; rintro e w' ⟨rfl, hbl⟩)
    go_ret2
    exact ⟨HE.out, (aid.below_drewN (Below.refl _ _) j).trans hbl⟩
end Go.Proofs.YtiddeelndlfnmaaDoor.verify
