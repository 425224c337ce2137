/- For every two strings the law FnExactSplitString returns true: impl.SplitString and spec.SplitString return the same pieces, in memory of their own, or both an empty slice and false. No condition of mine. -/
import Derived.Test.YtiddeelndlfnmaaRows
import Derived.Test.YtiddeelndlfnmaaSplitImpl
import Derived.Test.YtiddeelndlfnmaaStrs
import Derived.WalkKit
import Derived.ProofKit
import Derived.OpenShut
import Derived.ShutString
import Derived.ChangeOld
import Derived.Below
namespace Go.Proofs.Ytiddeelndlfnmaa.fnExactSplitString
open Go.ChangeShapes Go.WideShapes Go.ChangeAt Go.RowKit
open Go.ChangeMaps (open_string shut_string)
set_option linter.unusedVariables false

theorem spec_no (s sep : ByteArray) (w : World) (h : 4000 < (s.size : Int) ∨ ((sep.size : Int) == 1) = false) :
    Calls Try.prog 17 #[.string s, .string sep] w fun e w' => ∃ (v : Value), e = .returned (.tuple #[v, .bool false]) ∧ w'.ownsRow w.heap.size 9 1 v 0 [] ∧ Below w.heap.size w w' := by
  cases h1 : ((sep.size : Int) == 1)
  · have h3 : ((sep.size : Int) != 1) = true := by rw [bne, h1]; rfl
    clear h h1
    go_enter Try.func17, Try.ntmps17
    go_wp2
    go_ret2
    exact ⟨_, rfl, own_.own_empty w _, (Below.refl _ _).alloc (Nat.le_refl _) _⟩
  · have h2 : 4000 < (s.size : Int) := by
      rcases h with h | h
      · exact h
      · rw [h1] at h; cases h
    have h3 : ((sep.size : Int) != 1) = false := by rw [bne, h1]; rfl
    clear h h1
    go_enter Try.func17, Try.ntmps17
    go_wp2
    go_ret2
    exact ⟨_, rfl, own_.own_empty w _, (Below.refl _ _).alloc (Nat.le_refl _) _⟩

theorem spec_yes (s sep : ByteArray) (w : World) (h : (s.size : Int) ≤ 4000) (h0 : 0 < sep.size) (h1 : ((sep.size : Int) == 1) = true) :
    Calls Try.prog 17 #[.string s, .string sep] w fun e w' => ∃ (v : Value) (xs : List ByteArray), e = .returned (.tuple #[v, .bool true]) ∧ w'.ownsRow w.heap.size 9 1 v xs.length (xs.map Value.string) ∧ Below w.heap.size w w' ∧ xs.map (·.data.toList) = split_.pieces sep[0] s.data.toList [] := by
  have h3 : ((sep.size : Int) != 1) = false := by rw [bne, h1]; rfl
  have hs := Lib.hid (fun w => split_.l1Split s sep[0] w (by omega))
  clear h1
  go_enter Try.func17, Try.ntmps17
  go_wp2_with (go_at_call 33; refine (hs.out _).mono ?_; rintro e w' ⟨v, xs, rfl, ho, hb, hp⟩)
  go_ret2
  exact ⟨v, xs, rfl, ho, hb, hp⟩

theorem own_slice {w : World} {B e : Nat} {v : Value} {xs : List ByteArray} (h : w.ownsRow B e 1 v xs.length (xs.map Value.string)) : ∃ A c, v = .slice A xs.length c := by
  rcases h.2 with ⟨hv, h0⟩ | ⟨g, cap, _, hv, _⟩
  · exact ⟨none, 0, by rw [hv, h0]⟩
  · exact ⟨_, _, hv⟩
theorem map_inj : ∀ {xs ys : List ByteArray}, xs.map (·.data.toList) = ys.map (·.data.toList) → xs = ys
  | [], [], _ => rfl
  | [], _ :: _, h => by simp at h
  | _ :: _, [], h => by simp at h
  | x :: xs, y :: ys, h => by
    simp only [List.map_cons, List.cons.injEq] at h
    rw [aid.str_ext h.1, map_inj h.2]
theorem own_marks {w : World} {B e n c : Nat} {A : Option Addr} {k : Nat} (h : w.ownsRow B e 1 (.slice A n c) n ((strs.marks k n).map Value.string)) : strs.Rd w w.heap.size A n (strs.marks k n) :=
  strs.Rd.of_own (by rw [strs.marks_length]; exact h) (strs.marks_length k n).symm

/-- Both functions return these pieces and this bool, in new memory. -/
def Gives (f : Nat) (s sep : ByteArray) (D : List (List UInt8)) (O : Bool) : Prop := ∀ w : World,
  Calls Try.prog f #[.string s, .string sep] w fun e w' => ∃ (v : Value) (xs : List ByteArray), e = .returned (.tuple #[v, .bool O]) ∧ w'.ownsRow w.heap.size 9 1 v xs.length (xs.map Value.string) ∧ Below w.heap.size w w' ∧ xs.map (·.data.toList) = D

set_option maxHeartbeats 1000000 in
theorem law_of (s sep : ByteArray) (D : List (List UInt8)) (O : Bool) (hD : D.length ≤ 4001) (k0 : (s.size : Int) ≤ 1048576) (k1 : (sep.size : Int) ≤ 1048576)
    (hs : Gives 17 s sep D O) (hi : Gives 10 s sep D O) (w : World) :
    Calls Try.prog 4 #[.string s, .string sep] w fun e w' => e = .returned (.bool true) ∧ Below w.heap.size w w' := by
  have HS := Lib.hid hs
  have HI := Lib.hid hi
  clear hs hi
  go_enter Try.func4, Try.ntmps4
  go_wp2_with fail
  refine (HS.out _).mono ?_
  rintro e w1 ⟨v1, xs, rfl, ho1, hb1, hx1⟩
  obtain ⟨A1, c1, rfl⟩ := own_slice ho1
  go_wp2_with fail
  refine (HI.out _).mono ?_
  rintro e w2 ⟨v2, xs2, rfl, ho2, hb2, hx2⟩
  obtain rfl : xs = xs2 := map_inj (hx1.trans hx2.symm)
  obtain ⟨A2, c2, rfl⟩ := own_slice ho2
  have hn : xs.length ≤ 4001 := by rw [← hx1] at hD; simpa using hD
  have hD2 := Lib.hid hx1
  clear hx1 hx2 hD
  have r1 := strs.Rd.of_own ho1 rfl
  have r2 := strs.Rd.of_own ho2 rfl
  have HE := Lib.hid (strs.eq_same xs A2 A1 xs.length c2 c1 w2 (by omega) r2 ((r1.below hb2 (Nat.le_refl _)).more hb2.size))
  generalize hN : xs.length = N at *
  have HN := Lib.hid hN
  clear hN
  go_wp2_with (go_at_call 18; refine HE.out.mono ?_; rintro e w' ⟨rfl, j, rfl⟩)
  refine (strs.mark1 w1.heap.size A2 N c2 _ (w2.drewN j) (by omega) hb2.size (own_.own_drewN ho2 j)).mono ?_
  rintro e w3 ⟨rfl, hb3, ho3⟩
  have r3 := own_marks ho3
  go_wp2_with fail
  refine (strs.held1 A2 N c2 w3 (by omega) r3).mono ?_
  rintro e w4 ⟨rfl, hb4⟩
  go_wp2_with fail
  refine (HI.out w4).mono ?_
  rintro e w5 ⟨v3, xs3, rfl, ho5, hb5, hx5⟩
  obtain rfl : xs = xs3 := map_inj (hD2.out.trans hx5.symm)
  obtain ⟨A3, c3, rfl⟩ := own_slice ho5
  rw [HN.out] at ho5 ⊢
  have r5 := strs.Rd.of_own (n := N) (by rw [HN.out]; exact ho5) HN.out.symm
  have hb14 : Below w1.heap.size w1 w5 := ((aid.below_drewN hb2 j).trans hb3).trans ((hb4.mono (Nat.le_trans hb2.size hb3.size)).trans (hb5.mono (Nat.le_trans hb2.size (Nat.le_trans hb3.size hb4.size))))
  have HE5 := Lib.hid (strs.eq_same xs A3 A1 N c3 c1 w5 (by omega) r5 ((r1.below hb14 (Nat.le_refl _)).more hb14.size))
  go_wp2_with (go_at_call 18; refine HE5.out.mono ?_; rintro e w' ⟨rfl, j5, rfl⟩)
  have r6 : strs.Rd (w5.drewN j5) (w5.drewN j5).heap.size A2 N (strs.marks 1 N) := (((r3.below hb4 (Nat.le_refl _)).more hb4.size).below (aid.below_drewN hb5 j5) (Nat.le_refl _)).more hb5.size
  refine (strs.held1 A2 N c2 (w5.drewN j5) (by omega) r6).mono ?_
  rintro e w7 ⟨rfl, hb7⟩
  go_wp2_with fail
  go_ret
  exact ⟨rfl, hb1.trans ((hb14.mono hb1.size).trans ((aid.below_drewN (Below.refl _ _) j5).trans (hb7.mono (Nat.le_trans hb1.size hb14.size))))⟩

theorem walk (a0 : ByteArray) (a1 : ByteArray) (w0 : a0.size ≤ maxLen) (w1 : a1.size ≤ maxLen) (w : World) :
    Calls Try.prog 4 #[.string a0, .string a1] w fun e w' => e = .returned (.bool true) ∧ Below w.heap.size w w' := by
  clear w0 w1
  by_cases k0 : (1048576 : Int) < (a0.size : Int)
  · go_enter Try.func4, Try.ntmps4
    go_wp2
    go_ret
    exact ⟨rfl, Below.refl _ _⟩
  · by_cases k1 : (1048576 : Int) < (a1.size : Int)
    · go_enter Try.func4, Try.ntmps4
      go_wp2
      go_ret
      exact ⟨rfl, Below.refl _ _⟩
    · by_cases h : (a0.size : Int) ≤ 4000 ∧ ((a1.size : Int) == 1) = true
      · have h0 : 0 < a1.size := by have := h.2; simp only [beq_iff_eq] at this; omega
        refine law_of a0 a1 (split_.pieces a1[0] a0.data.toList []) true ?_ (by omega) (by omega) (fun w => spec_yes a0 a1 w h.1 h0 h.2) (fun w => splitimpl.impl_yes a0 a1 w h.1 h0 h.2) w
        have h1 := split_.pieces_length a1[0] a0.data.toList []
        have h2 : a0.data.toList.length = a0.size := by simp [← ByteArray.size_data]
        omega
      · have hno : 4000 < (a0.size : Int) ∨ ((a1.size : Int) == 1) = false := by
          by_cases h2 : (a0.size : Int) ≤ 4000
          · exact .inr (by cases hq : ((a1.size : Int) == 1); rfl; exact absurd ⟨h2, hq⟩ h)
          · exact .inl (by omega)
        exact law_of a0 a1 [] false (by simp) (by omega) (by omega)
          (fun w => (spec_no a0 a1 w hno).mono fun e w' ⟨v, he, ho, hb⟩ => ⟨v, [], he, ho, hb, rfl⟩)
          (fun w => (splitimpl.impl_no a0 a1 w hno).mono fun e w' ⟨he, hw⟩ => ⟨_, [], he, World.ownsRow_nil _ _ _ _, hw ▸ Below.refl _ _, rfl⟩) w

theorem own : ownKnob Try.prog.godebug = none := by kernel_rfl
theorem laidOut : laidOutB Try.prog = true := by kernel_rfl

set_option maxRecDepth 100000 in
theorem lifted (os : Os) (started : os.Started) (H : Type) (enc : TypeId × Value → H) :
    ReturnsInHanded {} Try.checked os 4 .any (Rows.fnExactSplitStringSpec.pre6 enc Try.prog Try.f4 Rows.fnExactSplitStringRow.domain false) (Rows.fnExactSplitStringSpec.post enc Try.prog Try.f4 false true false false) := by
  refine returnsInHanded_of_change (C := Try.checked) own started (by kernel_rfl) Try.func4
    (ChangeSpec.witness6 (enc := enc) (C := Try.checked) false ⟨#[], #[.string ByteArray.empty, .string ByteArray.empty], []⟩ 8 (by kernel_rfl) (by kernel_rfl) (by kernel_rfl) (by kernel_rfl)) ?_
  intro W base args ds gs before hval0 hW hcnd _
  have hval : ∀ (j : Nat) t v, Try.f4.params[j]? = some t → args[j]? = some v → Value.okWide Try.prog W .any base t v := hval0
  have hW' := hW
  obtain ⟨p, q, hA0, hV, rfl, hfz, hnd⟩ := hW
  have hA : DataW.TrodAll enc Try.prog W 0 (fun _ => true) true Try.f4.params.toList args.toList ds p := hA0
  rw [Try.params4] at hA hval
  obtain ⟨v0, vs0, d0, ds0, p0, q0, hargs, rfl, rfl, h0, r0⟩ := trodAll_cons hA
  obtain ⟨v1, vs1, d1, ds1, p1, q1, rfl, rfl, rfl, h1, r1⟩ := trodAll_cons r0
  obtain ⟨rfl, rfl, rfl⟩ := trodAll_nil r1
  obtain rfl : args = #[v0, v1] := by cases args; simp_all
  obtain ⟨rfl, rfl⟩ := trodVars_none hV
  obtain ⟨a0, rfl, rfl, rfl, w0⟩ := open_string Try.underlying9 (hval 0 9 v0 rfl rfl) h0
  obtain ⟨a1, rfl, rfl, rfl, w1⟩ := open_string Try.underlying9 (hval 1 9 v1 rfl rfl) h1
  clear hA0 hval0
  refine (walk a0 a1 w0 w1 W).mono fun e W' ⟨he, bel⟩ => ?_
  subst he
  exact ⟨_, rfl, _, _, _, [], _, [], hW', trodAll_mk1 (shut_bool Try.underlying4 _), (trodAll_cons_mk (shut_string Try.underlying9 w0) (trodAll_cons_mk (shut_string Try.underlying9 w1) trodAll_mk0)), rfl, bel.frame _, fun h => by cases h⟩

theorem over : Rows.fnExactSplitStringRow.holds Try.pinned (OpenSpec.ofChange Rows.fnExactSplitStringSpec) :=
  OpenClaim.holds_of_wide 4 Try.f4 rfl rfl rfl rfl rfl rfl rfl ⟨rfl, rfl, rfl, rfl, rfl⟩ rfl rfl rfl rfl rfl (by kernel_rfl) Try.func4 (by kernel_rfl)
    (of_decide_eq_true (by kernel_rfl)) (by unfold Func.isWrapper; first | (rw [if_pos (by decide +kernel)]; kernel_rfl) | (rw [if_neg (by decide +kernel)]; exact ⟨rfl, rfl⟩))
    (fun os started H enc _ => lifted os started H enc)

theorem proved : Rows.FnExactSplitStringSaid :=
  over
#print axioms proved
end Go.Proofs.Ytiddeelndlfnmaa.fnExactSplitString
