/- For every list of bytes the law FnSplitJoin returns true: split and joined again every drawn text is itself; JoinStrings answers as its model at what is drawn; LessString is asymmetric. -/
import Derived.Test.YtiddeelndlfnmaaRows
import Derived.Test.YtiddeelndlfnmaaDrawSJ
import Derived.Test.YtiddeelndlfnmaaPieces
import Derived.Test.YtiddeelndlfnmaaLess
import Derived.Test.YtiddeelndlfnmaaCode
import Derived.WalkKit
import Derived.ProofKit
import Derived.OpenShut
import Derived.ShutString
import Derived.ChangeOld
import Derived.Below
namespace Go.Proofs.Ytiddeelndlfnmaa.fnSplitJoin
open Go.ChangeShapes Go.WideShapes Go.ChangeAt Go.RowKit
open Go.ChangeMaps (open_string shut_string)
open Go.Proofs.Ytiddeelndlfnmaa.code_ Go.Proofs.Ytiddeelndlfnmaa.cur Go.Proofs.Ytiddeelndlfnmaa.strs
set_option linter.unusedVariables false

/-- A row of strings in new memory, as a slice of its length. -/
theorem own_slice {w : World} {B e : Nat} {v : Value} {xs : List ByteArray} (h : w.ownsRow B e 1 v xs.length (xs.map Value.string)) : ∃ A c, v = .slice A xs.length c ∧ xs.length ≤ c := by
  rcases h.2 with ⟨hv, h0⟩ | ⟨g, cap, _, hv, _, _, hc, _⟩
  · exact ⟨none, 0, by rw [hv, h0], by omega⟩
  · exact ⟨_, _, hv, hc⟩

theorem bool_ne_self (b : Bool) : (b != b) = false := by simp
theorem str_ne_self (x : ByteArray) : (!(x.toList == x.toList)) = false := by simp

set_option maxHeartbeats 2000000 in
theorem walk (A : Option Addr) (n c : Nat) (z : List Int) (w : World) (w0 : IsRow .u8 w A n c z) :
    Calls Try.prog 3 #[.slice A n c] w fun e w' => e = .returned (.bool true) ∧ Below w.heap.size w w' := by
  obtain ⟨hby, hnc, -⟩ := bytes_of w0
  clear w0
  by_cases hbig : (65536 : Int) < (n : Int)
  · have hv := Lib.hid (fun w => vBig A n c w)
    clear hby
    go_enter Try.func3, Try.ntmps3
    go_wp2_with fail
    refine (hv.out _).mono ?_
    rintro e w1 ⟨rfl, rfl⟩
    go_wp2_with fail
    go_ret
    exact ⟨rfl, Below.refl _ _⟩
  · have hd : decide ((65536 : Int) < (n : Int)) = false := by simpa using hbig
    have hn : n ≤ 65536 := by omega
    have hv := Lib.hid (fun w => vBig A n c w)
    have H := Lib.hid hby
    clear hby hbig
    go_enter Try.func3, Try.ntmps3
    go_wp2_with fail
    refine (hv.out _).mono ?_
    rintro e w1 ⟨rfl, rfl⟩
    go_wp2_with fail
    refine (draw.split A n c _ hn H.out).mono ?_
    rintro e w1 ⟨s, sep, rfl, hs, hsep, hb1⟩
    have hs4 : (s.size : Int) ≤ 4000 := by omega
    cases hone : ((sep.size : Int) == 1)
    · have hbW := hb1
      have hone2 : ((sep.size : Int) != 1) = true := by rw [bne, hone]; rfl
      go_wp2_with fail
      refine (splitimpl.impl_no s sep w1 (.inr hone)).mono ?_
      rintro e w2 ⟨rfl, rfl⟩
      go_wp2_with fail
      refine (draw.join A n c _ hn (Bytes_below H.out hb1)).mono ?_
      rintro e w2 ⟨v, xs, y, rfl, ho, hwt, hxl, hy, hb2⟩
      obtain ⟨B, d, rfl, hcd⟩ := own_slice ho
      have hR := Rd.of_own ho rfl
      have hbW2 := hbW.trans (hb2.mono hbW.size)
      have HS := Lib.hid (fun w3 (hb3 : Below w2.heap.size w2 w3) => join_.spec_any xs B _ d y w3 (by omega) ((hR.below hb3 (Nat.le_refl _)).more hb3.size))
      have HI := Lib.hid (join_.impl_any xs B _ d y w2 (by omega) hcd hR)
      clear ho hR
      generalize join_.jT xs y = T at *
      generalize join_.jB xs y = F at *
      have hFF := bool_ne_self F
      have hTT := str_ne_self T
      go_wp2_with fail
      refine HI.out.mono ?_
      rintro e w3 ⟨rfl, hb3⟩
      go_wp2_with fail
      refine (HS.out w3 hb3).mono ?_
      rintro e w4 ⟨rfl, hb4⟩
      have hkeep := hb3.trans (hb4.mono hb3.size)
      have hbW4 := hbW2.trans (hkeep.mono hbW2.size)
      go_wp2_with fail
      refine (draw.less A n c _ hn (Bytes_below H.out hbW4)).mono ?_
      rintro e w5 ⟨a, b, rfl, ha, hb, hb5⟩
      have hbW5 := hbW4.trans (hb5.mono hbW4.size)
      have hkeep5 := hkeep.trans (hb5.mono hkeep.size)
      have X1 := Lib.hid (fun w => less_.impl a b w)
      have X2 := Lib.hid (fun w => less_.spec a b w)
      have X3 := Lib.hid (fun w => less_.impl b a w)
      have hAs := less_.asym a b
      clear HS HI hb3 hb4 hkeep hbW4 hb5
      generalize less_.lt a b = p at *
      generalize less_.lt b a = q at *
      have hpp := bool_ne_self p
      cases p
      · clear hAs
        go_wp2_with fail
        refine (X1.out _).mono ?_
        rintro e w6 ⟨rfl, rfl⟩
        go_wp2_with fail
        refine (X2.out _).mono ?_
        rintro e w6 ⟨rfl, rfl⟩
        go_wp2_with fail
        refine (X1.out _).mono ?_
        rintro e w6 ⟨rfl, rfl⟩
        go_wp2_with fail
        go_ret
        exact ⟨rfl, hbW5⟩
      · obtain rfl : q = false := by simpa using hAs
        clear hAs
        go_wp2_with fail
        refine (X1.out _).mono ?_
        rintro e w6 ⟨rfl, rfl⟩
        go_wp2_with fail
        refine (X2.out _).mono ?_
        rintro e w6 ⟨rfl, rfl⟩
        go_wp2_with fail
        refine (X1.out _).mono ?_
        rintro e w6 ⟨rfl, rfl⟩
        go_wp2_with fail
        refine (X3.out _).mono ?_
        rintro e w6 ⟨rfl, rfl⟩
        go_wp2_with fail
        go_ret
        exact ⟨rfl, hbW5⟩
    · have hone2 : ((sep.size : Int) != 1) = false := by rw [bne, hone]; rfl
      have hs1 : sep.size = 1 := by simp at hone; omega
      have h0 : 0 < sep.size := by omega
      go_wp2_with fail
      refine (splitimpl.impl_yes s sep w1 hs4 h0 hone).mono ?_
      rintro e w1b ⟨lv, ls, rfl, hlo, hlb, hlp⟩
      have hbW := hb1.trans (hlb.mono hb1.size)
      obtain ⟨LA, lc, rfl, hlc⟩ := own_slice hlo
      have HLR := Lib.hid (Rd.of_own (n := ls.length) hlo rfl)
      obtain ⟨hk1, hk2, hk3⟩ := split_.back h0 hs1 (by omega) hlp
      have HBk := Lib.hid (And.intro hk1 hk2)
      have hss := str_ne_self s
      clear hk1 hk2 hlo hlp
      go_wp2_with fail
      refine (draw.join A n c _ hn (Bytes_below H.out hbW)).mono ?_
      rintro e w2 ⟨v, xs, y, rfl, ho, hwt, hxl, hy, hb2⟩
      obtain ⟨B, d, rfl, hcd⟩ := own_slice ho
      have hR := Rd.of_own ho rfl
      have hbW2 := hbW.trans (hb2.mono hbW.size)
      have HS := Lib.hid (fun w3 (hb3 : Below w2.heap.size w2 w3) => join_.spec_any xs B _ d y w3 (by omega) ((hR.below hb3 (Nat.le_refl _)).more hb3.size))
      have HI := Lib.hid (join_.impl_any xs B _ d y w2 (by omega) hcd hR)
      clear ho hR
      generalize join_.jT xs y = T at *
      generalize join_.jB xs y = F at *
      have hFF := bool_ne_self F
      have hTT := str_ne_self T
      go_wp2_with fail
      refine HI.out.mono ?_
      rintro e w3 ⟨rfl, hb3⟩
      go_wp2_with fail
      refine (HS.out w3 hb3).mono ?_
      rintro e w4 ⟨rfl, hb4⟩
      have hkeep := hb3.trans (hb4.mono hb3.size)
      have hbW4 := hbW2.trans (hkeep.mono hbW2.size)
      go_wp2_with fail
      refine (draw.less A n c _ hn (Bytes_below H.out hbW4)).mono ?_
      rintro e w5 ⟨a, b, rfl, ha, hb, hb5⟩
      have hbW5 := hbW4.trans (hb5.mono hbW4.size)
      have hkeep5 := hkeep.trans (hb5.mono hkeep.size)
      have X1 := Lib.hid (fun w => less_.impl a b w)
      have X2 := Lib.hid (fun w => less_.spec a b w)
      have X3 := Lib.hid (fun w => less_.impl b a w)
      have hAs := less_.asym a b
      clear HS HI hb3 hb4 hkeep hbW4 hb5
      generalize less_.lt a b = p at *
      generalize less_.lt b a = q at *
      have hpp := bool_ne_self p
      cases p
      · clear hAs
        go_wp2_with fail
        refine (X1.out _).mono ?_
        rintro e w6 ⟨rfl, rfl⟩
        go_wp2_with fail
        refine (X2.out _).mono ?_
        rintro e w6 ⟨rfl, rfl⟩
        go_wp2_with fail
        refine (X1.out _).mono ?_
        rintro e w6 ⟨rfl, rfl⟩
        go_wp2_with fail
        refine (join_.impl_any ls LA _ lc sep w5 (by omega) hlc ((HLR.out.below (hb2.trans (hkeep5.mono hb2.size)) (Nat.le_refl _)).more (Nat.le_trans hb2.size hkeep5.size))).mono ?_
        rintro e w6 ⟨rfl, hb6⟩
        rw [HBk.out.1, HBk.out.2]
        go_wp2_with fail
        go_ret
        exact ⟨rfl, hbW5.trans (hb6.mono hbW5.size)⟩
      · obtain rfl : q = false := by simpa using hAs
        clear hAs
        go_wp2_with fail
        refine (X1.out _).mono ?_
        rintro e w6 ⟨rfl, rfl⟩
        go_wp2_with fail
        refine (X2.out _).mono ?_
        rintro e w6 ⟨rfl, rfl⟩
        go_wp2_with fail
        refine (X1.out _).mono ?_
        rintro e w6 ⟨rfl, rfl⟩
        go_wp2_with fail
        refine (X3.out _).mono ?_
        rintro e w6 ⟨rfl, rfl⟩
        go_wp2_with fail
        refine (join_.impl_any ls LA _ lc sep w5 (by omega) hlc ((HLR.out.below (hb2.trans (hkeep5.mono hb2.size)) (Nat.le_refl _)).more (Nat.le_trans hb2.size hkeep5.size))).mono ?_
        rintro e w6 ⟨rfl, hb6⟩
        rw [HBk.out.1, HBk.out.2]
        go_wp2_with fail
        go_ret
        exact ⟨rfl, hbW5.trans (hb6.mono hbW5.size)⟩


theorem own : ownKnob Try.prog.godebug = none := by kernel_rfl
theorem laidOut : laidOutB Try.prog = true := by kernel_rfl

set_option maxRecDepth 100000 in
theorem lifted (os : Os) (started : os.Started) (H : Type) (enc : TypeId × Value → H) :
    ReturnsInHanded {} Try.checked os 3 .any (Rows.fnSplitJoinSpec.pre6 enc Try.prog Try.f3 Rows.fnSplitJoinRow.domain false) (Rows.fnSplitJoinSpec.post enc Try.prog Try.f3 false true false false) := by
  refine returnsInHanded_of_change (C := Try.checked) own started (by kernel_rfl) Try.func3
    (ChangeSpec.witness6 (enc := enc) (C := Try.checked) false ⟨#[], #[.slice none 0 0], []⟩ 8 (by kernel_rfl) (by kernel_rfl) (by kernel_rfl) (by kernel_rfl)) ?_
  intro W base args ds gs before hval0 hW hcnd _
  have hval : ∀ (j : Nat) t v, Try.f3.params[j]? = some t → args[j]? = some v → Value.okWide Try.prog W .any base t v := hval0
  have hW' := hW
  obtain ⟨p, q, hA0, hV, rfl, hfz, hnd⟩ := hW
  have hA : DataW.TrodAll enc Try.prog W 0 (fun _ => true) true Try.f3.params.toList args.toList ds p := hA0
  rw [Try.params3] at hA hval
  obtain ⟨v0, vs0, d0, ds0, p0, q0, hargs, rfl, rfl, h0, r0⟩ := trodAll_cons hA
  obtain ⟨rfl, rfl, rfl⟩ := trodAll_nil r0
  obtain rfl : args = #[v0] := by cases args; simp_all
  obtain ⟨rfl, rfl⟩ := trodVars_none hV
  obtain ⟨a0, len0, cap0, rfl⟩ := okWide_slice Try.underlying22 (hval 0 22 v0 rfl rfl)
  have k0 := h0
  have lt0 : ∀ x ∈ p0, x.block < W.heap.size := by obtain ⟨m, hm⟩ := k0; exact DataW.trod_lt m _ _ _ hm
  obtain ⟨z0, w0⟩ : ∃ zs, IsRow .u8 W a0 len0 cap0 zs := by
    obtain ⟨fuel, hf⟩ := h0
    rcases open_ints Try.underlying22 Try.underlying5 (by kernel_rfl) hf with ⟨hcs, _⟩ | ⟨x, l, c, zs, hcs, _, hl, hm, hz, _, hcell, hwz⟩
    · simp [Value.cells] at hcs
      obtain ⟨rfl, rfl, rfl⟩ := hcs
      exact ⟨[], .inl ⟨rfl, rfl, rfl, rfl⟩⟩
    · simp [Value.cells] at hcs
      obtain ⟨rfl, rfl, rfl⟩ := hcs
      exact ⟨zs, .inr ⟨_, rfl, hl, hm, by simpa using hz, hcell, hwz⟩⟩
  clear hA0 hval0
  refine (walk a0 len0 cap0 z0 W w0).mono fun e W' ⟨he, bel⟩ => ?_
  subst he
  exact ⟨_, rfl, _, _, _, [], _, [], hW', trodAll_mk1 (shut_bool Try.underlying4 _), (trodAll_cons_mk (Below.trod laidOut (by kernel_rfl) (of_decide_eq_true (by kernel_rfl)) k0 bel lt0) trodAll_mk0), rfl, bel.frame _, fun h => by cases h⟩

theorem over : Rows.fnSplitJoinRow.holds Try.pinned (OpenSpec.ofChange Rows.fnSplitJoinSpec) :=
  OpenClaim.holds_of_wide 3 Try.f3 rfl rfl rfl rfl rfl rfl rfl ⟨rfl, rfl, rfl, rfl, rfl⟩ rfl rfl rfl rfl rfl (by kernel_rfl) Try.func3 (by kernel_rfl)
    (of_decide_eq_true (by kernel_rfl)) (by unfold Func.isWrapper; first | (rw [if_pos (by decide +kernel)]; kernel_rfl) | (rw [if_neg (by decide +kernel)]; exact ⟨rfl, rfl⟩))
    (fun os started H enc _ => lifted os started H enc)

theorem proved : Rows.FnSplitJoinSaid :=
  over
#print axioms proved
end Go.Proofs.Ytiddeelndlfnmaa.fnSplitJoin
