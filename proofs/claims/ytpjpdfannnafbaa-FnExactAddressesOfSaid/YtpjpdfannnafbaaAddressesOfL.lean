/- For every slice of frames the law FnExactAddressesOf returns true: impl.AddressesOf and spec.AddressesOf return the different addresses of a list of at most twenty valid frames in ascending order, or both an empty slice and false; the argument is left as it was, the results share no memory. No condition. -/
import Derived.Test.YtpjpdfannnafbaaRows
import Derived.Test.YtpjpdfannnafbaaFrmO
import Derived.Test.YtpjpdfannnafbaaFrmW
import Derived.Test.YtpjpdfannnafbaaInts
import Derived.Test.YtpjpdfannnafbaaFrmA
import Derived.Test.YtpjpdfannnafbaaFrmG
import Derived.WalkKit
import Derived.ProofKit
import Derived.OpenShut
import Derived.ShutString
import Derived.ChangeOld
import Derived.Below
namespace Go.Proofs.Ytpjpdfannnafbaa.fnExactAddressesOf
open Go.ChangeShapes Go.WideShapes Go.ChangeAt Go.RowKit
open Go.ChangeMaps (open_string shut_string)
open Go.Proofs.Ytpjpdfannnafbaa.ints Go.Proofs.Ytpjpdfannnafbaa.frmz Go.Proofs.Ytpjpdfannnafbaa.frmw
set_option linter.unusedVariables false

theorem own_marks {w : World} {B e n c : Nat} {A : Option Addr} {k : Nat} (h : w.ownsRow B e 1 (.slice A n c) n (cellsI (marksI k n))) : RdI w w.heap.size A n (marksI k n) :=
  RdI.of_own (xs := marksI k n) (by rw [marksI_length]; exact h) (marksI_length k n).symm

/-- The function f returns these numbers and this bool, in new memory. -/
def Gives (f : Nat) (z0 : List Int) (n : Nat) (V : List Int) (O : Bool) : Prop := ∀ (A : Option Addr) (c : Nat) (w : World), RdZ 3 w w.heap.size A n z0 →
  Calls Try.prog f #[.slice A n c] w fun e w' => ∃ v, e = .returned (.tuple #[v, .bool O]) ∧ w'.ownsRow w.heap.size 3 1 v V.length (cellsI V) ∧ Below w.heap.size w w'

set_option maxHeartbeats 2000000 in
theorem law_of (a0 : Option Addr) (n c : Nat) (z0 : List Int) (V : List Int) (O : Bool) (hV : V.length ≤ 1048576) (hn : n ≤ 1048576) (w : World) (hrd : RdZ 3 w w.heap.size a0 n z0)
    (hs : Gives 21 z0 n V O) (hi : Gives 20 z0 n V O) :
    Calls Try.prog 10 #[.slice a0 n c] w fun e w' => e = .returned (.bool true) ∧ Below w.heap.size w w' := by
  have HZ := Lib.hid (sz a0 n c w (by unfold maxLen; omega))
  rw [if_pos hn] at HZ
  have HS := Lib.hid hs
  have HI := Lib.hid hi
  have HR := Lib.hid hrd
  have HC := Lib.hid (fun (w' : World) (hb : Below w.heap.size w w') => copyF z0 a0 n c w' hn (hrd.next hb))
  have HL := Lib.hid hrd.1
  have HV := Lib.hid hV
  have HB := Lib.hid (show (O != O) = false by cases O <;> rfl)
  have d0 : decide ((1048576 : Int) - (n : Int) < 0) = false := decide_eq_false (by omega)
  clear hs hi hrd
  go_enter Try.func10, Try.ntmps10
  go_wp2_with fail
  refine HZ.out.mono ?_
  rintro e w' ⟨rfl, rfl⟩
  go_wp2_with fail
  refine (HC.out w (Below.refl _ _)).mono ?_
  rintro e w1 ⟨g1, rfl, ho1, hb1⟩
  have r1 := RdZ.of_own ho1 HL.out
  go_wp2_with fail
  refine (HS.out _ _ w1 r1).mono ?_
  rintro e w2 ⟨v2, rfl, ho2, hb2⟩
  obtain ⟨A2, c2, rfl⟩ := own_slice ho2
  have rd2 := RdI.of_own ho2 rfl
  have hb02 := hb1.trans (hb2.mono hb1.size)
  clear ho1 hb1 hb2 r1 ho2
  go_wp2_with fail
  refine (HC.out w2 hb02).mono ?_
  rintro e w3 ⟨g3, rfl, ho3, hb3⟩
  have r3 := RdZ.of_own ho3 HL.out
  go_wp2_with fail
  refine (HI.out _ _ w3 r3).mono ?_
  rintro e w4 ⟨v4, rfl, ho4, hb4⟩
  obtain ⟨A4, c4, rfl⟩ := own_slice ho4
  have rd4 := RdI.of_own ho4 rfl
  have hb24 := hb3.trans (hb4.mono hb3.size)
  have r34 := r3.next hb4
  have SZ1 := Lib.hid hb4.size
  have ho34 := own_.own_below ho3 hb4
  have gl := own_row_lt ho3
  have sz3 := hb3.size
  have HE1 := Lib.hid (eq_same V A4 A2 V.length c4 c2 w4 (by omega) rd4 (rd2.next hb24))
  generalize hN : V.length = N at *
  have HN := Lib.hid hN
  clear hN ho3 hb3 hb4 r3 rd4
  go_wp2_with (go_at_call 34; refine HE1.out.mono ?_; rintro e w' ⟨rfl, j, rfl⟩)
  have ho4' := own_.own_drewN ho4 j
  have ho34' := own_.own_drewN ho34 j
  have hb24' := aid.below_drewN hb24 j
  have r34' : RdZ 3 (w4.drewN j) (w4.drewN j).heap.size (some ⟨g3, 0, none⟩) n z0 := r34
  clear ho4 ho34 hb24 r34 HE1
  have SZ2 := Lib.hid (show w3.heap.size ≤ (w4.drewN j).heap.size from SZ1.out)
  generalize w4.drewN j = w5 at *
  refine (HC.out w5 (hb02.trans (hb24'.mono hb02.size))).mono ?_
  rintro e w6 ⟨g6, rfl, ho6, hb6⟩
  have r6 := RdZ.of_own ho6 HL.out
  have r36 := r34'.next hb6
  clear ho6 r34'
  go_wp2_with fail
  refine (eqF z0 _ _ n n n w6 (by omega) r36 r6).mono ?_
  rintro e w7 ⟨rfl, hb7⟩
  have hb57 := hb6.trans (hb7.mono hb6.size)
  have ho47 := own_.own_below ho4' hb57
  have ho37 := own_.own_below ho34' hb57
  have hb27 := hb24'.trans (hb57.mono hb24'.size)
  have SZ3 := Lib.hid (Nat.le_trans SZ2.out hb57.size)
  clear hb6 hb7 r6 r36 ho4' ho34' hb24' hb57
  go_wp2_with fail
  refine (markF w2.heap.size (some ⟨g3, 0, none⟩) 1 n n _ w7 (by omega) ho37).mono ?_
  rintro e w8 ⟨rfl, hb8, hg8⟩
  have ho48 := own_kept ho47 hg8 gl
  have hb28 := hb27.trans hb8
  have rd4 := RdI.of_own (xs := V) (by rw [HN.out]; exact ho48) HN.out.symm
  have HE2 := Lib.hid (eq_same V A4 A2 N c4 c2 w8 (by omega) rd4 (rd2.next hb28))
  have SZ := Lib.hid (Nat.le_trans SZ3.out hb8.size)
  have K8 : decide (((1 + n * 3 : Nat) : Int) < 0) = false := decide_eq_false (by omega)
  clear ho47 ho37 hb27 hb8 hg8 rd4
  go_wp2_with (go_at_call 34; refine HE2.out.mono ?_; rintro e w' ⟨rfl, j9, rfl⟩)
  have ho49 := own_.own_drewN ho48 j9
  have hb29 := aid.below_drewN hb28 j9
  have sz8 := hb28.size
  have sz48 : w3.heap.size ≤ w8.heap.size := SZ.out
  clear HE2 ho48 hb28
  refine (Go.Proofs.Ytpjpdfannnafbaa.ints.mark w3.heap.size A4 1 N c4 _ (w8.drewN j9) (by omega) ho49).mono ?_
  rintro e w10 ⟨rfl, hb10, ho10⟩
  have r10 := own_marks ho10
  have hb210 := hb29.trans (hb10.mono sz3)
  clear ho49 hb29 hb10 ho10
  go_wp2_with fail
  refine (Go.Proofs.Ytpjpdfannnafbaa.ints.held A4 1 N c4 w10 (by omega) r10).mono ?_
  rintro e w11 ⟨rfl, rfl⟩
  have K11 : decide (((1 + N : Nat) : Int) < 0) = false := decide_eq_false (by omega)
  have K12 : (((1 + N : Nat) : Int) != ((1 + N : Nat) : Int)) = false := by simp
  go_wp2_with fail
  refine (HC.out w10 (hb02.trans (hb210.mono hb02.size))).mono ?_
  rintro e w12 ⟨g12, rfl, ho12, hb12⟩
  have r12 := RdZ.of_own ho12 HL.out
  go_wp2_with fail
  refine (HI.out _ _ w12 r12).mono ?_
  rintro e w13 ⟨v13, rfl, ho13, hb13⟩
  obtain ⟨A13, c13, rfl⟩ := own_slice ho13
  have rd13 := RdI.of_own ho13 rfl
  have hb1013 := hb12.trans (hb13.mono hb12.size)
  have r13 := r10.next hb1013
  have hb213 := hb210.trans (hb1013.mono hb210.size)
  rw [HN.out] at rd13 ⊢
  have HE3 := Lib.hid (eq_same V A13 A2 N c13 c2 w13 (by omega) rd13 (rd2.next hb213))
  clear ho12 hb12 r12 ho13 hb13 rd13 hb1013 r10
  go_wp2_with (go_at_call 34; refine HE3.out.mono ?_; rintro e w' ⟨rfl, j14, rfl⟩)
  have r14 : RdI (w13.drewN j14) (w13.drewN j14).heap.size A4 N (marksI 1 N) := r13
  refine (Go.Proofs.Ytpjpdfannnafbaa.ints.held A4 1 N c4 (w13.drewN j14) (by omega) r14).mono ?_
  rintro e w15 ⟨rfl, rfl⟩
  go_wp2_with fail
  go_ret
  exact ⟨rfl, aid.below_drewN (hb02.trans (hb213.mono hb02.size)) j14⟩

theorem walk (a0 : Option Addr) (len0 cap0 : Nat) (z0 : List Int) (w : World) (w0 : RdZ 3 w w.heap.size a0 len0 z0) (n0 : len0 ≤ maxLen) :
    Calls Try.prog 10 #[.slice a0 len0 cap0] w fun e w' => e = .returned (.bool true) ∧ Below w.heap.size w w' := by
  by_cases hn : len0 ≤ 1048576
  · exact law_of a0 len0 cap0 z0 (frma.adV z0 len0) (frmw.listB z0 len0) (Nat.le_trans (frma.adV_length z0 len0) hn) hn w w0 (fun A c w h => frma.addressesOf z0 A len0 c w (by omega) h) (fun A c w h => frmg.addressesOf z0 A len0 c w (by omega) h)
  · have HZ := Lib.hid (sz a0 len0 cap0 w n0)
    rw [if_neg hn] at HZ
    clear w0 n0 hn
    go_enter Try.func10, Try.ntmps10
    go_wp2_with fail
    refine HZ.out.mono ?_
    rintro e w' ⟨rfl, rfl⟩
    go_wp2_with fail
    go_ret
    exact ⟨rfl, Below.refl _ _⟩

theorem own : ownKnob Try.prog.godebug = none := by kernel_rfl
theorem laidOut : laidOutB Try.prog = true := by kernel_rfl

set_option maxRecDepth 100000 in
theorem lifted (os : Os) (started : os.Started) (H : Type) (enc : TypeId × Value → H) :
    ReturnsInHanded {} Try.checked os 10 .any (Rows.fnExactAddressesOfSpec.pre6 enc Try.prog Try.f10 Rows.fnExactAddressesOfRow.domain false) (Rows.fnExactAddressesOfSpec.post enc Try.prog Try.f10 false true false false) := by
  refine returnsInHanded_of_change (C := Try.checked) own started (by kernel_rfl) Try.func10
    (ChangeSpec.witness6 (enc := enc) (C := Try.checked) false ⟨#[], #[.slice none 0 0], []⟩ 8 (by kernel_rfl) (by kernel_rfl) (by kernel_rfl) (by kernel_rfl)) ?_
  intro W base args ds gs before hval0 hW hcnd _
  have hval : ∀ (j : Nat) t v, Try.f10.params[j]? = some t → args[j]? = some v → Value.okWide Try.prog W .any base t v := hval0
  have hW' := hW
  obtain ⟨p, q, hA0, hV, rfl, hfz, hnd⟩ := hW
  have hA : DataW.TrodAll enc Try.prog W 0 (fun _ => true) true Try.f10.params.toList args.toList ds p := hA0
  rw [Try.params10] at hA hval
  obtain ⟨v0, vs0, d0, ds0, p0, q0, hargs, rfl, rfl, h0, r0⟩ := trodAll_cons hA
  obtain ⟨rfl, rfl, rfl⟩ := trodAll_nil r0
  obtain rfl : args = #[v0] := by cases args; simp_all
  obtain ⟨rfl, rfl⟩ := trodVars_none hV
  obtain ⟨a0, len0, cap0, rfl⟩ := okWide_slice Try.underlying52 (hval 0 52 v0 rfl rfl)
  have k0 := h0
  have lt0 : ∀ x ∈ p0, x.block < W.heap.size := by obtain ⟨m, hm⟩ := k0; exact DataW.trod_lt m _ _ _ hm
  obtain ⟨z0, w0, n0⟩ : ∃ zs, frmz.RdZ 3 W W.heap.size a0 len0 zs ∧ len0 ≤ maxLen := by
    obtain ⟨fuel, hf⟩ := h0
    obtain ⟨A, n, c, zs, hcs, hrd, hle⟩ := frmo.open_structs Try.underlying52 Try.underlying39 (by kernel_rfl) (by kernel_rfl) (by decide) (by
        intro j f hg
        match j, hg with
        | 0, hg => exact (Option.some.inj hg) ▸ Try.underlying3
        | 1, hg => exact (Option.some.inj hg) ▸ Try.underlying3
        | 2, hg => exact (Option.some.inj hg) ▸ Try.underlying3
        | q + 3, hg => exact absurd (Array.getElem?_eq_some_iff.1 hg).1 (by simp)) hf
    simp [Value.cells] at hcs
    obtain ⟨rfl, rfl, rfl⟩ := hcs
    exact ⟨zs, hrd, hle⟩
  clear hA0 hval0
  refine (walk a0 len0 cap0 z0 W w0 n0).mono fun e W' ⟨he, bel⟩ => ?_
  subst he
  exact ⟨_, rfl, _, _, _, [], _, [], hW', trodAll_mk1 (shut_bool Try.underlying4 _), (trodAll_cons_mk (Below.trod laidOut (by kernel_rfl) (of_decide_eq_true (by kernel_rfl)) k0 bel lt0) trodAll_mk0), rfl, bel.frame _, fun h => by cases h⟩

theorem over : Rows.fnExactAddressesOfRow.holds Try.pinned (OpenSpec.ofChange Rows.fnExactAddressesOfSpec) :=
  OpenClaim.holds_of_wide 10 Try.f10 rfl rfl rfl rfl rfl rfl rfl ⟨rfl, rfl, rfl, rfl, rfl⟩ rfl rfl rfl rfl rfl (by kernel_rfl) Try.func10 (by kernel_rfl)
    (of_decide_eq_true (by kernel_rfl)) (by unfold Func.isWrapper; first | (rw [if_pos (by decide +kernel)]; kernel_rfl) | (rw [if_neg (by decide +kernel)]; exact ⟨rfl, rfl⟩))
    (fun os started H enc _ => lifted os started H enc)

theorem proved : Rows.FnExactAddressesOfSaid :=
  over
#print axioms proved
end Go.Proofs.Ytpjpdfannnafbaa.fnExactAddressesOf
