/- For every list of bytes the law FnStrings returns true: FormatInt and ParseInt are inverse at what is drawn, AppendChecksum and VerifyChecksum too, and a checksummed text with one other byte is not verified. The card ties strconv's table to the program's text. No condition of mine. -/
import Derived.Test.YtiddeelndlfnmaaDoorCards
import Derived.Test.YtiddeelndlfnmaaDoorTie
import Derived.Test.YtiddeelndlfnmaaDoorDrawF
import Derived.Test.YtiddeelndlfnmaaDoorFmtAll
import Derived.Test.YtiddeelndlfnmaaDoorParse
import Derived.Test.YtiddeelndlfnmaaDoorFlip
import Derived.Test.YtiddeelndlfnmaaDoorCode
import Derived.Test.YtiddeelndlfnmaaDoorBytes
import Derived.WalkKit
import Derived.ProofKit
import Derived.OpenShut
import Derived.ShutString
import Derived.ChangeOld
import Derived.Below
import Derived.Stop.LaidErr
import Derived.Deep.DeepHandedRow
import Derived.Lib.LaidTab
import Derived.StillTailTactics
namespace Go.Proofs.YtiddeelndlfnmaaDoor.fnStrings
open Go.ChangeShapes Go.WideShapes Go.ChangeAt Go.RowKit
open Go.ChangeMaps (open_string shut_string)
open Go.Proofs.YtiddeelndlfnmaaDoor.code_ Go.Proofs.YtiddeelndlfnmaaDoor.cur
set_option linter.unusedVariables false

theorem bool_ne_self (b : Bool) : (b != b) = false := by simp
theorem str_ne_self (x : ByteArray) : (!(x.toList == x.toList)) = false := by simp

set_option maxRecDepth 100000 in
set_option maxHeartbeats 4000000 in
theorem walk (A : Option Addr) (n c : Nat) (z : List Int) (w : World) (w0 : IsRow .u8 w A n c z) (ht : Lib.TabIs Tryd.prog w "internal/strconv.uint64pow10" .u64 Lib.pow10Tab) :
    Calls Tryd.prog 3 #[.slice A n c] w fun e w' => e = .returned (.bool true) ∧ Below w.heap.size w w' := by
  obtain ⟨hby, hnc, -⟩ := bytes_of w0
  clear w0
  have hv := Lib.hid (fun w => vBig A n c w)
  by_cases hbig : (65536 : Int) < (n : Int)
  · clear hby ht
    go_enter Tryd.func3, Tryd.ntmps3
    go_wp2_with fail
    refine (hv.out _).mono ?_
    rintro e w1 ⟨rfl, rfl⟩
    go_wp2_with fail
    go_ret
    exact ⟨rfl, Below.refl _ _⟩
  · have hd : decide ((65536 : Int) < (n : Int)) = false := by simpa using hbig
    have hn : n ≤ 65536 := by omega
    have H := Lib.hid hby
    have HT := Lib.hid (fun w' (hb : Below w.heap.size w w') => fmt.tab_on ht hb)
    clear hby hbig ht
    go_enter Tryd.func3, Tryd.ntmps3
    go_wp2_with fail
    refine (hv.out _).mono ?_
    rintro e w1 ⟨rfl, rfl⟩
    go_wp2_with fail
    refine (draw.formatInt A n c _ hn H.out).mono ?_
    rintro e w1 ⟨num, rfl, hm0, hm1, hb1⟩
    have hF := Lib.hid (fun h => fmtall.back (n := num) h)
    have hFz := fmtall.size num
    have S1 := Lib.hid (fun w => fmtall.spec num w)
    have I1 := Lib.hid (fun w ht => fmtall.impl num w ht)
    have P1 := Lib.hid (fun w ht => parse.impl_any (fmtall.fmT num) w (by omega) ht)
    generalize fmtall.fmT num = T at *
    generalize fmtall.fmB num = F at *
    have hTT := str_ne_self T
    have hFF := bool_ne_self F
    clear hv
    go_wp2_with fail
    refine (I1.out _ (HT.out _ hb1)).mono ?_
    rintro e w2 ⟨rfl, hb2⟩
    have hbW2 := hb1.trans (hb2.mono hb1.size)
    go_wp2_with fail
    refine (S1.out _).mono ?_
    rintro e w3 ⟨rfl, j3, rfl⟩
    have hbW3 := aid.below_drewN hbW2 j3
    generalize w2.drewN j3 = w3 at *
    go_wp2_with fail
    refine (draw.parseInt A n c _ hn (Bytes_below H.out hbW3)).mono ?_
    rintro e w4 ⟨t, rfl, ht4, hb4⟩
    have hbW4 := hbW3.trans (hb4.mono hbW3.size)
    have S2 := Lib.hid (fun w => parse.spec_any t w)
    have I2 := Lib.hid (fun w ht => parse.impl_any t w (by omega) ht)
    generalize hM : read.rdN t = M at S2 I2
    generalize hG : read.rdB t = G at S2 I2
    have hGG := bool_ne_self G
    clear hM hG hb2 hb4 hb1 S1 I1
    go_wp2_with fail
    refine (I2.out _ (HT.out _ hbW4)).mono ?_
    rintro e w5 ⟨rfl, hb5⟩
    have hbW5 := hbW4.trans (hb5.mono hbW4.size)
    go_wp2_with fail
    refine (S2.out _).mono ?_
    rintro e w6 ⟨rfl, j6, rfl⟩
    have hbW6 := aid.below_drewN hbW5 j6
    generalize w5.drewN j6 = w6 at *
    clear hb5 hbW2 hbW3 hbW4 hbW5 S2 I2
    go_wp2_with fail
    refine (draw.appendChecksum A n c _ hn (Bytes_below H.out hbW6)).mono ?_
    rintro e w7 ⟨x, rfl, hx7, hb7⟩
    have hbW7 := hbW6.trans (hb7.mono hbW6.size)
    have S3 := Lib.hid (fun w => seal_.spec_any x w)
    have I3 := Lib.hid (fun w ht => seal_.impl_any x w ht)
    have hG3 := Lib.hid (fun h => flip_.good (x := x) h)
    generalize hy : seal_.apT x = y at *
    generalize hq : seal_.apB x = q at *
    have hyy := str_ne_self y
    have hqq := bool_ne_self q
    clear hb7
    go_wp2_with fail
    refine (I3.out _ (HT.out _ hbW7)).mono ?_
    rintro e w8 ⟨rfl, hb8⟩
    have hbW8 := hbW7.trans (hb8.mono hbW7.size)
    go_wp2_with fail
    refine (S3.out _).mono ?_
    rintro e w9 ⟨rfl, j9, rfl⟩
    have hbW9 := aid.below_drewN hbW8 j9
    generalize w8.drewN j9 = w9 at *
    clear hb8 hbW8 hbW7 hbW6 S3 I3
    go_wp2_with fail
    refine (P1.out _ (HT.out _ hbW9)).mono ?_
    rintro e w10 ⟨rfl, hb10⟩
    have hbW10 := hbW9.trans (hb10.mono hbW9.size)
    have hcond : ((F && (!(read.rdB T) || (read.rdN T != num))) = false) := by
      cases F
      · rfl
      · obtain ⟨h1, h2⟩ := hF.out rfl
        rw [h1, h2]; simp
    clear P1 hb10 hbW9 hF
    generalize read.rdB T = rb at *
    generalize read.rdN T = rn at *
    cases q
    · have hy0 : y = ⟨#[]⟩ := by rw [← hy]; unfold seal_.apT; rw [hq]; rfl
      clear hy hq hG3
      subst hy0
      cases F
      · go_wp2_with fail
        go_ret
        exact ⟨rfl, hbW10⟩
      · cases rb
        · simp at hcond
        · have hrn : (rn != num) = false := by simpa using hcond
          go_wp2_with fail
          go_ret
          exact ⟨rfl, hbW10⟩
    · have HG := Lib.hid (hG3.out rfl)
      have I4 := Lib.hid (fun w ht => verify.impl_any y w (by rw [HG.out.2.2.1]; have := HG.out.2.2.2.1; omega) ht)
      rw [HG.out.1, HG.out.2.1] at I4
      have hys : y.size ≤ 4000 := by rw [HG.out.2.2.1]; exact HG.out.2.2.2.1
      have hy0 : 0 < y.size := by rw [HG.out.2.2.1]; exact HG.out.2.2.2.2.1
      clear hG3 hy hq
      have hxx := str_ne_self x
      cases F
      · go_wp2_with fail
        refine (I4.out _ (HT.out _ hbW10)).mono ?_
        rintro e w11 ⟨rfl, hb11⟩
        have hbW11 := hbW10.trans (hb11.mono hbW10.size)
        clear hb11 hbW10
        go_wp2_with fail
        obtain ⟨cap, w12, hcv, hrow, hb12, hcap⟩ := bytes_.of_string w11 y
        have hbW12 := hbW11.trans (hb12.mono hbW11.size)
        rw [hcv]
        clear hcv hb12
        have HR := Lib.hid hrow
        have hyl : y.data.toList.length = y.size := by simp [← ByteArray.size_data]
        have hl0 : 0 < y.data.toList.length := by omega
        have hl4 : y.data.toList.length ≤ 4000 := by omega
        have HBad := Lib.hid (fun (k : Nat) (c u : UInt8) (yy : ByteArray) (hu : y.data.toList[k]? = some u) (hc : c ≠ u) (hyy : yy.data.toList = y.data.toList.set k c) => flip_.bad (x := x) (y := yy) HG.out.2.2.2.2.2 (HG.out.2.2.1 ▸ hu) hc (HG.out.2.2.1 ▸ hyy))
        have hgB := hbW11.size
        clear hrow hyl
        generalize y.data.toList = L at *
        generalize w11.heap.size = g at *
        go_wp2_with fail
        refine (vAt A n c 9 w12 (by omega) (by omega) hn (Bytes_below H.out hbW12)).mono ?_
        rintro e w13 ⟨r9, rfl, r90, r91, rfl⟩
        go_wp2_with fail
        obtain ⟨k, hk⟩ : ∃ k : Nat, r9 % (L.length : Int) = (k : Int) := Int.eq_ofNat_of_zero_le (Int.emod_nonneg _ (by omega))
        have hkl : k < L.length := by have := Int.emod_lt_of_pos r9 (show (0 : Int) < (L.length : Int) by omega); omega
        rw [hk]
        clear hk r90 r91
        obtain ⟨r10, s0, s1, hq10⟩ := vAt_fix A n c 10 w12 (by omega) (by omega) hn (Bytes_below H.out hbW12)
        have IQ : Calls Tryd.prog 19 #[.slice A n c, .int .i64 10] w12.drew fun e w'' => e = .returned (.int .i64 r10) ∧ w'' = w12.drew := (hq10 1).mono fun _ _ h => ⟨h.1, h.2.symm⟩
        have hrow : bytes_.BytesRow w12.drew g L := HR.out
        have hbW13 := hbW12.drew
        have IH := Lib.hid IQ
        clear IQ hq10 HR hbW12
        obtain ⟨u, hu⟩ : ∃ u, L[k]? = some u := ⟨_, List.getElem?_eq_getElem hkl⟩
        have hcell := hrow.1 k hkl
        have huk : L[k] = u := by rw [List.getElem?_eq_getElem hkl] at hu; exact Option.some.inj hu
        rw [huk] at hcell
        have hfz := hrow.2.1 k hkl
        have HU := Lib.hid hu
        have HR := Lib.hid hrow
        have hkl2 : (k : Int) < (L.length : Int) := by omega
        clear hu huk hrow
        refine wp_region_still_tail 12 (by kernel_rfl) (by kernel_rfl) ?_
        simp only [List.take_succ_cons, List.take_zero, List.drop_succ_cons, List.drop_zero]
        change wpStill _ _ w12.drew _ _ _
        change wpStill _ _ w12.drew (fun a' => wpList _ _ _ _ a' w12.drew) _ _
        generalize w12.drew = w13 at *
        repeat still_step
        still_call IH.out
        repeat still_step
        refine wpStill_nil ?_
        go_wp2_with fail
        obtain ⟨cb, hx, hcu⟩ := bytes_.xor_byte u (1 + r10 % 255) (by omega) (by omega)
        rw [hx]
        have hcv := bytes_.to_string (cap := cap) (n := L.length) (HR.out.set hkl cb) (by simp)
        rw [hcv]
        have hbW14 := hbW13.setCell (p := ⟨g, k, none⟩) hgB (.int .u8 (cb.toNat : Int))
        have hbad := HBad.out k cb u ⟨(L.set k cb).toArray⟩ HU.out hcu rfl
        have hYs : (⟨(L.set k cb).toArray⟩ : ByteArray).size ≤ 1048576 := by
          show (L.set k cb).toArray.size ≤ 1048576
          simp; omega
        have I5 := Lib.hid (verify.impl_any ⟨(L.set k cb).toArray⟩ _ hYs (HT.out _ hbW14))
        rw [hbad] at I5
        clear hcv hx hcell hfz hbW13 IH HR HU HBad hbad
        generalize (⟨(L.set k cb).toArray⟩ : ByteArray) = Y at *
        generalize verify.vfT Y = YT at *
        generalize w13.setCell ⟨g, k, none⟩ (.int .u8 (cb.toNat : Int)) = w14 at *
        go_wp2_with fail
        refine I5.out.mono ?_
        rintro e w15 ⟨rfl, hb15⟩
        go_wp2_with fail
        go_ret
        exact ⟨rfl, hbW14.trans (hb15.mono hbW14.size)⟩
      · cases rb
        · simp at hcond
        · have hrn : (rn != num) = false := by simpa using hcond
          go_wp2_with fail
          refine (I4.out _ (HT.out _ hbW10)).mono ?_
          rintro e w11 ⟨rfl, hb11⟩
          have hbW11 := hbW10.trans (hb11.mono hbW10.size)
          clear hb11 hbW10
          go_wp2_with fail
          obtain ⟨cap, w12, hcv, hrow, hb12, hcap⟩ := bytes_.of_string w11 y
          have hbW12 := hbW11.trans (hb12.mono hbW11.size)
          rw [hcv]
          clear hcv hb12
          have HR := Lib.hid hrow
          have hyl : y.data.toList.length = y.size := by simp [← ByteArray.size_data]
          have hl0 : 0 < y.data.toList.length := by omega
          have hl4 : y.data.toList.length ≤ 4000 := by omega
          have HBad := Lib.hid (fun (k : Nat) (c u : UInt8) (yy : ByteArray) (hu : y.data.toList[k]? = some u) (hc : c ≠ u) (hyy : yy.data.toList = y.data.toList.set k c) => flip_.bad (x := x) (y := yy) HG.out.2.2.2.2.2 (HG.out.2.2.1 ▸ hu) hc (HG.out.2.2.1 ▸ hyy))
          have hgB := hbW11.size
          clear hrow hyl
          generalize y.data.toList = L at *
          generalize w11.heap.size = g at *
          go_wp2_with fail
          refine (vAt A n c 9 w12 (by omega) (by omega) hn (Bytes_below H.out hbW12)).mono ?_
          rintro e w13 ⟨r9, rfl, r90, r91, rfl⟩
          go_wp2_with fail
          obtain ⟨k, hk⟩ : ∃ k : Nat, r9 % (L.length : Int) = (k : Int) := Int.eq_ofNat_of_zero_le (Int.emod_nonneg _ (by omega))
          have hkl : k < L.length := by have := Int.emod_lt_of_pos r9 (show (0 : Int) < (L.length : Int) by omega); omega
          rw [hk]
          clear hk r90 r91
          obtain ⟨r10, s0, s1, hq10⟩ := vAt_fix A n c 10 w12 (by omega) (by omega) hn (Bytes_below H.out hbW12)
          have IQ : Calls Tryd.prog 19 #[.slice A n c, .int .i64 10] w12.drew fun e w'' => e = .returned (.int .i64 r10) ∧ w'' = w12.drew := (hq10 1).mono fun _ _ h => ⟨h.1, h.2.symm⟩
          have hrow : bytes_.BytesRow w12.drew g L := HR.out
          have hbW13 := hbW12.drew
          have IH := Lib.hid IQ
          clear IQ hq10 HR hbW12
          obtain ⟨u, hu⟩ : ∃ u, L[k]? = some u := ⟨_, List.getElem?_eq_getElem hkl⟩
          have hcell := hrow.1 k hkl
          have huk : L[k] = u := by rw [List.getElem?_eq_getElem hkl] at hu; exact Option.some.inj hu
          rw [huk] at hcell
          have hfz := hrow.2.1 k hkl
          have HU := Lib.hid hu
          have HR := Lib.hid hrow
          have hkl2 : (k : Int) < (L.length : Int) := by omega
          clear hu huk hrow
          refine wp_region_still_tail 12 (by kernel_rfl) (by kernel_rfl) ?_
          simp only [List.take_succ_cons, List.take_zero, List.drop_succ_cons, List.drop_zero]
          change wpStill _ _ w12.drew _ _ _
          change wpStill _ _ w12.drew (fun a' => wpList _ _ _ _ a' w12.drew) _ _
          generalize w12.drew = w13 at *
          repeat still_step
          still_call IH.out
          repeat still_step
          refine wpStill_nil ?_
          go_wp2_with fail
          obtain ⟨cb, hx, hcu⟩ := bytes_.xor_byte u (1 + r10 % 255) (by omega) (by omega)
          rw [hx]
          have hcv := bytes_.to_string (cap := cap) (n := L.length) (HR.out.set hkl cb) (by simp)
          rw [hcv]
          have hbW14 := hbW13.setCell (p := ⟨g, k, none⟩) hgB (.int .u8 (cb.toNat : Int))
          have hbad := HBad.out k cb u ⟨(L.set k cb).toArray⟩ HU.out hcu rfl
          have hYs : (⟨(L.set k cb).toArray⟩ : ByteArray).size ≤ 1048576 := by
            show (L.set k cb).toArray.size ≤ 1048576
            simp; omega
          have I5 := Lib.hid (verify.impl_any ⟨(L.set k cb).toArray⟩ _ hYs (HT.out _ hbW14))
          rw [hbad] at I5
          clear hcv hx hcell hfz hbW13 IH HR HU HBad hbad
          generalize (⟨(L.set k cb).toArray⟩ : ByteArray) = Y at *
          generalize verify.vfT Y = YT at *
          generalize w13.setCell ⟨g, k, none⟩ (.int .u8 (cb.toNat : Int)) = w14 at *
          go_wp2_with fail
          refine I5.out.mono ?_
          rintro e w15 ⟨rfl, hb15⟩
          go_wp2_with fail
          go_ret
          exact ⟨rfl, hbW14.trans (hb15.mono hbW14.size)⟩


theorem own : ownKnob Tryd.prog.godebug = none := by kernel_rfl
theorem laidOut : laidOutB Tryd.prog = true := by kernel_rfl

theorem gTab : Tryd.prog.globalNamed "internal/strconv.uint64pow10" = some 1 := by kernel_rfl
theorem gTabType : (Tryd.prog.globals[1]?).map (·.type) = some 64 := by kernel_rfl
theorem cellsTab : Tryd.prog.cellsOf 64 = 20 := by kernel_rfl
theorem cellsU : Tryd.prog.cellsOf 35 = 1 := by kernel_rfl
theorem table {W : World} (h : laidMet Tryd.prog Rows.fnStringsRow.laid W) : Lib.TabIs Tryd.prog W "internal/strconv.uint64pow10" .u64 Lib.pow10Tab :=
  Lib.tabIs_of_head (rest := []) gTab gTabType Tryd.underlying64 Tryd.underlying35 cellsU cellsTab (laidMet.tail (laidMet.tail h))

theorem contract (H : Type) (enc : TypeId × Value → H) (W : World) (base : Nat) (args : Array Value) (ds gs : List (DataW H)) (before : List MemPlace)
    (hval : ∀ (j : Nat) t v, Tryd.f3.params[j]? = some t → args[j]? = some v → Value.okWide Tryd.prog W .any base t v)
    (hW : DataW.Whole enc Tryd.prog Tryd.f3.params.toList Rows.fnStringsSpec.vars false W args.toList ds gs before) (hL : laidMetH Tryd.prog Rows.fnStringsRow.laid W) :
    Calls Tryd.prog 3 args W fun e W' => ∃ v, e = .returned v ∧ Rows.fnStringsSpec.post enc Tryd.prog Tryd.f3 false true false false W args v W' := by
  have hW' := hW
  obtain ⟨p, q, hA0, hV, rfl, hfz, hnd⟩ := hW
  have hA : DataW.TrodAll enc Tryd.prog W 0 (fun _ => true) true Tryd.f3.params.toList args.toList ds p := hA0
  rw [Tryd.params3] at hA hval
  obtain ⟨v0, vs0, d0, ds0, p0, q0, hargs, rfl, rfl, h0, r0⟩ := trodAll_cons hA
  obtain ⟨rfl, rfl, rfl⟩ := trodAll_nil r0
  obtain rfl : args = #[v0] := by cases args; simp_all
  obtain ⟨rfl, rfl⟩ := trodVars_none hV
  obtain ⟨a0, len0, cap0, rfl⟩ := okWide_slice Tryd.underlying22 (hval 0 22 v0 rfl rfl)
  have k0 := h0
  have lt0 : ∀ x ∈ p0, x.block < W.heap.size := by obtain ⟨m, hm⟩ := k0; exact DataW.trod_lt m _ _ _ hm
  obtain ⟨z0, w0⟩ : ∃ zs, IsRow .u8 W a0 len0 cap0 zs := by
    obtain ⟨fuel, hf⟩ := h0
    rcases open_ints Tryd.underlying22 Tryd.underlying5 (by kernel_rfl) hf with ⟨hcs, _⟩ | ⟨x, l, c, zs, hcs, _, hl, hm, hz, _, hcell, hwz⟩
    · simp [Value.cells] at hcs
      obtain ⟨rfl, rfl, rfl⟩ := hcs
      exact ⟨[], .inl ⟨rfl, rfl, rfl, rfl⟩⟩
    · simp [Value.cells] at hcs
      obtain ⟨rfl, rfl, rfl⟩ := hcs
      exact ⟨zs, .inr ⟨_, rfl, hl, hm, by simpa using hz, hcell, hwz⟩⟩
  clear hA0
  refine (walk a0 len0 cap0 z0 W w0 (table hL)).mono fun e W' ⟨he, bel⟩ => ?_
  subst he
  exact ⟨_, rfl, _, _, _, [], _, [], hW', trodAll_mk1 (shut_bool Tryd.underlying4 _), (trodAll_cons_mk (Below.trod laidOut (by kernel_rfl) (of_decide_eq_true (by kernel_rfl)) k0 bel lt0) trodAll_mk0), rfl, bel.frame _, fun h => by cases h⟩

noncomputable def laidWorld (os : Os) : World :=
  { World.holding Tryd.prog os ⟨#[], #[], []⟩ with heap := ((((World.holding Tryd.prog os ⟨#[], #[], []⟩).heap.modify 1 fun
      | .cells _ t frozen => .cells #[.int .u64 1, .int .u64 10, .int .u64 100, .int .u64 1000, .int .u64 10000, .int .u64 100000, .int .u64 1000000, .int .u64 10000000, .int .u64 100000000, .int .u64 1000000000, .int .u64 10000000000, .int .u64 100000000000, .int .u64 1000000000000, .int .u64 10000000000000, .int .u64 100000000000000, .int .u64 1000000000000000, .int .u64 10000000000000000, .int .u64 100000000000000000, .int .u64 1000000000000000000, .int .u64 10000000000000000000] t frozen
      | o => o).modify 2 fun
      | .cells _ t frozen => .cells #[.int .u8 0, .int .u8 1, .int .u8 28, .int .u8 2, .int .u8 29, .int .u8 14, .int .u8 24, .int .u8 3, .int .u8 30, .int .u8 22, .int .u8 20, .int .u8 15, .int .u8 25, .int .u8 17, .int .u8 4, .int .u8 8, .int .u8 31, .int .u8 27, .int .u8 13, .int .u8 23, .int .u8 21, .int .u8 19, .int .u8 16, .int .u8 7, .int .u8 26, .int .u8 12, .int .u8 18, .int .u8 6, .int .u8 11, .int .u8 5, .int .u8 10, .int .u8 9] t frozen
      | o => o).modify 3 fun
      | .cells _ t frozen => .cells #[.int .u8 0, .int .u8 1, .int .u8 56, .int .u8 2, .int .u8 57, .int .u8 49, .int .u8 28, .int .u8 3, .int .u8 61, .int .u8 58, .int .u8 42, .int .u8 50, .int .u8 38, .int .u8 29, .int .u8 17, .int .u8 4, .int .u8 62, .int .u8 47, .int .u8 59, .int .u8 36, .int .u8 45, .int .u8 43, .int .u8 51, .int .u8 22, .int .u8 53, .int .u8 39, .int .u8 33, .int .u8 30, .int .u8 24, .int .u8 18, .int .u8 12, .int .u8 5, .int .u8 63, .int .u8 55, .int .u8 48, .int .u8 27, .int .u8 60, .int .u8 41, .int .u8 37, .int .u8 16, .int .u8 46, .int .u8 35, .int .u8 44, .int .u8 21, .int .u8 52, .int .u8 32, .int .u8 23, .int .u8 11, .int .u8 54, .int .u8 26, .int .u8 40, .int .u8 15, .int .u8 34, .int .u8 20, .int .u8 31, .int .u8 10, .int .u8 25, .int .u8 14, .int .u8 19, .int .u8 9, .int .u8 13, .int .u8 8, .int .u8 7, .int .u8 6] t frozen
      | o => o) }
theorem laid_met (os : Os) : laidMet Tryd.prog Rows.fnStringsRow.laid ((laidWorld os).forCall (fun _ _ => 0) ⟨#[], #[.slice none 0 0], []⟩).memory :=
  laidMet_of_run' 8 (by kernel_rfl) (by kernel_rfl)
theorem reads (os : Os) {H : Type} (enc : TypeId × Value → H) : ∃ places, DataW.whole enc Tryd.prog ((laidWorld os).forCall (fun _ _ => 0) ⟨#[], #[.slice none 0 0], []⟩).memory Tryd.f3.params.toList Rows.fnStringsSpec.vars false (#[.slice none 0 0] : Array Value).toList 8 = some ([.nil], [], places) :=
  ⟨[], by kernel_rfl⟩

set_option maxRecDepth 100000 in
theorem lifted (os : Os) (started : os.Started) (H : Type) (enc : TypeId × Value → H) (F : Stop.Interp) :
    ReturnsInHanded {} Tryd.checked os 3 .any ((OpenSpec.ofChange Rows.fnStringsSpec).preRow enc Tryd.prog Tryd.f3 Rows.fnStringsRow.domain false Rows.fnStringsRow.laid) (((OpenSpec.ofChange Rows.fnStringsSpec).at F).post enc Tryd.prog Tryd.f3 false true false false) := by
  obtain ⟨places, hx⟩ := reads os enc
  refine returnsInHanded_of_row (C := Tryd.checked) (s := OpenSpec.ofChange Rows.fnStringsSpec) own started (by kernel_rfl) Tryd.func3
    (witness_row_at (enc := enc) (C := Tryd.checked) false (laidWorld os) #[.slice none 0 0] rfl (by kernel_rfl) (by kernel_rfl) (by kernel_rfl)
      (OpenSpec.preRow_of_cond 8 hx (by kernel_rfl) (fun k hk => by cases hk) (by kernel_rfl) (laid_met os))) ?_
  intro W base args ds gs before hval hW _ _ _ hL _ _
  exact contract H enc W base args ds gs before hval hW hL

theorem said : Rows.FnStringsSaid :=
  OpenClaim.holds_of_cond 3 Tryd.f3 rfl rfl rfl rfl rfl rfl rfl ⟨rfl, rfl, rfl, rfl, rfl⟩ rfl rfl rfl rfl rfl (by kernel_rfl) Tryd.func3 (by kernel_rfl)
    (of_decide_eq_true (by kernel_rfl)) (by unfold Func.isWrapper; first | (rw [if_pos (by decide +kernel)]; kernel_rfl) | (rw [if_neg (by decide +kernel)]; exact ⟨rfl, rfl⟩))
    (fun os started H enc _ F => by rw [OpenClaim.pre_eq_preRow]; exact lifted os started H enc F)

theorem plain (f : FuncId) (fn : Func) (hf : Tryd.pinned.checked.prog.funcNamed "loop.example/g00875/laws.FnStrings" = some f) (hfn : Tryd.pinned.checked.prog.funcs[f]? = some fn) :
    false = Tryd.pinned.checked.prog.looks [] ∧ ∀ (j : Nat) t, fn.params[j]? = some t → Tryd.pinned.checked.prog.wantsStandIn t = false := by
  obtain rfl : f = 3 := Option.some.inj ((show Tryd.prog.funcNamed "loop.example/g00875/laws.FnStrings" = some 3 by kernel_rfl).symm.trans hf) |>.symm
  obtain rfl : fn = Tryd.f3 := (Option.some.inj (Tryd.func3.symm.trans hfn)).symm
  refine ⟨by kernel_rfl, fun j t ht => ?_⟩
  rw [Tryd.params3] at ht
  have hm := Array.mem_of_getElem? ht
  simp at hm
  obtain rfl := hm
  exact (show Tryd.prog.wantsStandIn 22 = false by kernel_rfl)

theorem proved : Rows.FnStringsCardSaid :=
  Claim7.holds_tied_plain_at .later [] _ _ _ _ said (fun _ h => by cases h) (by kernel_rfl) (fun _ h => by cases h) fnStrings_row_tie rfl ⟨rfl, rfl⟩ (by kernel_rfl) rfl plain (by kernel_rfl)
#print axioms proved
end Go.Proofs.YtiddeelndlfnmaaDoor.fnStrings
