/- For every code of at most 65536 bytes (and trivially for a longer one) the law FnHeights returns true: what it draws are numbers in range and short texts, whatever the bytes are; texts, nearest heights and rates are answered as the model answers, heights are recovered from their texts, no height of the kind next to the nearest one is nearer, and climbing back has the opposite rate. The card ties the three tables of strconv and math/bits to the program. No condition of mine. -/
import Derived.Test.YtbjlhnhmdhjleaaDoorCards
import Derived.Test.YtbjlhnhmdhjleaaDoorTie
import Derived.Test.YtbjlhnhmdhjleaaDoorDrawI
import Derived.Test.YtbjlhnhmdhjleaaDoorHgtV
import Derived.Test.YtbjlhnhmdhjleaaDoorHgtH
import Derived.Test.YtbjlhnhmdhjleaaDoorCode
import Derived.WalkKit
import Derived.ProofKit
import Derived.OpenShut
import Derived.ShutString
import Derived.ChangeOld
import Derived.Below
import Derived.Deep.DeepCutAuto
import Derived.Stop.LaidErr
import Derived.Deep.DeepHandedRow
import Derived.Lib.LaidTab
namespace Go.Proofs.YtbjlhnhmdhjleaaDoor.fnHeights
open Go.ChangeShapes Go.WideShapes Go.ChangeAt Go.RowKit
open Go.ChangeMaps (open_string shut_string)
open Go.Proofs.YtbjlhnhmdhjleaaDoor.code_ Go.Proofs.YtbjlhnhmdhjleaaDoor.cur Go.Proofs.YtbjlhnhmdhjleaaDoor.hgt Go.Proofs.YtbjlhnhmdhjleaaDoor.hgtt
set_option linter.unusedVariables false

theorem bool_ne_self (b : Bool) : (b != b) = false := by simp
theorem bool_eq_self (b : Bool) : (b == b) = true := by simp
theorem int_ne_self (b : Int) : (b != b) = false := by simp
theorem int_eq_self (b : Int) : (b == b) = true := by simp
theorem str_ne_self (x : ByteArray) : (!(x.toList == x.toList)) = false := by simp

theorem size (x : Int) (w : World) (h0 : -1000000 ≤ x) (h1 : x ≤ 1000000) :
    Calls Tryd.prog 17 #[.int .i64 x] w fun e w' => e = .returned (.int .i64 (ab x)) ∧ w = w' := by
  by_cases h : x < 0
  · have e : ab x = -x := if_pos h
    rw [e]
    clear e
    go_enter Tryd.func17, Tryd.ntmps17
    go_wp2_with fail
    go_ret
    exact ⟨rfl, rfl⟩
  · have e : ab x = x := if_neg h
    rw [e]
    clear e
    go_enter Tryd.func17, Tryd.ntmps17
    go_wp2_with fail
    go_ret
    exact ⟨rfl, rfl⟩
theorem cr_bd (a f b t : Int) : -8000000 ≤ crN a f b t ∧ crN a f b t ≤ 8000000 := by
  unfold crN
  cases h : crB a f b t
  · simp
  · simp only [if_true]
    unfold crB hB at h
    simp only [Bool.and_eq_true, decide_eq_true_eq] at h
    have hn : (((b - a) * 60).tdiv (crG a f b t : Int)).natAbs = ((b - a) * 60).natAbs / (crG a f b t : Int).natAbs := Int.natAbs_tdiv _ _
    have hle := Nat.div_le_self ((b - a) * 60).natAbs (crG a f b t : Int).natAbs
    omega
/-- A loop's counter: -1, 1, 3. -/
def Odd3 (k : Int) : Prop := k = -1 ∨ k = 1 ∨ k = 3

set_option maxRecDepth 100000 in
set_option maxHeartbeats 8000000 in
theorem walk (A : Option Addr) (n c : Nat) (z : List Int) (w : World) (w0 : IsRow .u8 w A n c z) (ht : fmt.Tab w) :
    Calls Tryd.prog 3 #[.slice A n c] w fun e w' => e = .returned (.bool true) ∧ Below w.heap.size w w' := by
  obtain ⟨hby, hnc, -⟩ := bytes_of w0
  clear w0
  have hv := Lib.hid (fun w => rBig A n c w)
  by_cases hbig : (65536 : Int) < (n : Int)
  · clear hby ht
    go_enter Tryd.func3, Tryd.ntmps3
    go_wp2_with fail
    refine (hv.out _).mono ?_
    rintro e w1 ⟨rfl, rfl⟩
    go_wp2_with fail
    go_ret
    exact ⟨rfl, Below.refl _ _⟩
  · have hd : decide ((65536 : Int) < (n : Int)) = false := by simpa using hbig
    have hn : n ≤ 65536 := by omega
    have H := Lib.hid hby
    have TT := Lib.hid (fun (W : World) (hb : Below w.heap.size w W) => fmt.tab_on ht hb)
    clear hby hbig hnc ht
    go_enter Tryd.func3, Tryd.ntmps3
    go_wp2_with fail
    refine (hv.out _).mono ?_
    rintro e w1 ⟨rfl, rfl⟩
    clear hd hv
    go_wp2_with fail
    refine (drawi.heightText A n c _ hn H.out).mono ?_
    rintro e w1 ⟨h, rfl, h0, h1, hb1⟩
    have TI := Lib.hid (fun (W : World) (hb : Below w.heap.size w W) => hgtf.implText h W (TT.out W hb))
    have TS := Lib.hid (fun w => hgtf.specText h w)
    have PI := Lib.hid (fun (W : World) (hb : Below w.heap.size w W) => hgtf.implParse (htT h) W (Nat.le_trans (ht_size h) (by omega)) (TT.out W hb))
    have HB := Lib.hid (fun hb => @ht_back h hb)
    clear h0 h1
    generalize phB (htT h) = pb at *
    generalize phV (htT h) = pv at *
    generalize htT h = s at *
    generalize hB h = B at *
    have g1 := str_ne_self s
    have g2 := bool_ne_self B
    go_wp2_with fail
    refine (TI.out _ hb1).mono ?_
    rintro e w2 ⟨rfl, hb2⟩
    have hb2 := hb1.trans (hb2.mono hb1.size)
    go_wp2_with fail
    refine (TS.out _).mono ?_
    rintro e w3 ⟨rfl, hj⟩
    have hb3 := hb2.trans ((hgtg.below_drew hj).mono hb2.size)
    clear hj
    go_wp2_with fail
    refine (PI.out _ hb3).mono ?_
    rintro e w4 ⟨rfl, hb4⟩
    have HB4 := Lib.hid (hb3.trans (hb4.mono hb3.size))
    clear hb1 hb2 hb3 hb4 TI TS PI g1 g2
    go_upto_region 9 with fail
    go_cut [76] (fun s wx => s = .bool false ∧ wx = w4)
    case first =>
      cases B
      · go_wp2_with fail
        go_meet
        case rel => exact ⟨rfl, rfl⟩
      · obtain ⟨e1, e2⟩ := HB.out (by first | trivial | rfl)
        subst e1
        subst e2
        have g3 := int_ne_self pv
        go_wp2_with fail
        go_meet
        case rel => exact ⟨rfl, rfl⟩
    case rest =>
      obtain ⟨rfl, rfl⟩ := hcut
      clear HB
      go_wp2_with fail
      refine (drawi.parseHeight A n c _ hn (Bytes_below H.out HB4.out)).mono ?_
      rintro e w5 ⟨t, rfl, ht, hb5⟩
      have hb5 := HB4.out.trans (hb5.mono HB4.out.size)
      have PI := Lib.hid (fun (W : World) (hb : Below w.heap.size w W) => hgtf.implParse t W (by omega) (TT.out W hb))
      have PS := Lib.hid (fun w => hgth.specParse t w)
      have g1 := int_ne_self (phV t)
      have g2 := bool_ne_self (phB t)
      clear ht HB4
      generalize phV t = pv2 at *
      generalize phB t = pb2 at *
      go_wp2_with fail
      refine (PI.out _ hb5).mono ?_
      rintro e w6 ⟨rfl, hb6⟩
      have hb6 := hb5.trans (hb6.mono hb5.size)
      go_wp2_with fail
      refine (PS.out _).mono ?_
      rintro e w7 ⟨rfl, hj⟩
      have HB7 := Lib.hid (hb6.trans ((hgtg.below_drew hj).mono hb6.size))
      clear hj hb5 hb6 PI PS
      go_wp2_with fail
      refine (drawi.nearestHeight A n c _ hn (Bytes_below H.out HB7.out)).mono ?_
      rintro e w8 ⟨x, f, rfl, x0, x1, hb8⟩
      have hb8 := HB7.out.trans (hb8.mono HB7.out.size)
      have NI := Lib.hid (fun w => hgtk.nearest x f w)
      have NS := Lib.hid (fun w => hgtu.nearest x f w)
      have g3 := int_ne_self (nrV x f)
      have g4 := bool_ne_self (hB x)
      have NN := Lib.hid (fun hb => near_in x f hb)
      have NB := Lib.hid (fun k hk hb ho => near_best x f k hk hb ho)
      have ND := Lib.hid (near_bd x f)
      clear HB7 g1 g2
      generalize nrV x f = nv at *
      generalize hB x = BX at *
      go_wp2_with fail
      refine (NI.out _).mono ?_
      rintro e w9 ⟨rfl, hb9⟩
      have hb9 := hb8.trans (hb9.mono hb8.size)
      go_wp2_with fail
      refine (NS.out _).mono ?_
      rintro e w10 ⟨rfl, rfl⟩
      have HB10 := Lib.hid hb9
      clear hb8 hb9 NI NS
      go_upto_if 122 with fail
      go_cut [] (fun wx => Below w.heap.size w wx)
      case first =>
        clear g3 g4
        cases BX
        · go_wp2_with fail
          go_meet
          case rel => exact HB10.out
        · cases f
          · have EI := Lib.hid (fun v w => hgtj.encode v false w)
            obtain ⟨n0, n1⟩ := ND.out
            have E0 := Lib.hid (fun w => EI.out nv w)
            rw [NN.out (by first | trivial | rfl)] at E0
            generalize enV nv false = ev at *
            clear NN ND
            go_wp2_with fail
            refine (E0.out _).mono ?_
            rintro e w11 ⟨rfl, hb11⟩
            have HB11 := Lib.hid (HB10.out.trans (hb11.mono HB10.out.size))
            clear hb11 HB10 E0
            go_wp2_with fail
            go_loopw [24] (fun k wr => ∃ q : Int, k = .int .i64 q ∧ Odd3 q ∧ Below w.heap.size w wr) (fun k _ => (3 - intOf k).toNat)
            case atStart => exact ⟨-1, rfl, Or.inl rfl, HB11.out⟩
            case round =>
              obtain ⟨q, rfl, hq, hbr⟩ := hrel
              have HBR := Lib.hid hbr
              have HQ := Lib.hid hq
              have q0 : -1 ≤ q := by rcases hq with h | h | h <;> omega
              clear hbr hq HB11
              by_cases hlt : q ≤ 1
              · have HQ1 : q = -1 ∨ q = 1 := by rcases HQ.out with h | h | h <;> omega
                have HQ2 := Lib.hid HQ1
                have HR := Lib.hid (show Odd3 (q + 2) by rcases HQ1 with h | h <;> subst h <;> simp [Odd3])
                have HM := Lib.hid (show (3 - intOf (.int .i64 (q + 2))).toNat < (3 - intOf (.int .i64 q)).toNat by simp only [intOf]; omega)
                clear HQ1
                have E1 := Lib.hid (fun w => EI.out (nv + q * 100) w)
                have hs : st false = 100 := rfl
                cases ho : enB (nv + q * 100) false
                · rw [ho] at E1
                  generalize enV (nv + q * 100) false = ew at *
                  clear ho hs
                  go_wp2_with fail
                  refine (E1.out _).mono ?_
                  rintro e w12 ⟨rfl, hb12⟩
                  have HB12 := Lib.hid (HBR.out.trans (hb12.mono HBR.out.size))
                  clear hb12 HBR E1
                  go_wp2_with fail
                  go_roundw
                  case rel => exact ⟨q + 2, rfl, HR.out, HB12.out⟩
                  case measure => exact HM.out
                · have hbest := NB.out q HQ2.out (by first | trivial | rfl) (by rw [hs]; exact ho)
                  rw [hs] at hbest
                  have g9 : decide (ab (nv + q * 100 - x) < ab (nv - x)) = false := decide_eq_false (by have := hbest; omega)
                  have S1 := Lib.hid (fun w => size (nv + q * 100 - x) w (by omega) (by omega))
                  have S2 := Lib.hid (fun w => size (nv - x) w (by omega) (by omega))
                  rw [ho] at E1
                  generalize enV (nv + q * 100) false = ew at *
                  generalize ab (nv + q * 100 - x) = a1 at *
                  generalize ab (nv - x) = a2 at *
                  clear ho hs hbest
                  go_wp2_with fail
                  refine (E1.out _).mono ?_
                  rintro e w12 ⟨rfl, hb12⟩
                  have HB12 := Lib.hid (HBR.out.trans (hb12.mono HBR.out.size))
                  clear hb12 HBR E1
                  go_wp2_with fail
                  refine (S1.out _).mono ?_
                  rintro e w13 ⟨rfl, rfl⟩
                  go_wp2_with fail
                  refine (S2.out _).mono ?_
                  rintro e w13 ⟨rfl, rfl⟩
                  go_wp2_with fail
                  go_roundw
                  case rel => exact ⟨q + 2, rfl, HR.out, HB12.out⟩
                  case measure => exact HM.out
              · clear HQ
                go_wp2_with fail
                go_meet
                case rel => exact HBR.out
          · have EI := Lib.hid (fun v w => hgtj.encode v true w)
            obtain ⟨n0, n1⟩ := ND.out
            have E0 := Lib.hid (fun w => EI.out nv w)
            rw [NN.out (by first | trivial | rfl)] at E0
            generalize enV nv true = ev at *
            clear NN ND
            go_wp2_with fail
            refine (E0.out _).mono ?_
            rintro e w11 ⟨rfl, hb11⟩
            have HB11 := Lib.hid (HB10.out.trans (hb11.mono HB10.out.size))
            clear hb11 HB10 E0
            go_wp2_with fail
            go_loopw [24] (fun k wr => ∃ q : Int, k = .int .i64 q ∧ Odd3 q ∧ Below w.heap.size w wr) (fun k _ => (3 - intOf k).toNat)
            case atStart => exact ⟨-1, rfl, Or.inl rfl, HB11.out⟩
            case round =>
              obtain ⟨q, rfl, hq, hbr⟩ := hrel
              have HBR := Lib.hid hbr
              have HQ := Lib.hid hq
              have q0 : -1 ≤ q := by rcases hq with h | h | h <;> omega
              clear hbr hq HB11
              by_cases hlt : q ≤ 1
              · have HQ1 : q = -1 ∨ q = 1 := by rcases HQ.out with h | h | h <;> omega
                have HQ2 := Lib.hid HQ1
                have HR := Lib.hid (show Odd3 (q + 2) by rcases HQ1 with h | h <;> subst h <;> simp [Odd3])
                have HM := Lib.hid (show (3 - intOf (.int .i64 (q + 2))).toNat < (3 - intOf (.int .i64 q)).toNat by simp only [intOf]; omega)
                clear HQ1
                have E1 := Lib.hid (fun w => EI.out (nv + q * 25) w)
                have hs : st true = 25 := rfl
                cases ho : enB (nv + q * 25) true
                · rw [ho] at E1
                  generalize enV (nv + q * 25) true = ew at *
                  clear ho hs
                  go_wp2_with fail
                  refine (E1.out _).mono ?_
                  rintro e w12 ⟨rfl, hb12⟩
                  have HB12 := Lib.hid (HBR.out.trans (hb12.mono HBR.out.size))
                  clear hb12 HBR E1
                  go_wp2_with fail
                  go_roundw
                  case rel => exact ⟨q + 2, rfl, HR.out, HB12.out⟩
                  case measure => exact HM.out
                · have hbest := NB.out q HQ2.out (by first | trivial | rfl) (by rw [hs]; exact ho)
                  rw [hs] at hbest
                  have g9 : decide (ab (nv + q * 25 - x) < ab (nv - x)) = false := decide_eq_false (by have := hbest; omega)
                  have S1 := Lib.hid (fun w => size (nv + q * 25 - x) w (by omega) (by omega))
                  have S2 := Lib.hid (fun w => size (nv - x) w (by omega) (by omega))
                  rw [ho] at E1
                  generalize enV (nv + q * 25) true = ew at *
                  generalize ab (nv + q * 25 - x) = a1 at *
                  generalize ab (nv - x) = a2 at *
                  clear ho hs hbest
                  go_wp2_with fail
                  refine (E1.out _).mono ?_
                  rintro e w12 ⟨rfl, hb12⟩
                  have HB12 := Lib.hid (HBR.out.trans (hb12.mono HBR.out.size))
                  clear hb12 HBR E1
                  go_wp2_with fail
                  refine (S1.out _).mono ?_
                  rintro e w13 ⟨rfl, rfl⟩
                  go_wp2_with fail
                  refine (S2.out _).mono ?_
                  rintro e w13 ⟨rfl, rfl⟩
                  go_wp2_with fail
                  go_roundw
                  case rel => exact ⟨q + 2, rfl, HR.out, HB12.out⟩
                  case measure => exact HM.out
              · clear HQ
                go_wp2_with fail
                go_meet
                case rel => exact HBR.out
      case rest =>
        have HB10 := Lib.hid hcut
        clear hcut g3 g4 x0 x1 NN NB ND
        go_wp2_with fail
        refine (drawi.climbRate A n c _ hn (Bytes_below H.out HB10.out)).mono ?_
        rintro e w11 ⟨a, k, b, t, rfl, hb11⟩
        have hb11 := HB10.out.trans (hb11.mono HB10.out.size)
        have CI := Lib.hid (fun w => hgtg.climb a k b t w)
        have CS := Lib.hid (fun w => hgtv.climb a k b t w)
        have CJ := Lib.hid (fun w => hgtg.climb b k a t w)
        obtain ⟨e1, e2, e3⟩ := cr_back a k b t
        rw [e1, e2, e3] at CJ
        obtain ⟨c0, c1⟩ := cr_bd a k b t
        have g1 := int_ne_self (crN a k b t)
        have g2 := int_ne_self (crD a k b t : Int)
        have g3 := bool_ne_self (crB a k b t)
        have g4 := bool_eq_self (crB a k b t)
        have g5 := int_eq_self (-crN a k b t)
        have g6 := int_eq_self (crD a k b t : Int)
        clear e1 e2 e3 HB10
        generalize crN a k b t = N at *
        generalize (crD a k b t : Int) = M at *
        generalize crB a k b t = B at *
        go_wp2_with fail
        refine (CI.out _).mono ?_
        rintro e w12 ⟨rfl, hb12⟩
        have hb12 := hb11.trans (hb12.mono hb11.size)
        go_wp2_with fail
        refine (CS.out _).mono ?_
        rintro e w13 ⟨rfl, hb13⟩
        have hb13 := hb12.trans (hb13.mono hb12.size)
        go_wp2_with fail
        refine (CJ.out _).mono ?_
        rintro e w14 ⟨rfl, hb14⟩
        have HB14 := Lib.hid (hb13.trans (hb14.mono hb13.size))
        clear hb11 hb12 hb13 hb14 CI CS CJ
        go_wp2_with fail
        go_ret
        exact ⟨rfl, HB14.out⟩


theorem own : ownKnob Tryd.prog.godebug = none := by kernel_rfl
theorem laidOut : laidOutB Tryd.prog = true := by kernel_rfl

theorem gTab : Tryd.prog.globalNamed "internal/strconv.uint64pow10" = some 0 := by kernel_rfl
theorem gTabType : (Tryd.prog.globals[0]?).map (·.type) = some 68 := by kernel_rfl
theorem cellsTab : Tryd.prog.cellsOf 68 = 20 := by kernel_rfl
theorem cellsU : Tryd.prog.cellsOf 40 = 1 := by kernel_rfl
theorem table {W : World} (h : laidMet Tryd.prog Rows.fnHeightsRow.laid W) : Lib.TabIs Tryd.prog W "internal/strconv.uint64pow10" .u64 Lib.pow10Tab :=
  Lib.tabIs_of_head (rest := []) gTab gTabType Tryd.underlying68 Tryd.underlying40 cellsU cellsTab (laidMet.tail (laidMet.tail h))


set_option maxRecDepth 100000 in
theorem contract (H : Type) (enc : TypeId × Value → H) (W : World) (base : Nat) (args : Array Value) (ds gs : List (DataW H)) (before : List MemPlace)
    (hval : ∀ (j : Nat) t v, Tryd.f3.params[j]? = some t → args[j]? = some v → Value.okWide Tryd.prog W .any base t v)
    (hW : DataW.Whole enc Tryd.prog Tryd.f3.params.toList Rows.fnHeightsSpec.vars false W args.toList ds gs before) (hL : laidMetH Tryd.prog Rows.fnHeightsRow.laid W) :
    Calls Tryd.prog 3 args W fun e W' => ∃ v, e = .returned v ∧ Rows.fnHeightsSpec.post enc Tryd.prog Tryd.f3 false true false false W args v W' := by
  have hW' := hW
  obtain ⟨p, q, hA0, hV, rfl, hfz, hnd⟩ := hW
  have hA : DataW.TrodAll enc Tryd.prog W 0 (fun _ => true) true Tryd.f3.params.toList args.toList ds p := hA0
  rw [Tryd.params3] at hA hval
  obtain ⟨v0, vs0, d0, ds0, p0, q0, hargs, rfl, rfl, h0, r0⟩ := trodAll_cons hA
  obtain ⟨rfl, rfl, rfl⟩ := trodAll_nil r0
  obtain rfl : args = #[v0] := by cases args; simp_all
  obtain ⟨rfl, rfl⟩ := trodVars_none hV
  obtain ⟨a0, len0, cap0, rfl⟩ := okWide_slice Tryd.underlying22 (hval 0 22 v0 rfl rfl)
  have k0 := h0
  have lt0 : ∀ x ∈ p0, x.block < W.heap.size := by obtain ⟨m, hm⟩ := k0; exact DataW.trod_lt m _ _ _ hm
  obtain ⟨z0, w0⟩ : ∃ zs, IsRow .u8 W a0 len0 cap0 zs := by
    obtain ⟨fuel, hf⟩ := h0
    rcases open_ints Tryd.underlying22 Tryd.underlying5 (by kernel_rfl) hf with ⟨hcs, _⟩ | ⟨x, l, c, zs, hcs, _, hl, hm, hz, _, hcell, hwz⟩
    · simp [Value.cells] at hcs
      obtain ⟨rfl, rfl, rfl⟩ := hcs
      exact ⟨[], .inl ⟨rfl, rfl, rfl, rfl⟩⟩
    · simp [Value.cells] at hcs
      obtain ⟨rfl, rfl, rfl⟩ := hcs
      exact ⟨zs, .inr ⟨_, rfl, hl, hm, by simpa using hz, hcell, hwz⟩⟩
  clear hA0
  refine (walk a0 len0 cap0 z0 W w0 (table hL)).mono fun e W' ⟨he, bel⟩ => ?_
  subst he
  exact ⟨_, rfl, _, _, _, [], _, [], hW', trodAll_mk1 (shut_bool Tryd.underlying4 _), (trodAll_cons_mk (Below.trod laidOut (by kernel_rfl) (of_decide_eq_true (by kernel_rfl)) k0 bel lt0) trodAll_mk0), rfl, bel.frame _, fun h => by cases h⟩

noncomputable def laidWorld (os : Os) : World :=
  { World.holding Tryd.prog os ⟨#[], #[], []⟩ with heap := ((((World.holding Tryd.prog os ⟨#[], #[], []⟩).heap.modify 0 fun
      | .cells _ t frozen => .cells #[.int .u64 1, .int .u64 10, .int .u64 100, .int .u64 1000, .int .u64 10000, .int .u64 100000, .int .u64 1000000, .int .u64 10000000, .int .u64 100000000, .int .u64 1000000000, .int .u64 10000000000, .int .u64 100000000000, .int .u64 1000000000000, .int .u64 10000000000000, .int .u64 100000000000000, .int .u64 1000000000000000, .int .u64 10000000000000000, .int .u64 100000000000000000, .int .u64 1000000000000000000, .int .u64 10000000000000000000] t frozen
      | o => o).modify 1 fun
      | .cells _ t frozen => .cells #[.int .u8 0, .int .u8 1, .int .u8 28, .int .u8 2, .int .u8 29, .int .u8 14, .int .u8 24, .int .u8 3, .int .u8 30, .int .u8 22, .int .u8 20, .int .u8 15, .int .u8 25, .int .u8 17, .int .u8 4, .int .u8 8, .int .u8 31, .int .u8 27, .int .u8 13, .int .u8 23, .int .u8 21, .int .u8 19, .int .u8 16, .int .u8 7, .int .u8 26, .int .u8 12, .int .u8 18, .int .u8 6, .int .u8 11, .int .u8 5, .int .u8 10, .int .u8 9] t frozen
      | o => o).modify 2 fun
      | .cells _ t frozen => .cells #[.int .u8 0, .int .u8 1, .int .u8 56, .int .u8 2, .int .u8 57, .int .u8 49, .int .u8 28, .int .u8 3, .int .u8 61, .int .u8 58, .int .u8 42, .int .u8 50, .int .u8 38, .int .u8 29, .int .u8 17, .int .u8 4, .int .u8 62, .int .u8 47, .int .u8 59, .int .u8 36, .int .u8 45, .int .u8 43, .int .u8 51, .int .u8 22, .int .u8 53, .int .u8 39, .int .u8 33, .int .u8 30, .int .u8 24, .int .u8 18, .int .u8 12, .int .u8 5, .int .u8 63, .int .u8 55, .int .u8 48, .int .u8 27, .int .u8 60, .int .u8 41, .int .u8 37, .int .u8 16, .int .u8 46, .int .u8 35, .int .u8 44, .int .u8 21, .int .u8 52, .int .u8 32, .int .u8 23, .int .u8 11, .int .u8 54, .int .u8 26, .int .u8 40, .int .u8 15, .int .u8 34, .int .u8 20, .int .u8 31, .int .u8 10, .int .u8 25, .int .u8 14, .int .u8 19, .int .u8 9, .int .u8 13, .int .u8 8, .int .u8 7, .int .u8 6] t frozen
      | o => o) }
theorem laid_met (os : Os) : laidMet Tryd.prog Rows.fnHeightsRow.laid ((laidWorld os).forCall (fun _ _ => 0) ⟨#[], #[.slice none 0 0], []⟩).memory :=
  laidMet_of_run' 8 (by kernel_rfl) (by kernel_rfl)
theorem reads (os : Os) {H : Type} (enc : TypeId × Value → H) : ∃ places, DataW.whole enc Tryd.prog ((laidWorld os).forCall (fun _ _ => 0) ⟨#[], #[.slice none 0 0], []⟩).memory Tryd.f3.params.toList Rows.fnHeightsSpec.vars false (#[.slice none 0 0] : Array Value).toList 8 = some ([.nil], [], places) :=
  ⟨[], by kernel_rfl⟩

set_option maxRecDepth 100000 in
theorem lifted (os : Os) (started : os.Started) (H : Type) (enc : TypeId × Value → H) (F : Stop.Interp) :
    ReturnsInHanded {} Tryd.checked os 3 .any ((OpenSpec.ofChange Rows.fnHeightsSpec).preRow enc Tryd.prog Tryd.f3 Rows.fnHeightsRow.domain false Rows.fnHeightsRow.laid) (((OpenSpec.ofChange Rows.fnHeightsSpec).at F).post enc Tryd.prog Tryd.f3 false true false false) := by
  obtain ⟨places, hx⟩ := reads os enc
  refine returnsInHanded_of_row (C := Tryd.checked) (s := OpenSpec.ofChange Rows.fnHeightsSpec) own started (by kernel_rfl) Tryd.func3
    (witness_row_at (enc := enc) (C := Tryd.checked) false (laidWorld os) #[.slice none 0 0] rfl (by kernel_rfl) (by kernel_rfl) (by kernel_rfl)
      (OpenSpec.preRow_of_cond 8 hx (by kernel_rfl) (fun k hk => by cases hk) (by kernel_rfl) (laid_met os))) ?_
  intro W base args ds gs before hval hW _ _ _ hL _ _
  exact contract H enc W base args ds gs before hval hW hL

theorem said : Rows.FnHeightsSaid :=
  OpenClaim.holds_of_cond 3 Tryd.f3 rfl rfl rfl rfl rfl rfl rfl ⟨rfl, rfl, rfl, rfl, rfl⟩ rfl rfl rfl rfl rfl (by kernel_rfl) Tryd.func3 (by kernel_rfl)
    (of_decide_eq_true (by kernel_rfl)) (by unfold Func.isWrapper; first | (rw [if_pos (by decide +kernel)]; kernel_rfl) | (rw [if_neg (by decide +kernel)]; exact ⟨rfl, rfl⟩))
    (fun os started H enc _ F => by rw [OpenClaim.pre_eq_preRow]; exact lifted os started H enc F)

theorem plain (f : FuncId) (fn : Func) (hf : Tryd.pinned.checked.prog.funcNamed "loop.example/g00875/laws.FnHeights" = some f) (hfn : Tryd.pinned.checked.prog.funcs[f]? = some fn) :
    false = Tryd.pinned.checked.prog.looks [] ∧ ∀ (j : Nat) t, fn.params[j]? = some t → Tryd.pinned.checked.prog.wantsStandIn t = false := by
  obtain rfl : f = 3 := Option.some.inj ((show Tryd.prog.funcNamed "loop.example/g00875/laws.FnHeights" = some 3 by kernel_rfl).symm.trans hf) |>.symm
  obtain rfl : fn = Tryd.f3 := (Option.some.inj (Tryd.func3.symm.trans hfn)).symm
  refine ⟨by kernel_rfl, fun j t ht => ?_⟩
  rw [Tryd.params3] at ht
  have hm := Array.mem_of_getElem? ht
  simp at hm
  obtain rfl := hm
  exact (show Tryd.prog.wantsStandIn 22 = false by kernel_rfl)

theorem proved : Rows.FnHeightsCardSaid :=
  Claim7.holds_tied_plain_at .later [] _ _ _ _ said (fun _ h => by cases h) (by kernel_rfl) (fun _ h => by cases h) fnHeights_row_tie rfl ⟨rfl, rfl⟩ (by kernel_rfl) rfl plain (by kernel_rfl)
#print axioms proved
end Go.Proofs.YtbjlhnhmdhjleaaDoor.fnHeights
