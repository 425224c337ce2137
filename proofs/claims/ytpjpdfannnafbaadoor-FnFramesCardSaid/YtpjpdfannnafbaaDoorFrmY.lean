/- impl's FrameText, kindOfWord, ParseFrameText, where impl's table of words reads as the text lays it. -/
import Derived.Test.YtpjpdfannnafbaaDoorFrmI
import Derived.Test.YtpjpdfannnafbaaDoorFrmK
import Derived.Test.YtpjpdfannnafbaaDoorFrmU
import Derived.Test.YtpjpdfannnafbaaDoorSplitImpl
import Derived.Test.YtpjpdfannnafbaaDoorStrs
import Derived.Test.YtpjpdfannnafbaaDoorDigits
import Derived.Lib.SmallJoins
namespace Go.Proofs.YtpjpdfannnafbaaDoor.frmy
open Go.RowKit Go.Proofs.YtpjpdfannnafbaaDoor.bin Go.Proofs.YtpjpdfannnafbaaDoor.good_ Go.Proofs.YtpjpdfannnafbaaDoor.frm Go.Proofs.YtpjpdfannnafbaaDoor.frms Go.Proofs.YtpjpdfannnafbaaDoor.frmt Go.Proofs.YtpjpdfannnafbaaDoor.frmp Go.Proofs.YtpjpdfannnafbaaDoor.frmu Go.Proofs.YtpjpdfannnafbaaDoor.split_ Go.Proofs.YtpjpdfannnafbaaDoor.frme Go.Proofs.YtpjpdfannnafbaaDoor.at3 Go.Proofs.YtpjpdfannnafbaaDoor.ats

/-- impl's table holds the words. -/
def Tab (W : World) : Prop := Words W 0
theorem Tab.old {W W' : World} (h : Tab W) (hb : Below W.heap.size W W') : Tab W' := Words.old h hb

theorem index_words (w : World) : ∀ k : Nat, k < 5 → (Instr.index 51 (.agg wordsC) (.int .i64 (k : Int))).run Tryd.prog w = .ok (.string (wd k)) w
  | 0, _ => by kernel_rfl
  | 1, _ => by kernel_rfl
  | 2, _ => by kernel_rfl
  | 3, _ => by kernel_rfl
  | 4, _ => by kernel_rfl
set_option maxRecDepth 100000 in
theorem kindOfWord (x : ByteArray) (w : World) (h : Tab w) :
    Calls Tryd.prog 35 #[.string x] w fun e w' => e = .returned (.int .i64 (ix x : Nat)) ∧ w = w' := by
  have c0 := h 0 (by omega)
  have c1 := h 1 (by omega)
  have c2 := h 2 (by omega)
  have c3 := h 3 (by omega)
  have c4 := h 4 (by omega)
  go_enter Tryd.func35, Tryd.ntmps35
  go_wp2_with fail
  rw [show (#[Value.string (wd 0), .string (wd 1), .string (wd 2), .string (wd 3), .string (wd 4)] : Array Value) = wordsC from rfl]
  clear c0 c1 c2 c3 c4 h
  go_loop [6] (fun i => ∃ k : Nat, k ≤ 5 ∧ i = .int .i64 k ∧ ∀ j, j < k → wd j ≠ x) (fun i => 5 - (intOf i).toNat)
  case atStart => exact ⟨0, by omega, rfl, fun j h => absurd h (by omega)⟩
  case round =>
    obtain ⟨k, hk, rfl, hno⟩ := hrel
    have HO := Lib.hid hno
    clear hno
    by_cases hlt : k < 5
    · have hlt2 : (k : Int) < 5 := by omega
      have hwk := index_words w k hlt
      by_cases he : wd k = x
      · have HR := Lib.hid (show Ending.returned (.int .i64 (k : Int)) = .returned (.int .i64 (ix x : Nat)) by
          rcases Nat.eq_zero_or_pos k with rfl | hp
          · rw [← he, ix_no fun k h1 h5 e => by have := wd_inj ⟨k, h5⟩ ⟨0, by omega⟩ e; simp at this; omega]
          · rw [← he, ix_wd hp hlt])
        rw [he] at hwk
        have hs := str_eq_yes x
        clear he
        go_wp2_with fail
        go_ret
        exact ⟨HR.out, rfl⟩
      · have hs := str_eq_no he
        have HS := Lib.hid (show ∀ j, j < k + 1 → wd j ≠ x from fun j h => by
          by_cases hjk : j < k
          · exact HO.out j hjk
          · obtain rfl : j = k := by omega
            exact he)
        clear he
        generalize wd k = y at *
        go_wp2_with fail
        go_round
        case rel => exact ⟨k + 1, by omega, by go_num, HS.out⟩
        case measure => simp [intOf]; omega
    · obtain rfl : k = 5 := by omega
      have HR := Lib.hid (show Ending.returned (.int .i64 0) = .returned (.int .i64 (ix x : Nat)) by rw [ix_no fun k _ h => HO.out k h]; rfl)
      go_wp2_with fail
      go_ret
      exact ⟨HR.out, rfl⟩

theorem wrap_small {n : Nat} (h : n ≤ 16777215) : IntKind.u64.wrap (n : Int) = (n : Int) := by
  unfold IntKind.wrap
  simp [IntKind.bits, IntKind.signed]
  omega
set_option maxRecDepth 100000 in
theorem frameText (K A D : Int) (w : World) (h : Tab w) :
    Calls Tryd.prog 16 #[.agg #[.int .i64 K, .int .i64 A, .int .i64 D]] w fun e w' => e = .returned (.tuple #[.string (ftT K A D), .bool (good K A D)]) ∧ Below w.heap.size w w' := by
  have hg := fun w => frmi.isValid K A D w
  have B0 := Lib.hid (newS 25 #[.int .i64 K, .int .i64 A, .int .i64 D] w)
  cases hb : good K A D
  · have HN := Lib.hid (ft_no hb)
    rw [hb] at hg HN
    have HG := Lib.hid hg
    clear hg hb h
    go_enter Tryd.func16, Tryd.ntmps16
    go_wp2_with fail
    refine (HG.out _).mono ?_
    rintro e w1 ⟨rfl, hb1⟩
    have B1 := Lib.hid (B0.out.old hb1)
    go_wp2_with fail
    go_ret2
    exact ⟨HN.out, B1.out.1⟩
  · obtain ⟨k, a, d, rfl, rfl, rfl, h1, h2, h3, h4, h5⟩ := good_nat hb
    have HY := Lib.hid (ft_yes hb)
    have hT : textT k a d = wd k ++ ⟨#[32]⟩ ++ ⟨(enc 16 4 a).toArray⟩ ++ ⟨#[32]⟩ ++ ⟨(enc 16 6 d).toArray⟩ := rfl
    have HA := Lib.hid (fun w => digits_.write16 a 4 w (by omega) (by omega))
    have HD := Lib.hid (fun w => digits_.write16 d 6 w (by omega) (by omega))
    have z1 : ((wd k).size : Int) ≤ 24 := by have := wd_size (show k < 5 by omega); omega
    have z2 : ((⟨(enc 16 4 a).toArray⟩ : ByteArray).size : Int) ≤ 24 := by rw [e_size]; omega
    have z3 : ((⟨(enc 16 6 d).toArray⟩ : ByteArray).size : Int) ≤ 24 := by rw [e_size]; omega
    have wa := wrap_small (show a ≤ 16777215 by omega)
    have wb := wrap_small h5
    have hc := h k (by omega)
    have kk : (k : Int) < 5 := by omega
    rw [hT] at HY
    rw [hb] at hg HY
    have HG := Lib.hid hg
    have HC := Lib.hid h
    clear hg hb hT h hc h1 h2 h3 h4 h5
    generalize hk : wd k = t1 at *
    have HK := Lib.hid hk
    clear hk
    generalize (⟨(enc 16 4 a).toArray⟩ : ByteArray) = t2 at *
    generalize (⟨(enc 16 6 d).toArray⟩ : ByteArray) = t3 at *
    go_enter Tryd.func16, Tryd.ntmps16
    go_wp2_with fail
    have T0 := Lib.hid (HC.out.old ((Below.refl _ _).alloc (Nat.le_refl _) (.cells #[.int .i64 k, .int .i64 a, .int .i64 d] 25)))
    generalize w.alloc (.cells #[.int .i64 k, .int .i64 a, .int .i64 d] 25) = W at *
    refine (HG.out _).mono ?_
    rintro e w1 ⟨rfl, hb1⟩
    have B1 := Lib.hid (B0.out.old hb1)
    have T1 := Lib.hid (T0.out.old hb1)
    have c1 : w1.cell? ⟨w.heap.size, 1, none⟩ = some (.int .i64 a) := B1.out.cell 1
    clear hb1 B0 T0
    go_wp2_with fail
    refine (HA.out _).mono ?_
    rintro e w2 ⟨rfl, hb2⟩
    have B2 := Lib.hid (B1.out.old hb2)
    have T2 := Lib.hid (T1.out.old hb2)
    have c2 : w2.cell? ⟨w.heap.size, 2, none⟩ = some (.int .i64 d) := B2.out.cell 2
    clear hb2 c1 B1 T1
    go_wp2_with fail
    refine (HD.out _).mono ?_
    rintro e w3 ⟨rfl, hb3⟩
    have B3 := Lib.hid (B2.out.old hb3)
    have T3 := T2.out.old hb3
    have c0 : w3.cell? ⟨w.heap.size, 0, none⟩ = some (.int .i64 k) := B3.out.cell 0
    have cw := T3 k (by omega)
    rw [HK.out] at cw
    clear hb3 c2 B2 T2 T3
    go_wp2_with fail
    go_ret2
    exact ⟨HY.out, B3.out.1⟩

theorem row_cells {w : World} {B e n g c : Nat} {xs : List ByteArray} (h : w.ownsRow B e 1 (.slice (some ⟨g, 0, none⟩) n c) n (xs.map Value.string)) {j : Nat} {x : ByteArray} (hx : xs[j]? = some x) : w.cell? ⟨g, j, none⟩ = some (.string x) := by
  have := h.cells (g := g) rfl j (.string x) (by simp [hx])
  rwa [Addr.add_lit, Nat.zero_add] at this
theorem pr_small {s : ByteArray} (h : prB s = true) : s.size ≤ 30 ∧ (pieces 32 s.data.toList []).length = 3 := by
  unfold prB at h
  rw [Bool.and_eq_true] at h
  have h := h.1
  unfold form at h
  simp only [Bool.and_eq_true, decide_eq_true_eq] at h
  exact ⟨h.1, h.2.1⟩
theorem conv_small {n : Nat} (h : n ≤ 16777215) : IntKind.i64.wrap (n : Int) = (n : Int) := IntWalk.i64_in _ (by omega)
/-- What the three words of a frame's text say. -/
theorem pr_words {s p0 p1 p2 : ByteArray} (hp : [p0, p1, p2].map (·.data.toList) = pieces 32 s.data.toList []) (h : prB s = true) :
    ix p0 = prK s ∧ rdV 16 16 p1 = prA s ∧ rdV 16 16 p2 = prD s := by
  have w0 : word s 0 = p0 := by unfold word; rw [← hp]; rfl
  have w1 : word s 1 = p1 := by unfold word; rw [← hp]; rfl
  have w2 : word s 2 = p2 := by unfold word; rw [← hp]; rfl
  have hf : form s = true := by
    unfold prB at h
    rw [Bool.and_eq_true] at h
    exact h.1
  unfold form at hf
  simp only [Bool.and_eq_true, decide_eq_true_eq] at hf
  obtain ⟨-, -, ⟨r1, r2⟩, -, -⟩ := hf
  rw [w1] at r1
  rw [w2] at r2
  unfold prK prA prD vK vA vD
  rw [h, if_pos rfl, if_pos rfl, if_pos rfl, w0, w1, w2]
  exact ⟨rfl, bitsi.rdV_yes r1, bitsi.rdV_yes r2⟩
theorem pr_not {s : ByteArray} {k : Nat} {x y : Int} (h : prB s = false) (hg : good k x y = true) : ftT k x y ≠ s := fun e => by
  obtain ⟨k', a, d, e1, rfl, rfl, -⟩ := good_nat hg
  obtain rfl : k = k' := by omega
  unfold ftT at e
  rw [hg, if_pos rfl] at e
  have ht := (pr_text hg).1
  simp only [Int.toNat_natCast] at e
  rw [e] at ht
  rw [ht] at h
  cases h
theorem own_slice' {w : World} {B e n : Nat} {v : Value} {xs : List Value} (h : w.ownsRow B e 1 v n xs) : ∃ A c, v = .slice A n c := by
  rcases h.2 with ⟨rfl, h0⟩ | ⟨g, cap, cur, rfl, _⟩
  · exact ⟨_, _, by rw [h0]⟩
  · exact ⟨_, _, rfl⟩

set_option maxRecDepth 100000 in
set_option maxHeartbeats 1000000 in
theorem parseFrameText (s : ByteArray) (w : World) (ht : Tab w) :
    Calls Tryd.prog 17 #[.string s] w fun e w' => e = .returned (.tuple #[fv (prK s) (prA s) (prD s), .bool (prB s)]) ∧ Below w.heap.size w w' := by
  have HW := Lib.hid (new3 w 0 0 0)
  have T0 := Lib.hid (ht.old ((Below.refl _ _).alloc (Nat.le_refl _) (.cells #[.int .i64 0, .int .i64 0, .int .i64 0] 25)))
  have HN := Lib.hid (fun (h : prB s = false) => pr_no h)
  have e1 : (((⟨#[32]⟩ : ByteArray).size : Int) == 1) = true := rfl
  clear ht
  by_cases h4 : (s.size : Int) ≤ 4000
  · have HC := Lib.hid (fun w => splitimpl.impl_yes s ⟨#[32]⟩ w h4 (by decide) e1)
    clear h4 e1
    go_enter Tryd.func17, Tryd.ntmps17
    go_wp2_with fail
    generalize w.alloc (.cells #[.int .i64 0, .int .i64 0, .int .i64 0] 25) = W at *
    refine (HC.out _).mono ?_
    rintro e w1 ⟨v, xs, rfl, ho1, hb1, hp⟩
    have HB1 := Lib.hid (HW.out.old hb1)
    have T1 := Lib.hid (T0.out.old hb1)
    clear HW T0 HC hb1
    have hl : xs.length = (pieces 32 s.data.toList []).length := by
      have h := congrArg List.length hp
      rw [List.length_map] at h
      exact h
    by_cases h3 : xs.length = 3
    · obtain ⟨p0, p1, p2, rfl⟩ := three h3
      rcases Joins.ownsRow_forms ho1 with ⟨_, h0⟩ | ⟨g, c, rfl⟩
      · cases h0
      · have c0 := row_cells ho1 (j := 0) (x := p0) rfl
        have c1 := row_cells ho1 (j := 1) (x := p1) rfl
        have c2 := row_cells ho1 (j := 2) (x := p2) rfl
        have R1 := Lib.hid (fun w => digits_.read16 p1 w)
        have R2 := Lib.hid (fun w => digits_.read16 p2 w)
        have KW := Lib.hid (kindOfWord p0 w1 T1.out)
        have FT := Lib.hid (fun w h => frameText (ix p0 : Nat) (IntKind.i64.wrap (rdV 16 16 p1 : Nat)) (IntKind.i64.wrap (rdV 16 16 p2 : Nat)) w h)
        clear h3 hl ho1
        cases hb : prB s
        · have HN' := Lib.hid (HN.out hb)
          have HF : good (ix p0 : Nat) (IntKind.i64.wrap (rdV 16 16 p1 : Nat)) (IntKind.i64.wrap (rdV 16 16 p2 : Nat)) = false ∨ ftT (ix p0 : Nat) (IntKind.i64.wrap (rdV 16 16 p1 : Nat)) (IntKind.i64.wrap (rdV 16 16 p2 : Nat)) ≠ s := by
            cases hg : good (ix p0 : Nat) (IntKind.i64.wrap (rdV 16 16 p1 : Nat)) (IntKind.i64.wrap (rdV 16 16 p2 : Nat))
            · exact .inl rfl
            · exact .inr (pr_not hb hg)
          clear hb hp HN
          generalize ix p0 = k at *
          generalize rdV 16 16 p1 = a at *
          generalize rdV 16 16 p2 = d at *
          generalize rdB 16 16 p1 = ba at *
          generalize rdB 16 16 p2 = bd at *
          generalize hwx : IntKind.i64.wrap (a : Int) = x at *
          generalize hwy : IntKind.i64.wrap (d : Int) = y at *
          generalize ftT (k : Int) x y = T at *
          generalize good (k : Int) x y = gg at *
          go_wp2_with fail
          refine (R1.out _).mono ?_
          rintro e w2 ⟨rfl, rfl⟩
          go_wp2_with fail
          refine (R2.out _).mono ?_
          rintro e w2 ⟨rfl, rfl⟩
          go_wp2_with fail
          refine KW.out.mono ?_
          rintro e w2 ⟨rfl, rfl⟩
          have HX := Lib.hid (HB1.out.old ((Below.refl _ _).alloc (Nat.le_refl _) (.cells #[.int .i64 k, .int .i64 x, .int .i64 y] 25)))
          have HF1 := Lib.hid (frmk.next3 HB1.out k x y)
          have T2 := Lib.hid (T1.out.old ((Below.refl _ _).alloc (Nat.le_refl _) (.cells #[.int .i64 k, .int .i64 x, .int .i64 y] 25)))
          clear c0 c1 c2 KW R1 R2 T1 HB1
          go_wp2_with fail
          generalize w1.alloc (.cells #[.int .i64 k, .int .i64 x, .int .i64 y] 25) = W2 at *
          generalize w1.heap.size = bf at *
          refine (FT.out _ T2.out).mono ?_
          rintro e w3 ⟨rfl, hb3⟩
          have HB3 := Lib.hid (HX.out.old hb3)
          have HF3 := Lib.hid (HF1.out.old hb3)
          obtain ⟨b0, b1, b2⟩ := HB3.out.cells
          obtain ⟨a0, a1, a2⟩ := HB3.out.frozen
          obtain ⟨f0, f1, f2⟩ := HF3.out.cells
          clear hb3 T2
          rcases HF with rfl | hne
          · go_wp2_with fail
            have HE := HB3.out.set 0 0 0
            have hl := HE.load
            refine bodyPost_ret (v := .tuple #[fv 0 0 0, .bool false]) ?_ rfl ⟨by rw [HN'.out], HE.1⟩
            rw [results_cell_tmp rfl]
            simp [asAddr, Result.andThen, hl, fv]
          · have hs := str_ne_no hne
            clear hne
            cases gg
            · go_wp2_with fail
              have HE := HB3.out.set 0 0 0
              have hl := HE.load
              refine bodyPost_ret (v := .tuple #[fv 0 0 0, .bool false]) ?_ rfl ⟨by rw [HN'.out], HE.1⟩
              rw [results_cell_tmp rfl]
              simp [asAddr, Result.andThen, hl, fv]
            · go_wp2_with fail
              have HE := HB3.out.set 0 0 0
              have hl := HE.load
              refine bodyPost_ret (v := .tuple #[fv 0 0 0, .bool false]) ?_ rfl ⟨by rw [HN'.out], HE.1⟩
              rw [results_cell_tmp rfl]
              simp [asAddr, Result.andThen, hl, fv]
        · obtain ⟨q0, q1, q2⟩ := pr_words hp hb
          have hg := (pr_only hb).1
          have htx := (pr_only hb).2
          obtain ⟨k', a', d', e1, e2, e3, h1, h2, h3, h4, h5⟩ := good_nat hg
          obtain rfl : prK s = k' := by omega
          obtain rfl : prA s = a' := by omega
          obtain rfl : prD s = d' := by omega
          have wa := conv_small (show prA s ≤ 16777215 by omega)
          have wd_ := conv_small h5
          have hT : ftT (prK s : Nat) (prA s : Nat) (prD s : Nat) = s := by unfold ftT; rw [hg, if_pos rfl]; simpa using htx
          rw [q0, q1, q2, wa, wd_, hg, hT] at FT
          rw [q0] at KW
          rw [q1] at R1
          rw [q2] at R2
          have hs := str_ne_yes s
          have HBB := Lib.hid hb
          have W1 := Lib.hid wa
          have W2' := Lib.hid wd_
          clear hb hp HN q0 q1 q2 hg htx e1 e2 e3 h1 h2 h3 h4 h5 wa wd_ hT
          generalize hK : prK s = k at *
          generalize hA : prA s = a at *
          generalize hD : prD s = d at *
          have HKK := Lib.hid hK
          have HAA := Lib.hid hA
          have HDD := Lib.hid hD
          clear hK hA hD
          generalize rdB 16 16 p1 = ba at *
          generalize rdB 16 16 p2 = bd at *
          have wa := W1.out
          have wd_ := W2'.out
          go_wp2_with fail
          refine (R1.out _).mono ?_
          rintro e w2 ⟨rfl, rfl⟩
          go_wp2_with fail
          refine (R2.out _).mono ?_
          rintro e w2 ⟨rfl, rfl⟩
          go_wp2_with fail
          refine KW.out.mono ?_
          rintro e w2 ⟨rfl, rfl⟩
          have HX := Lib.hid (HB1.out.old ((Below.refl _ _).alloc (Nat.le_refl _) (.cells #[.int .i64 k, .int .i64 a, .int .i64 d] 25)))
          have HF1 := Lib.hid (frmk.next3 HB1.out k a d)
          have T2 := Lib.hid (T1.out.old ((Below.refl _ _).alloc (Nat.le_refl _) (.cells #[.int .i64 k, .int .i64 a, .int .i64 d] 25)))
          clear c0 c1 c2 KW R1 R2 T1 HB1
          go_wp2_with fail
          generalize w1.alloc (.cells #[.int .i64 k, .int .i64 a, .int .i64 d] 25) = W2 at *
          generalize w1.heap.size = bf at *
          refine (FT.out _ T2.out).mono ?_
          rintro e w3 ⟨rfl, hb3⟩
          have HB3 := Lib.hid (HX.out.old hb3)
          have HF3 := Lib.hid (HF1.out.old hb3)
          obtain ⟨b0, b1, b2⟩ := HB3.out.cells
          obtain ⟨a0, a1, a2⟩ := HB3.out.frozen
          obtain ⟨f0, f1, f2⟩ := HF3.out.cells
          clear hb3 T2
          go_wp2_with fail
          have HE := HB3.out.set k a d
          have hl := HE.load
          refine bodyPost_ret (v := .tuple #[fv k a d, .bool true]) ?_ rfl ⟨by rw [HKK.out, HAA.out, HDD.out, HBB.out], HE.1⟩
          rw [results_cell_tmp rfl]
          simp [asAddr, Result.andThen, hl, fv]
    · have HN' := Lib.hid (HN.out (by cases hb : prB s; exact rfl; exact absurd (hl.trans (pr_small hb).2) h3))
      have d3 : ((xs.length : Int) != 3) = true := by simp; omega
      obtain ⟨A, c, rfl⟩ := own_slice' ho1
      obtain ⟨b0, b1, b2⟩ := HB1.out.cells
      obtain ⟨a0, a1, a2⟩ := HB1.out.frozen
      clear hl hp ho1 h3 HN
      generalize xs.length = m at *
      go_wp2_with fail
      have HE := HB1.out.set 0 0 0
      have hl := HE.load
      refine bodyPost_ret (v := .tuple #[fv 0 0 0, .bool false]) ?_ rfl ⟨by rw [HN'.out], HE.1⟩
      rw [results_cell_tmp rfl]
      simp [asAddr, Result.andThen, hl, fv]
  · have HN' := Lib.hid (HN.out (by cases hb : prB s; exact rfl; have := (pr_small hb).1; omega))
    have HC := Lib.hid (fun w => splitimpl.impl_no s ⟨#[32]⟩ w (.inl (by omega)))
    clear h4 e1 HN T0
    go_enter Tryd.func17, Tryd.ntmps17
    go_wp2_with fail
    generalize w.alloc (.cells #[.int .i64 0, .int .i64 0, .int .i64 0] 25) = W at *
    refine (HC.out _).mono ?_
    rintro e w1 ⟨rfl, rfl⟩
    obtain ⟨b0, b1, b2⟩ := HW.out.cells
    obtain ⟨a0, a1, a2⟩ := HW.out.frozen
    go_wp2_with fail
    have HE := HW.out.set 0 0 0
    have hl := HE.load
    refine bodyPost_ret (v := .tuple #[fv 0 0 0, .bool false]) ?_ rfl ⟨by rw [HN'.out], HE.1⟩
    rw [results_cell_tmp rfl]
    simp [asAddr, Result.andThen, hl, fv]
end Go.Proofs.YtpjpdfannnafbaaDoor.frmy
