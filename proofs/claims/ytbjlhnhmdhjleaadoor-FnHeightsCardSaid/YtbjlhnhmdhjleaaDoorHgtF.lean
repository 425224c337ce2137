/- Heights' texts: contracts of spec.l6Text, spec.HeightText, spec.ParseHeight, impl.HeightText, impl.readHeight, impl.ParseHeight. -/
import Derived.Test.YtbjlhnhmdhjleaaDoorHgtT
import Derived.Test.YtbjlhnhmdhjleaaDoorHgtI
import Derived.Test.YtbjlhnhmdhjleaaDoorHgtS
import Derived.Test.YtbjlhnhmdhjleaaDoorFmtAll
import Derived.Test.YtbjlhnhmdhjleaaDoorParse
namespace Go.Proofs.YtbjlhnhmdhjleaaDoor.hgtf
open Go.RowKit Go.Proofs.YtbjlhnhmdhjleaaDoor.hgt Go.Proofs.YtbjlhnhmdhjleaaDoor.hgtt Go.Proofs.YtbjlhnhmdhjleaaDoor.num Go.Proofs.YtbjlhnhmdhjleaaDoor.read

theorem fl_dec (h : Int) : flB h = (decide (10000 ≤ h) && decide (h % 100 = 0)) := rfl
theorem tx_fl {h : Int} (e : flB h = true) : txH h = (⟨#[70, 76]⟩ : ByteArray) ++ txt (h / 100) := by unfold txH; rw [e]; rfl
theorem tx_ft {h : Int} (e : flB h = false) : txH h = txt h ++ (⟨#[32, 102, 116]⟩ : ByteArray) := by unfold txH; rw [e]; rfl

theorem text (h : Int) (w : World) (h0 : -999999 ≤ h) (h1 : h ≤ 999999) :
    Calls Tryd.prog 25 #[.int .i64 h] w fun e w' => e = .returned (.string (txH h)) ∧ ∃ j, w' = w.drewN j := by
  by_cases h2 : 10000 ≤ h
  · by_cases h3 : h % 100 = 0
    · have e : flB h = true := by rw [fl_dec, decide_eq_true h2, decide_eq_true h3]; rfl
      have HE := Lib.hid (aid.ret_str (tx_fl e).symm)
      have HN := Lib.hid (fun w => num_any (h / 100) w (by omega) (by omega) (by omega))
      have hz := txt_size (h / 100) (by omega) (by omega)
      have d : (h % 100 == 0) = true := by simpa using h3
      clear e h3
      go_enter Tryd.func25, Tryd.ntmps25
      go_wp2_with fail
      refine (HN.out _).mono ?_
      rintro e w1 ⟨rfl, j, rfl⟩
      generalize txt (h / 100) = t at *
      go_wp2_with fail
      go_ret
      exact ⟨HE.out, j, rfl⟩
    · have e : flB h = false := by rw [fl_dec, decide_eq_false h3]; simp
      have HE := Lib.hid (aid.ret_str (tx_ft e).symm)
      have HN := Lib.hid (fun w => num_any h w (by omega) (by omega) (by omega))
      have hz := txt_size h (by omega) (by omega)
      have d : (h % 100 == 0) = false := by simpa using h3
      clear e h3
      generalize txt h = t at *
      go_enter Tryd.func25, Tryd.ntmps25
      go_wp2_with fail
      refine (HN.out _).mono ?_
      rintro e w1 ⟨rfl, j, rfl⟩
      go_wp2_with fail
      go_ret
      exact ⟨HE.out, j, rfl⟩
  · have e : flB h = false := by rw [fl_dec, decide_eq_false h2]; simp
    have HE := Lib.hid (aid.ret_str (tx_ft e).symm)
    have HN := Lib.hid (fun w => num_any h w (by omega) (by omega) (by omega))
    have hz := txt_size h (by omega) (by omega)
    clear e
    generalize txt h = t at *
    go_enter Tryd.func25, Tryd.ntmps25
    go_wp2_with fail
    refine (HN.out _).mono ?_
    rintro e w1 ⟨rfl, j, rfl⟩
    go_wp2_with fail
    go_ret
    exact ⟨HE.out, j, rfl⟩

theorem ht_no {h : Int} (e : hB h = false) : Ending.returned (.tuple #[.string ⟨#[]⟩, .bool false]) = .returned (.tuple #[.string (htT h), .bool (hB h)]) := by unfold htT; rw [e]; rfl
theorem ht_yes {h : Int} (e : hB h = true) : Ending.returned (.tuple #[.string (txH h), .bool true]) = .returned (.tuple #[.string (htT h), .bool (hB h)]) := by unfold htT; rw [e]; rfl
theorem specText (h : Int) (w : World) :
    Calls Tryd.prog 9 #[.int .i64 h] w fun e w' => e = .returned (.tuple #[.string (htT h), .bool (hB h)]) ∧ ∃ j, w' = w.drewN j := by
  have HH := Lib.hid (fun w => hgts.isHeight h w)
  cases hb : hB h
  · have HE := Lib.hid (ht_no hb)
    rw [hb] at HE HH
    clear hb
    go_enter Tryd.func9, Tryd.ntmps9
    go_wp2_with fail
    refine (HH.out _).mono ?_
    rintro e w1 ⟨rfl, rfl⟩
    go_wp2_with fail
    go_ret2
    exact ⟨HE.out, 0, rfl⟩
  · have HE := Lib.hid (ht_yes hb)
    have hd := hb_bd hb
    have HT := Lib.hid (fun w => text h w (by omega) (by omega))
    rw [hb] at HE HH
    clear hb
    generalize txH h = t at *
    go_enter Tryd.func9, Tryd.ntmps9
    go_wp2_with fail
    refine (HH.out _).mono ?_
    rintro e w1 ⟨rfl, rfl⟩
    go_wp2_with fail
    refine (HT.out _).mono ?_
    rintro e w1 ⟨rfl, j, rfl⟩
    go_wp2_with fail
    go_ret2
    exact ⟨HE.out, j, rfl⟩

theorem implText (h : Int) (w : World) (ht : fmt.Tab w) :
    Calls Tryd.prog 8 #[.int .i64 h] w fun e w' => e = .returned (.tuple #[.string (htT h), .bool (hB h)]) ∧ Below w.heap.size w w' := by
  have HH := Lib.hid (fun w => hgti.isHeight h w)
  cases hb : hB h
  · have HE := Lib.hid (ht_no hb)
    rw [hb] at HE HH
    clear hb ht
    go_enter Tryd.func8, Tryd.ntmps8
    go_wp2_with fail
    refine (HH.out _).mono ?_
    rintro e w1 ⟨rfl, rfl⟩
    go_wp2_with fail
    go_ret2
    exact ⟨HE.out, Below.refl _ _⟩
  · have hd := hb_bd hb
    obtain ⟨h0, h1⟩ := hd
    by_cases h2 : 10000 ≤ h
    · by_cases h3 : h % 100 = 0
      · have e : flB h = true := by rw [fl_dec, decide_eq_true h2, decide_eq_true h3]; rfl
        have HE0 := ht_yes hb
        rw [tx_fl e] at HE0
        have HE := Lib.hid HE0
        clear HE0
        have HN := Lib.hid (fmt.format_yes (h / 100) w (by omega) (by omega) ht)
        have hz := txt_size (h / 100) (by omega) (by omega)
        have d : (h % 100 == 0) = true := by simpa using h3
        rw [hb] at HE HH
        clear e h3 hb ht
        go_enter Tryd.func8, Tryd.ntmps8
        go_wp2_with fail
        refine (HH.out _).mono ?_
        rintro e w1 ⟨rfl, rfl⟩
        go_wp2_with fail
        refine (HN.out).mono ?_
        rintro e w1 ⟨rfl, hbl⟩
        generalize txt (h / 100) = t at *
        go_wp2_with fail
        go_ret2
        exact ⟨HE.out, hbl⟩
      · have e : flB h = false := by rw [fl_dec, decide_eq_false h3]; simp
        have HE0 := ht_yes hb
        rw [tx_ft e] at HE0
        have HE := Lib.hid HE0
        clear HE0
        have HN := Lib.hid (fmt.format_yes h w (by omega) (by omega) ht)
        have hz := txt_size h (by omega) (by omega)
        have d : (h % 100 == 0) = false := by simpa using h3
        rw [hb] at HE HH
        clear e h3 hb ht
        generalize txt h = t at *
        go_enter Tryd.func8, Tryd.ntmps8
        go_wp2_with fail
        refine (HH.out _).mono ?_
        rintro e w1 ⟨rfl, rfl⟩
        go_wp2_with fail
        refine (HN.out).mono ?_
        rintro e w1 ⟨rfl, hbl⟩
        go_wp2_with fail
        go_ret2
        exact ⟨HE.out, hbl⟩
    · have e : flB h = false := by rw [fl_dec, decide_eq_false h2]; simp
      have HE0 := ht_yes hb
      rw [tx_ft e] at HE0
      have HE := Lib.hid HE0
      clear HE0
      have HN := Lib.hid (fmt.format_yes h w (by omega) (by omega) ht)
      have hz := txt_size h (by omega) (by omega)
      rw [hb] at HE HH
      clear e hb ht
      generalize txt h = t at *
      go_enter Tryd.func8, Tryd.ntmps8
      go_wp2_with fail
      refine (HH.out _).mono ?_
      rintro e w1 ⟨rfl, rfl⟩
      go_wp2_with fail
      refine (HN.out).mono ?_
      rintro e w1 ⟨rfl, hbl⟩
      go_wp2_with fail
      go_ret2
      exact ⟨HE.out, hbl⟩

/-- impl.readHeight, impl.ParseHeight. -/
theorem readHeight (s : ByteArray) (w : World) (hs : s.size ≤ 1048576) (ht : fmt.Tab w) :
    Calls Tryd.prog 26 #[.string s] w fun e w' => e = .returned (.int .i64 (rdH s)) ∧ Below w.heap.size w w' := by
  have HC := Lib.hid (fun w => Tryd.strings_CutPrefix s ⟨#[70, 76]⟩ w)
  have e1 : (⟨(Lib.trimPrefix s.data.toList (#[70, 76] : Array UInt8).toList).toArray⟩ : ByteArray) = cutP s := rfl
  have e2 : Lib.hasPrefix s.data.toList (#[70, 76] : Array UInt8).toList = pre s := rfl
  rw [e1, e2] at HC
  clear e1 e2
  cases hp : pre s
  · rw [hp] at HC
    have hz : (cutS s).size ≤ 1048576 := by
      have := Lib.trimSuffix_le s.data.toList ft.data.toList
      have e : (cutS s).size = (Lib.trimSuffix s.data.toList ft.data.toList).length := by unfold cutS; rw [Lib.size_eq]
      rw [e]
      rw [Lib.size_eq] at hs
      omega
    have HR := Lib.hid (parse.impl_any (cutS s) w hz ht)
    have HS := Lib.hid (fun w => Tryd.strings_TrimSuffix s ⟨#[32, 102, 116]⟩ w (by omega))
    have e3 : (⟨(Lib.trimSuffix s.data.toList (#[32, 102, 116] : Array UInt8).toList).toArray⟩ : ByteArray) = cutS s := rfl
    rw [e3] at HS
    have HE := Lib.hid (aid.ret_int (k := .i64) (show rdN (cutS s) = rdH s by unfold rdH; rw [hp]; rfl))
    clear e3 hp hz ht hs
    generalize cutS s = u at *
    generalize cutP s = v at *
    generalize rdN u = x at *
    generalize rdB u = b at *
    go_enter Tryd.func26, Tryd.ntmps26
    go_wp2_with fail
    refine (HC.out _).mono ?_
    rintro e w1 ⟨rfl, hw⟩
    subst hw
    go_wp2_with fail
    refine (HS.out _).mono ?_
    rintro e w1 ⟨rfl, hw⟩
    subst hw
    go_wp2_with fail
    refine (HR.out).mono ?_
    rintro e w1 ⟨rfl, hbl⟩
    go_wp2_with fail
    go_ret
    exact ⟨HE.out, hbl⟩
  · rw [hp] at HC
    have hz : (cutP s).size ≤ 1048576 := by
      have := Lib.trimPrefix_le s.data.toList fl.data.toList
      have e : (cutP s).size = (Lib.trimPrefix s.data.toList fl.data.toList).length := by unfold cutP; rw [Lib.size_eq]
      rw [e]
      rw [Lib.size_eq] at hs
      omega
    have HR := Lib.hid (parse.impl_any (cutP s) w hz ht)
    have hr := rdN_bd (cutP s)
    have HE := Lib.hid (aid.ret_int (k := .i64) (show rdN (cutP s) * 100 = rdH s by unfold rdH; rw [hp]; rfl))
    clear hp hz ht hs
    generalize cutP s = v at *
    generalize rdN v = x at *
    generalize rdB v = b at *
    obtain ⟨r0, r1⟩ := hr
    go_enter Tryd.func26, Tryd.ntmps26
    go_wp2_with fail
    refine (HC.out _).mono ?_
    rintro e w1 ⟨rfl, hw⟩
    subst hw
    go_wp2_with fail
    refine (HR.out).mono ?_
    rintro e w1 ⟨rfl, hbl⟩
    go_wp2_with fail
    go_ret
    exact ⟨HE.out, hbl⟩

theorem ph_no {s : ByteArray} (e : phB s = false) : Ending.returned (.tuple #[.int .i64 0, .bool false]) = .returned (.tuple #[.int .i64 (phV s), .bool (phB s)]) := by unfold phV; rw [e]; rfl
theorem ph_ok {s : ByteArray} (e : phB s = true) : Ending.returned (.tuple #[.int .i64 (rdH s), .bool true]) = .returned (.tuple #[.int .i64 (phV s), .bool (phB s)]) := by unfold phV; rw [e]; rfl
theorem ht_of {h : Int} (e : hB h = true) : htT h = txH h := by unfold htT; rw [e]; rfl
theorem implParse (s : ByteArray) (w : World) (hs : s.size ≤ 1048576) (ht : fmt.Tab w) :
    Calls Tryd.prog 10 #[.string s] w fun e w' => e = .returned (.tuple #[.int .i64 (phV s), .bool (phB s)]) ∧ Below w.heap.size w w' := by
  have HR := Lib.hid (readHeight s w hs ht)
  have HT := Lib.hid (fun (W : World) (hb : Below w.heap.size w W) => implText (rdH s) W (fmt.tab_on ht hb))
  cases hb : hB (rdH s)
  · have e : phB s = false := by unfold phB; rw [hb]; rfl
    have HE := Lib.hid (ph_no e)
    rw [hb] at HT
    clear e hb hs ht
    generalize htT (rdH s) = t at *
    generalize rdH s = x at *
    go_enter Tryd.func10, Tryd.ntmps10
    go_wp2_with fail
    refine HR.out.mono ?_
    rintro e w1 ⟨rfl, h1⟩
    go_wp2_with fail
    refine (HT.out _ h1).mono ?_
    rintro e w2 ⟨rfl, h2⟩
    go_wp2_with fail
    go_ret2
    exact ⟨HE.out, h1.trans (h2.mono h1.size)⟩
  · rw [hb] at HT
    cases hq : ((txH (rdH s)).toList == s.toList)
    · have e : phB s = false := by unfold phB; rw [hb, hq]; rfl
      have HE := Lib.hid (ph_no e)
      rw [ht_of hb] at HT
      clear e hb hs ht
      generalize txH (rdH s) = t at *
      generalize rdH s = x at *
      go_enter Tryd.func10, Tryd.ntmps10
      go_wp2_with fail
      refine HR.out.mono ?_
      rintro e w1 ⟨rfl, h1⟩
      go_wp2_with fail
      refine (HT.out _ h1).mono ?_
      rintro e w2 ⟨rfl, h2⟩
      go_wp2_with fail
      go_ret2
      exact ⟨HE.out, h1.trans (h2.mono h1.size)⟩
    · have e : phB s = true := by unfold phB; rw [hb, hq]; rfl
      have HE := Lib.hid (ph_ok e)
      rw [ht_of hb] at HT
      clear e hb hs ht
      generalize txH (rdH s) = t at *
      generalize rdH s = x at *
      go_enter Tryd.func10, Tryd.ntmps10
      go_wp2_with fail
      refine HR.out.mono ?_
      rintro e w1 ⟨rfl, h1⟩
      go_wp2_with fail
      refine (HT.out _ h1).mono ?_
      rintro e w2 ⟨rfl, h2⟩
      go_wp2_with fail
      go_ret2
      exact ⟨HE.out, h1.trans (h2.mono h1.size)⟩
end Go.Proofs.YtbjlhnhmdhjleaaDoor.hgtf
