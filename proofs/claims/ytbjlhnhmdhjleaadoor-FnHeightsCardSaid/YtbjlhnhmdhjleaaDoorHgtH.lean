/- spec.ParseHeight. -/
import Derived.Test.YtbjlhnhmdhjleaaDoorHgtF
namespace Go.Proofs.YtbjlhnhmdhjleaaDoor.hgth
open Go.RowKit Go.Proofs.YtbjlhnhmdhjleaaDoor.hgt Go.Proofs.YtbjlhnhmdhjleaaDoor.hgtt Go.Proofs.YtbjlhnhmdhjleaaDoor.num Go.Proofs.YtbjlhnhmdhjleaaDoor.read Go.Proofs.YtbjlhnhmdhjleaaDoor.hgtf

theorem l1Read (s : ByteArray) (w : World) :
    Calls Tryd.prog 29 #[.string s] w fun e w' => e = .returned (.tuple #[.int .i64 (rdN s), .bool (rdB s)]) ∧ ∃ j, w' = w.drewN j := by
  rcases Nat.lt_or_ge 1 s.size with h1 | h1
  · cases h : ((s[0].toNat : Int) == 45)
    · exact spec_pos s w (.inr ⟨by omega, h⟩)
    · exact spec_neg s w h1 h
  · exact spec_pos s w (.inl h1)

/-- The two tests as the walk leaves them. -/
theorem pre_raw {s : ByteArray} (h : 2 ≤ s.size) : ((s.extract 0 2).toList == [70, 76]) = pre s := by
  have h1 := Lib.hasPrefix_raw s fl
  have e1 : fl.size = 2 := rfl
  have e2 : fl.toList = [70, 76] := by rw [Lib.toList_data]; rfl
  rw [e1, e2, decide_eq_true h, Bool.true_and] at h1
  exact h1
theorem suf_raw {s : ByteArray} (h : 3 ≤ s.size) : ((s.extract (s.size - 3) s.size).toList == [32, 102, 116]) = suf s := by
  have h1 := Lib.hasSuffix_raw s ft
  have e1 : ft.size = 3 := rfl
  have e2 : ft.toList = [32, 102, 116] := by rw [Lib.toList_data]; rfl
  rw [e1, e2, decide_eq_true h, Bool.true_and] at h1
  exact h1
theorem cut_pre {s : ByteArray} (h : 2 ≤ s.size) (hp : pre s = true) : cutP s = s.extract 2 s.size := by
  have e1 : fl.size = 2 := rfl
  exact Lib.trimPrefix_hit s fl (by rw [e1]; exact h) (by rw [e1]; have := pre_raw h; rw [hp] at this; have e2 : fl.toList = [70, 76] := by rw [Lib.toList_data]; rfl
                                                          rw [e2]; exact this)
theorem cut_suf {s : ByteArray} (h : 3 ≤ s.size) (hp : suf s = true) : cutS s = s.extract 0 (s.size - 3) := by
  have e1 : ft.size = 3 := rfl
  exact Lib.trimSuffix_hit s ft (by rw [e1]; exact h) (by rw [e1]; have := suf_raw h; rw [hp] at this; have e2 : ft.toList = [32, 102, 116] := by rw [Lib.toList_data]; rfl
                                                          rw [e2]; exact this)
theorem no_form {s : ByteArray} (h1 : pre s = false ∨ s.size ≤ 2) (h2 : suf s = false ∨ s.size ≤ 3) : phB s = false := by
  cases h : phB s
  · rfl
  · rcases ph_forms h with ⟨a, _, _, b⟩ | ⟨_, a, _, _, b⟩
    · rcases h1 with h1 | h1
      · rw [a] at h1; cases h1
      · omega
    · rcases h2 with h2 | h2
      · rw [a] at h2; cases h2
      · omega
theorem no_read {s : ByteArray} (h1 : pre s = true → rdB (cutP s) = false) (h2 : pre s = false → rdB (cutS s) = false) : phB s = false := by
  cases h : phB s
  · rfl
  · rcases ph_forms h with ⟨a, b, _⟩ | ⟨a, _, b, _⟩
    · rw [h1 a] at b; cases b
    · rw [h2 a] at b; cases b

set_option maxHeartbeats 1000000 in
theorem specParse (s : ByteArray) (w : World) :
    Calls Tryd.prog 12 #[.string s] w fun e w' => e = .returned (.tuple #[.int .i64 (phV s), .bool (phB s)]) ∧ ∃ j, w' = w.drewN j := by
  by_cases h12 : 12 < (s.size : Int)
  · have e : phB s = false := by
      cases h : phB s
      · rfl
      · have := (ph_yes h).2.2
        omega
    have HE := Lib.hid (ph_no e)
    clear e 
    go_enter Tryd.func12, Tryd.ntmps12
    go_wp2_with fail
    go_ret2
    exact ⟨HE.out, 0, rfl⟩
  · by_cases h2 : 2 < (s.size : Int)
    · have d1 := pre_raw (s := s) (by omega)
      cases hp : pre s
      · rw [hp] at d1
        have d2 := suf_raw (s := s) (by omega)
        by_cases h3 : 3 < (s.size : Int)
        · cases hs : suf s
          · rw [hs] at d2
            have e : phB s = false := no_form (.inl hp) (.inl hs)
            have HE := Lib.hid (ph_no e)
            clear e hp hs
            go_enter Tryd.func12, Tryd.ntmps12
            go_wp2_with fail
            go_ret2
            exact ⟨HE.out, 0, rfl⟩
          · rw [hs] at d2
            have cut := cut_suf (s := s) (by omega) hs
            have HR := Lib.hid (fun w => l1Read (cutS s) w)
            have hy : rdN (cutS s) = rdH s := by unfold rdH; rw [hp]; simp
            have hr := rdN_bd (cutS s)
            have HU := Lib.hid cut
            rw [cut] at HR
            cases ho : rdB (cutS s)
            · have HE := Lib.hid (ph_no (s := s) (no_read (fun h => by rw [hp] at h; cases h) (fun _ => ho)))
              rw [cut] at ho hr hy
              rw [ho] at HR
              clear hy ho cut HU hp hs
              obtain ⟨r0, r1⟩ := hr
              generalize rdN _ = x at *
              go_enter Tryd.func12, Tryd.ntmps12
              go_wp2_with fail
              refine (HR.out _).mono ?_
              rintro e w1 ⟨rfl, j, rfl⟩
              go_wp2_with fail
              go_ret2
              exact ⟨HE.out, j, rfl⟩
            · have HH := Lib.hid (fun w => hgts.isHeight (rdH s) w)
              cases hb : hB (rdH s)
              · have e : phB s = false := by unfold phB; rw [hb]; rfl
                have HE := Lib.hid (ph_no e)
                clear e
                rw [cut] at ho hr hy
                rw [ho] at HR
                rw [hb] at HH
                rw [← hy] at HH
                clear hy ho cut HU hb hp hs
                obtain ⟨r0, r1⟩ := hr
                generalize rdN _ = x at *
                go_enter Tryd.func12, Tryd.ntmps12
                go_wp2_with fail
                refine (HR.out _).mono ?_
                rintro e w1 ⟨rfl, j, rfl⟩
                go_wp2_with fail
                refine (HH.out _).mono ?_
                rintro e w1 ⟨rfl, hw⟩
                subst hw
                go_wp2_with fail
                go_ret2
                exact ⟨HE.out, _, rfl⟩
              · have HT := Lib.hid (fun w => text (rdH s) w (by have := hb_bd hb; omega) (by have := hb_bd hb; omega))
                obtain ⟨t, ht⟩ : ∃ t, txH (rdH s) = t := ⟨_, rfl⟩
                cases hq : ((txH (rdH s)).toList == s.toList)
                · have e : phB s = false := by unfold phB; rw [hb, hq]; rfl
                  have HE := Lib.hid (ph_no e)
                  rw [ht] at HT hq
                  clear e ht
                  rw [cut] at ho hr hy
                  rw [ho] at HR
                  rw [hb] at HH
                  rw [← hy] at HH HT
                  clear hy ho cut HU hb hp hs
                  obtain ⟨r0, r1⟩ := hr
                  generalize rdN _ = x at *
                  go_enter Tryd.func12, Tryd.ntmps12
                  go_wp2_with fail
                  refine (HR.out _).mono ?_
                  rintro e w1 ⟨rfl, j, rfl⟩
                  go_wp2_with fail
                  refine (HH.out _).mono ?_
                  rintro e w1 ⟨rfl, hw⟩
                  subst hw
                  go_wp2_with fail
                  refine (HT.out _).mono ?_
                  rintro e w1 ⟨rfl, k, rfl⟩
                  go_wp2_with fail
                  go_ret2
                  exact ⟨HE.out, _, rfl⟩
                · have e : phB s = true := by unfold phB; rw [hb, hq]; rfl
                  have HE := Lib.hid (ph_ok e)
                  rw [ht] at HT hq
                  clear e ht
                  rw [cut] at ho hr hy
                  rw [ho] at HR
                  rw [hb] at HH
                  rw [← hy] at HH HT HE
                  clear hy ho cut HU hb hp hs
                  obtain ⟨r0, r1⟩ := hr
                  generalize rdN _ = x at *
                  go_enter Tryd.func12, Tryd.ntmps12
                  go_wp2_with fail
                  refine (HR.out _).mono ?_
                  rintro e w1 ⟨rfl, j, rfl⟩
                  go_wp2_with fail
                  refine (HH.out _).mono ?_
                  rintro e w1 ⟨rfl, hw⟩
                  subst hw
                  go_wp2_with fail
                  refine (HT.out _).mono ?_
                  rintro e w1 ⟨rfl, k, rfl⟩
                  go_wp2_with fail
                  go_ret2
                  exact ⟨HE.out, _, rfl⟩
        · have e : phB s = false := no_form (.inl hp) (.inr (by omega))
          have HE := Lib.hid (ph_no e)
          clear e hp d2
          go_enter Tryd.func12, Tryd.ntmps12
          go_wp2_with fail
          go_ret2
          exact ⟨HE.out, 0, rfl⟩
      · rw [hp] at d1
        have cut := cut_pre (s := s) (by omega) hp
        have HR := Lib.hid (fun w => l1Read (cutP s) w)
        have hy : 100 * rdN (cutP s) = rdH s := by unfold rdH; rw [hp]; simp ; omega
        have hr := rdN_bd (cutP s)
        have HU := Lib.hid cut
        rw [cut] at HR
        cases ho : rdB (cutP s)
        · have HE := Lib.hid (ph_no (s := s) (no_read (fun _ => ho) (fun h => by rw [hp] at h; cases h)))
          rw [cut] at ho hr hy
          rw [ho] at HR
          clear hy ho cut HU hp
          obtain ⟨r0, r1⟩ := hr
          generalize rdN _ = x at *
          go_enter Tryd.func12, Tryd.ntmps12
          go_wp2_with fail
          refine (HR.out _).mono ?_
          rintro e w1 ⟨rfl, j, rfl⟩
          go_wp2_with fail
          go_ret2
          exact ⟨HE.out, j, rfl⟩
        · have HH := Lib.hid (fun w => hgts.isHeight (rdH s) w)
          cases hb : hB (rdH s)
          · have e : phB s = false := by unfold phB; rw [hb]; rfl
            have HE := Lib.hid (ph_no e)
            clear e
            rw [cut] at ho hr hy
            rw [ho] at HR
            rw [hb] at HH
            rw [← hy] at HH
            clear hy ho cut HU hb hp
            obtain ⟨r0, r1⟩ := hr
            generalize rdN _ = x at *
            go_enter Tryd.func12, Tryd.ntmps12
            go_wp2_with fail
            refine (HR.out _).mono ?_
            rintro e w1 ⟨rfl, j, rfl⟩
            go_wp2_with fail
            refine (HH.out _).mono ?_
            rintro e w1 ⟨rfl, hw⟩
            subst hw
            go_wp2_with fail
            go_ret2
            exact ⟨HE.out, _, rfl⟩
          · have HT := Lib.hid (fun w => text (rdH s) w (by have := hb_bd hb; omega) (by have := hb_bd hb; omega))
            obtain ⟨t, ht⟩ : ∃ t, txH (rdH s) = t := ⟨_, rfl⟩
            cases hq : ((txH (rdH s)).toList == s.toList)
            · have e : phB s = false := by unfold phB; rw [hb, hq]; rfl
              have HE := Lib.hid (ph_no e)
              rw [ht] at HT hq
              clear e ht
              rw [cut] at ho hr hy
              rw [ho] at HR
              rw [hb] at HH
              rw [← hy] at HH HT
              clear hy ho cut HU hb hp
              obtain ⟨r0, r1⟩ := hr
              generalize rdN _ = x at *
              go_enter Tryd.func12, Tryd.ntmps12
              go_wp2_with fail
              refine (HR.out _).mono ?_
              rintro e w1 ⟨rfl, j, rfl⟩
              go_wp2_with fail
              refine (HH.out _).mono ?_
              rintro e w1 ⟨rfl, hw⟩
              subst hw
              go_wp2_with fail
              refine (HT.out _).mono ?_
              rintro e w1 ⟨rfl, k, rfl⟩
              go_wp2_with fail
              go_ret2
              exact ⟨HE.out, _, rfl⟩
            · have e : phB s = true := by unfold phB; rw [hb, hq]; rfl
              have HE := Lib.hid (ph_ok e)
              rw [ht] at HT hq
              clear e ht
              rw [cut] at ho hr hy
              rw [ho] at HR
              rw [hb] at HH
              rw [← hy] at HH HT HE
              clear hy ho cut HU hb hp
              obtain ⟨r0, r1⟩ := hr
              generalize rdN _ = x at *
              go_enter Tryd.func12, Tryd.ntmps12
              go_wp2_with fail
              refine (HR.out _).mono ?_
              rintro e w1 ⟨rfl, j, rfl⟩
              go_wp2_with fail
              refine (HH.out _).mono ?_
              rintro e w1 ⟨rfl, hw⟩
              subst hw
              go_wp2_with fail
              refine (HT.out _).mono ?_
              rintro e w1 ⟨rfl, k, rfl⟩
              go_wp2_with fail
              go_ret2
              exact ⟨HE.out, _, rfl⟩
    · have e : phB s = false := no_form (.inr (by omega)) (.inr (by omega))
      have HE := Lib.hid (ph_no e)
      clear e 
      go_enter Tryd.func12, Tryd.ntmps12
      go_wp2_with fail
      go_ret2
      exact ⟨HE.out, 0, rfl⟩
end Go.Proofs.YtbjlhnhmdhjleaaDoor.hgth
