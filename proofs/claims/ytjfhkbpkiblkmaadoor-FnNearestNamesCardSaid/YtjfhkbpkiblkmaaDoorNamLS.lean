/- Chapter 3: SplitFlightName of spec. -/
import Derived.Test.YtjfhkbpkiblkmaaDoorNamL
namespace Go.Proofs.YtjfhkbpkiblkmaaDoor.naml
open Go.RowKit Go.Proofs.YtjfhkbpkiblkmaaDoor.good_ Go.Proofs.YtjfhkbpkiblkmaaDoor.bitsi Go.Proofs.YtjfhkbpkiblkmaaDoor.in_ Go.Proofs.YtjfhkbpkiblkmaaDoor.nam

theorem l1Read (s : ByteArray) (w : World) : Calls Tryd.prog 64 #[.string s] w fun e w' => e = .returned (.tuple #[.int .i64 (read.rdN s), .bool (read.rdB s)]) ∧ ∃ j, w' = w.drewN j := by
  rcases Nat.lt_or_ge 1 s.size with h1 | h1
  · cases h : ((s[0].toNat : Int) == 45)
    · exact read.spec_pos s w (.inr ⟨by omega, h⟩)
    · exact read.spec_neg s w h1 h
  · exact read.spec_pos s w (.inl h1)
theorem sf_nm {s : ByteArray} (h : nmB s = false) : sfB s = false := by
  cases hb : sfB s
  · rfl
  · unfold sfB at hb
    simp only [Bool.and_eq_true, decide_eq_true_eq] at hb
    have := sf_name hb.1 hb.2.1 hb.2.2
    rw [h] at this
    cases this
theorem not_both {c : UInt8} (h : ltr c = false) : (c.toNat : Int) < 65 ∨ (65 ≤ (c.toNat : Int) ∧ 90 < (c.toNat : Int)) := by
  unfold ltr at h
  rw [decide_eq_false_iff_not] at h
  omega
theorem drew_end {w w2 : World} (h : ∃ j, w2 = w.drewN j) (n : Nat) : ∃ j, w2.drewN n = w.drewN j := by
  obtain ⟨j, rfl⟩ := h
  exact ⟨_, World.drewN_drewN ..⟩
theorem text_same (x : ByteArray) : (!(x.toList == x.toList)) = false := by simp
theorem num_small (n : Int) (x : ByteArray) (w : World) (h1 : 1 ≤ n) (h2 : n ≤ 9999) (hx : num.txt n = x) : Calls Tryd.prog 58 #[.int .i64 n] w fun e w' => e = .returned (.string x) ∧ ∃ j, w' = w.drewN j := by
  subst hx
  exact num.num_any n w (by omega) (by omega) (by omega)

set_option maxRecDepth 100000 in
set_option maxHeartbeats 3000000 in
theorem spec (s : ByteArray) (w : World) (hs : s.size ≤ maxLen) :
    Calls Tryd.prog 31 #[.string s] w fun e w' => e = .returned (.tuple #[.string (sfL s), .int .i64 (sfN s), .bool (sfB s)]) ∧ ∃ j, w' = w.drewN j := by
  have HR := Lib.hid (fun w => l1Read (rest s) w)
  have hnm := fun w d => aid.quiet_left (nams.name s (World.drewN w d) hs)
  unfold maxLen at hs
  go_enter Tryd.func31, Tryd.ntmps31
  go_wp2_with fail
  go_loop [5] (fun i => ∃ k : Nat, k ≤ s.size ∧ i = .int .i64 k ∧ (s.data.toList.take k).all ltr = true) (fun i => s.size - (intOf i).toNat)
  case atStart => exact ⟨0, Nat.zero_le _, rfl, rfl⟩
  case round =>
    obtain ⟨k, hk, rfl, hok⟩ := hrel
    have HO := Lib.hid hok
    clear hok
    by_cases hgo : ∃ h : k < s.size, ltr s[k] = true
    · obtain ⟨hlt, hl⟩ := hgo
      have HS := Lib.hid (all_snoc HO.out hlt hl)
      have hb := byte_lt s[k]
      have hq := of_decide_eq_true hl
      have h65 : (65 : Int) ≤ (s[k].toNat : Int) := by omega
      have h90 : (s[k].toNat : Int) ≤ 90 := by omega
      have d65 : decide ((65 : Int) ≤ (s[k].toNat : Int)) = true := decide_eq_true h65
      have d90 : decide ((s[k].toNat : Int) ≤ 90) = true := decide_eq_true h90
      clear hl hq hnm
      go_wp2_with fail
      go_round
      case rel => exact ⟨k + 1, by omega, by go_num, HS.out⟩
      case measure => simp [intOf]; omega
    · have hlead := lead_end HO.out hk hgo
      have hrest := rest_at hlead
      rw [hrest] at HR
      have hyes := fun h => sf_yes (s := s) h
      cases c0 : nmB s
      · have HN := Lib.hid (sf_no (sf_nm c0))
        rw [c0] at hnm
        have HNm := Lib.hid hnm
        clear hnm c0 hyes
        generalize read.rdN (s.extract k s.size) = n at *
        generalize read.rdB (s.extract k s.size) = b at *
        rcases Nat.lt_or_ge k s.size with hlt | hge
        · have hb := byte_lt s[k]
          rcases not_both (not_at hgo hlt) with q | ⟨q, r⟩
          · have d65 : decide ((65 : Int) ≤ (s[k].toNat : Int)) = false := decide_eq_false (by omega)
            clear hgo hlead hrest q
            go_wp2_with fail
            (with_reducible refine (HR.out _).mono ?_)
            rintro e w2 ⟨rfl, hj⟩
            have HJ := Lib.hid hj
            clear hj
            go_wp2_with fail
            go_quiet (first
              | (go_at_call 40; exact HNm.out _ _)
              | (go_at_call 56; first | (with_reducible exact HI3.out _ _) | (with_reducible exact HI9.out _ _))
              | (go_at_call 58; exact HNu.out _ _))
            go_wp2_with fail
            go_ret3
            exact ⟨HN.out, drew_end HJ.out _⟩
          · have d65 : decide ((65 : Int) ≤ (s[k].toNat : Int)) = true := decide_eq_true (by omega)
            have d90 : decide ((s[k].toNat : Int) ≤ 90) = false := decide_eq_false (by omega)
            clear hgo hlead hrest q r
            go_wp2_with fail
            (with_reducible refine (HR.out _).mono ?_)
            rintro e w2 ⟨rfl, hj⟩
            have HJ := Lib.hid hj
            clear hj
            go_wp2_with fail
            go_quiet (first
              | (go_at_call 40; exact HNm.out _ _)
              | (go_at_call 56; first | (with_reducible exact HI3.out _ _) | (with_reducible exact HI9.out _ _))
              | (go_at_call 58; exact HNu.out _ _))
            go_wp2_with fail
            go_ret3
            exact ⟨HN.out, drew_end HJ.out _⟩
        · have dk : decide ((k : Int) < (s.size : Int)) = false := decide_eq_false (by omega)
          have dkn : decide (k < s.size) = false := decide_eq_false (by omega)
          clear hgo hlead hrest
          go_wp2_with fail
          (with_reducible refine (HR.out _).mono ?_)
          rintro e w2 ⟨rfl, hj⟩
          have HJ := Lib.hid hj
          clear hj
          go_wp2_with fail
          go_quiet (first
            | (go_at_call 40; exact HNm.out _ _)
            | (go_at_call 56; first | (with_reducible exact HI3.out _ _) | (with_reducible exact HI9.out _ _))
            | (go_at_call 58; exact HNu.out _ _))
          go_wp2_with fail
          go_ret3
          exact ⟨HN.out, drew_end HJ.out _⟩

      · rw [c0] at hnm
        have HNm := Lib.hid hnm
        clear hnm c0
        have HI3 := Lib.hid (fun w d => aid.quiet_left (l1In k 1 3 (World.drewN w d)))
        by_cases c1 : 1 ≤ k ∧ k ≤ 3
        · rw [show isIn k 1 3 = true from decide_eq_true (by omega)] at HI3
          cases c3 : read.rdB (rest s)
          · have HN := Lib.hid (sf_no (s := s) (sf_rd c3))
            rw [hrest] at c3
            rw [c3] at HR
            clear c1 c3 hyes
            generalize read.rdN (s.extract k s.size) = n at *
            rcases Nat.lt_or_ge k s.size with hlt | hge
            · have hb := byte_lt s[k]
              rcases not_both (not_at hgo hlt) with q | ⟨q, r⟩
              · have d65 : decide ((65 : Int) ≤ (s[k].toNat : Int)) = false := decide_eq_false (by omega)
                clear hgo hlead hrest q
                go_wp2_with fail
                (with_reducible refine (HR.out _).mono ?_)
                rintro e w2 ⟨rfl, hj⟩
                have HJ := Lib.hid hj
                clear hj
                go_wp2_with fail
                go_quiet (first
                  | (go_at_call 40; exact HNm.out _ _)
                  | (go_at_call 56; first | (with_reducible exact HI3.out _ _) | (with_reducible exact HI9.out _ _))
                  | (go_at_call 58; exact HNu.out _ _))
                go_wp2_with fail
                go_ret3
                exact ⟨HN.out, drew_end HJ.out _⟩
              · have d65 : decide ((65 : Int) ≤ (s[k].toNat : Int)) = true := decide_eq_true (by omega)
                have d90 : decide ((s[k].toNat : Int) ≤ 90) = false := decide_eq_false (by omega)
                clear hgo hlead hrest q r
                go_wp2_with fail
                (with_reducible refine (HR.out _).mono ?_)
                rintro e w2 ⟨rfl, hj⟩
                have HJ := Lib.hid hj
                clear hj
                go_wp2_with fail
                go_quiet (first
                  | (go_at_call 40; exact HNm.out _ _)
                  | (go_at_call 56; first | (with_reducible exact HI3.out _ _) | (with_reducible exact HI9.out _ _))
                  | (go_at_call 58; exact HNu.out _ _))
                go_wp2_with fail
                go_ret3
                exact ⟨HN.out, drew_end HJ.out _⟩
            · have dk : decide ((k : Int) < (s.size : Int)) = false := decide_eq_false (by omega)
              have dkn : decide (k < s.size) = false := decide_eq_false (by omega)
              clear hgo hlead hrest
              go_wp2_with fail
              (with_reducible refine (HR.out _).mono ?_)
              rintro e w2 ⟨rfl, hj⟩
              have HJ := Lib.hid hj
              clear hj
              go_wp2_with fail
              go_quiet (first
                | (go_at_call 40; exact HNm.out _ _)
                | (go_at_call 56; first | (with_reducible exact HI3.out _ _) | (with_reducible exact HI9.out _ _))
                | (go_at_call 58; exact HNu.out _ _))
              go_wp2_with fail
              go_ret3
              exact ⟨HN.out, drew_end HJ.out _⟩

          · have HI9 := Lib.hid (fun w d => aid.quiet_left (l1In (read.rdN (rest s)) 1 9999 (World.drewN w d)))
            by_cases c4 : 1 ≤ read.rdN (rest s) ∧ read.rdN (rest s) ≤ 9999
            · have HNu := Lib.hid (fun w d => Calls.quiet_of (num_small (read.rdN (rest s)) (rest s) (World.drewN w d) c4.1 c4.2 (num_text c3 c4.1 c4.2).2.2))
              have hy := hyes (sf_all (by omega) c3 c4)
              rw [show isIn (read.rdN (rest s)) 1 9999 = true from decide_eq_true c4] at HI9
              rw [hlead, hrest] at hy
              have HN := Lib.hid hy
              have hself := text_same (s.extract k s.size)
              rw [hrest] at c3 c4 HNu HI9
              rw [c3] at HR
              clear c1 c3 c4 hy hyes
              generalize read.rdN (s.extract k s.size) = n at *
              rcases Nat.lt_or_ge k s.size with hlt | hge
              · have hb := byte_lt s[k]
                rcases not_both (not_at hgo hlt) with q | ⟨q, r⟩
                · have d65 : decide ((65 : Int) ≤ (s[k].toNat : Int)) = false := decide_eq_false (by omega)
                  clear hgo hlead hrest q
                  go_wp2_with fail
                  (with_reducible refine (HR.out _).mono ?_)
                  rintro e w2 ⟨rfl, hj⟩
                  have HJ := Lib.hid hj
                  clear hj
                  go_wp2_with fail
                  go_quiet (first
                    | (go_at_call 40; exact HNm.out _ _)
                    | (go_at_call 56; first | (with_reducible exact HI3.out _ _) | (with_reducible exact HI9.out _ _))
                    | (go_at_call 58; exact HNu.out _ _))
                  go_wp2_with fail
                  go_ret3
                  exact ⟨HN.out, drew_end HJ.out _⟩
                · have d65 : decide ((65 : Int) ≤ (s[k].toNat : Int)) = true := decide_eq_true (by omega)
                  have d90 : decide ((s[k].toNat : Int) ≤ 90) = false := decide_eq_false (by omega)
                  clear hgo hlead hrest q r
                  go_wp2_with fail
                  (with_reducible refine (HR.out _).mono ?_)
                  rintro e w2 ⟨rfl, hj⟩
                  have HJ := Lib.hid hj
                  clear hj
                  go_wp2_with fail
                  go_quiet (first
                    | (go_at_call 40; exact HNm.out _ _)
                    | (go_at_call 56; first | (with_reducible exact HI3.out _ _) | (with_reducible exact HI9.out _ _))
                    | (go_at_call 58; exact HNu.out _ _))
                  go_wp2_with fail
                  go_ret3
                  exact ⟨HN.out, drew_end HJ.out _⟩
              · have dk : decide ((k : Int) < (s.size : Int)) = false := decide_eq_false (by omega)
                have dkn : decide (k < s.size) = false := decide_eq_false (by omega)
                clear hgo hlead hrest
                go_wp2_with fail
                (with_reducible refine (HR.out _).mono ?_)
                rintro e w2 ⟨rfl, hj⟩
                have HJ := Lib.hid hj
                clear hj
                go_wp2_with fail
                go_quiet (first
                  | (go_at_call 40; exact HNm.out _ _)
                  | (go_at_call 56; first | (with_reducible exact HI3.out _ _) | (with_reducible exact HI9.out _ _))
                  | (go_at_call 58; exact HNu.out _ _))
                go_wp2_with fail
                go_ret3
                exact ⟨HN.out, drew_end HJ.out _⟩

            · have HN := Lib.hid (sf_no (s := s) (sf_num c4))
              rw [show isIn (read.rdN (rest s)) 1 9999 = false from decide_eq_false c4] at HI9
              rw [hrest] at c3 c4 HI9
              rw [c3] at HR
              clear c1 c3 c4 hyes
              generalize read.rdN (s.extract k s.size) = n at *
              rcases Nat.lt_or_ge k s.size with hlt | hge
              · have hb := byte_lt s[k]
                rcases not_both (not_at hgo hlt) with q | ⟨q, r⟩
                · have d65 : decide ((65 : Int) ≤ (s[k].toNat : Int)) = false := decide_eq_false (by omega)
                  clear hgo hlead hrest q
                  go_wp2_with fail
                  (with_reducible refine (HR.out _).mono ?_)
                  rintro e w2 ⟨rfl, hj⟩
                  have HJ := Lib.hid hj
                  clear hj
                  go_wp2_with fail
                  go_quiet (first
                    | (go_at_call 40; exact HNm.out _ _)
                    | (go_at_call 56; first | (with_reducible exact HI3.out _ _) | (with_reducible exact HI9.out _ _))
                    | (go_at_call 58; exact HNu.out _ _))
                  go_wp2_with fail
                  go_ret3
                  exact ⟨HN.out, drew_end HJ.out _⟩
                · have d65 : decide ((65 : Int) ≤ (s[k].toNat : Int)) = true := decide_eq_true (by omega)
                  have d90 : decide ((s[k].toNat : Int) ≤ 90) = false := decide_eq_false (by omega)
                  clear hgo hlead hrest q r
                  go_wp2_with fail
                  (with_reducible refine (HR.out _).mono ?_)
                  rintro e w2 ⟨rfl, hj⟩
                  have HJ := Lib.hid hj
                  clear hj
                  go_wp2_with fail
                  go_quiet (first
                    | (go_at_call 40; exact HNm.out _ _)
                    | (go_at_call 56; first | (with_reducible exact HI3.out _ _) | (with_reducible exact HI9.out _ _))
                    | (go_at_call 58; exact HNu.out _ _))
                  go_wp2_with fail
                  go_ret3
                  exact ⟨HN.out, drew_end HJ.out _⟩
              · have dk : decide ((k : Int) < (s.size : Int)) = false := decide_eq_false (by omega)
                have dkn : decide (k < s.size) = false := decide_eq_false (by omega)
                clear hgo hlead hrest
                go_wp2_with fail
                (with_reducible refine (HR.out _).mono ?_)
                rintro e w2 ⟨rfl, hj⟩
                have HJ := Lib.hid hj
                clear hj
                go_wp2_with fail
                go_quiet (first
                  | (go_at_call 40; exact HNm.out _ _)
                  | (go_at_call 56; first | (with_reducible exact HI3.out _ _) | (with_reducible exact HI9.out _ _))
                  | (go_at_call 58; exact HNu.out _ _))
                go_wp2_with fail
                go_ret3
                exact ⟨HN.out, drew_end HJ.out _⟩

        · have HN := Lib.hid (sf_no (s := s) (sf_lead (by omega)))
          rw [show isIn k 1 3 = false from decide_eq_false (by omega)] at HI3
          clear c1 hyes
          generalize read.rdN (s.extract k s.size) = n at *
          generalize read.rdB (s.extract k s.size) = b at *
          rcases Nat.lt_or_ge k s.size with hlt | hge
          · have hb := byte_lt s[k]
            rcases not_both (not_at hgo hlt) with q | ⟨q, r⟩
            · have d65 : decide ((65 : Int) ≤ (s[k].toNat : Int)) = false := decide_eq_false (by omega)
              clear hgo hlead hrest q
              go_wp2_with fail
              (with_reducible refine (HR.out _).mono ?_)
              rintro e w2 ⟨rfl, hj⟩
              have HJ := Lib.hid hj
              clear hj
              go_wp2_with fail
              go_quiet (first
                | (go_at_call 40; exact HNm.out _ _)
                | (go_at_call 56; first | (with_reducible exact HI3.out _ _) | (with_reducible exact HI9.out _ _))
                | (go_at_call 58; exact HNu.out _ _))
              go_wp2_with fail
              go_ret3
              exact ⟨HN.out, drew_end HJ.out _⟩
            · have d65 : decide ((65 : Int) ≤ (s[k].toNat : Int)) = true := decide_eq_true (by omega)
              have d90 : decide ((s[k].toNat : Int) ≤ 90) = false := decide_eq_false (by omega)
              clear hgo hlead hrest q r
              go_wp2_with fail
              (with_reducible refine (HR.out _).mono ?_)
              rintro e w2 ⟨rfl, hj⟩
              have HJ := Lib.hid hj
              clear hj
              go_wp2_with fail
              go_quiet (first
                | (go_at_call 40; exact HNm.out _ _)
                | (go_at_call 56; first | (with_reducible exact HI3.out _ _) | (with_reducible exact HI9.out _ _))
                | (go_at_call 58; exact HNu.out _ _))
              go_wp2_with fail
              go_ret3
              exact ⟨HN.out, drew_end HJ.out _⟩
          · have dk : decide ((k : Int) < (s.size : Int)) = false := decide_eq_false (by omega)
            have dkn : decide (k < s.size) = false := decide_eq_false (by omega)
            clear hgo hlead hrest
            go_wp2_with fail
            (with_reducible refine (HR.out _).mono ?_)
            rintro e w2 ⟨rfl, hj⟩
            have HJ := Lib.hid hj
            clear hj
            go_wp2_with fail
            go_quiet (first
              | (go_at_call 40; exact HNm.out _ _)
              | (go_at_call 56; first | (with_reducible exact HI3.out _ _) | (with_reducible exact HI9.out _ _))
              | (go_at_call 58; exact HNu.out _ _))
            go_wp2_with fail
            go_ret3
            exact ⟨HN.out, drew_end HJ.out _⟩

end Go.Proofs.YtjfhkbpkiblkmaaDoor.naml
