/- spec's WeakestFlips: the list of patterns that it builds, and the search in it. -/
import Derived.Test.YtdededldoamifaaParR
import Derived.BigQuiet
import Derived.Deep.QuietTactic
namespace Go.Proofs.Ytdededldoamifaa.parw
open Go.RowKit Go.Proofs.Ytdededldoamifaa.bin Go.Proofs.Ytdededldoamifaa.good_ Go.Proofs.Ytdededldoamifaa.par Go.Proofs.Ytdededldoamifaa.pars Go.Proofs.Ytdededldoamifaa.parr

/-- Cells of ints. -/
def Nums (w : World) (b o n : Nat) (f : Nat → Nat) : Prop := ∀ j, j < n → w.cell? ⟨b, o + j, none⟩ = some (.int .i64 (f j : Nat))
def anyF (n : Nat) (f : Nat → Nat) (y : Nat) : Bool := (List.range n).any (fun j => f j == y)
theorem any_no {n y : Nat} {f : Nat → Nat} (h : ∀ j, j < n → f j ≠ y) : anyF n f y = false := by
  cases hb : anyF n f y
  · rfl
  · unfold anyF at hb
    obtain ⟨j, hj, e⟩ := List.any_eq_true.1 hb
    exact absurd (by simpa using e) (h j (List.mem_range.1 hj))
theorem any_yes {n y j : Nat} {f : Nat → Nat} (hj : j < n) (h : f j = y) : anyF n f y = true :=
  List.any_eq_true.2 ⟨j, List.mem_range.2 hj, by simpa using h⟩
/-- The pattern of the bit i, counted from the left. -/
def bp (n i : Nat) : Nat := pat (n - 1 - i)
theorem bp_lt (n i : Nat) : bp n i < 4096 := red_lt 64 _
theorem any_has (n y : Nat) : anyF n (bp n) y = has n y := by
  cases hb : has n y
  · refine any_no fun j hj => ?_
    exact has_no hb (show n - 1 - j < n by omega)
  · obtain ⟨j, hj, e⟩ := (has_iff n y).1 hb
    exact any_yes (j := n - 1 - j) (by omega) (by unfold bp; rw [show n - 1 - (n - 1 - j) = j by omega]; exact e)
theorem two_yes {n y i k : Nat} (hi : i < n) (hk : k < n) (h : bp n i ^^^ bp n k = y) : two n y = true :=
  (two_iff n y).2 ⟨n - 1 - k, n - 1 - i, by omega, by omega, (xor_move _ _ _).1 h⟩
theorem two_none {n y : Nat} (h0 : y ≠ 0) (h : ∀ i, i < n → ∀ k, k < i → bp n i ^^^ bp n k ≠ y) : two n y = false := by
  cases hb : two n y
  · rfl
  · obtain ⟨i, j, hi, hj, e⟩ := (two_iff n y).1 hb
    have e2 := (xor_move _ _ _).2 e
    rcases Nat.lt_trichotomy i j with hl | hl | hl
    · exact absurd (show bp n (n - 1 - i) ^^^ bp n (n - 1 - j) = y by
        unfold bp
        rw [show n - 1 - (n - 1 - i) = i by omega, show n - 1 - (n - 1 - j) = j by omega, Nat.xor_comm]
        exact e2) (h (n - 1 - i) (by omega) (n - 1 - j) (by omega))
    · subst hl
      rw [Nat.xor_self] at e2
      exact absurd e2.symm h0
    · exact absurd (show bp n (n - 1 - j) ^^^ bp n (n - 1 - i) = y by
        unfold bp
        rw [show n - 1 - (n - 1 - i) = i by omega, show n - 1 - (n - 1 - j) = j by omega]
        exact e2) (h (n - 1 - j) (by omega) (n - 1 - i) (by omega))
theorem eq_ints {a b : Nat} (h : a = b) : ((a : Int) == (b : Int)) = true := by simp [h]
theorem ne_ints {a b : Nat} (h : a ≠ b) : ((a : Int) == (b : Int)) = false := by simp; omega

theorem has1 (b o n c y : Nat) (f : Nat → Nat) (w : World) (hn : (n : Int) ≤ 64) (h : Nums w b o n f) :
    Calls Try.prog 51 #[.slice (some ⟨b, o, none⟩) n c, .int .i64 y] w fun e w' => e = .returned (.bool (anyF n f y)) ∧ w = w' := by
  have H := Lib.hid h
  clear h
  go_enter Try.func51, Try.ntmps51
  go_wp2_with fail
  go_loop [5] (fun i => ∃ k : Nat, k ≤ n ∧ i = .int .i64 k ∧ ∀ j, j < k → f j ≠ y) (fun i => n - (intOf i).toNat)
  case atStart => exact ⟨0, Nat.zero_le _, rfl, fun j hj => absurd hj (Nat.not_lt_zero _)⟩
  case round =>
    obtain ⟨k, hk, rfl, hno⟩ := hrel
    have HO := Lib.hid hno
    clear hno
    by_cases hlt : k < n
    · have hc := H.out k hlt
      have hlt2 : (k : Int) < (n : Int) := by omega
      by_cases he : f k = y
      · have h1 := eq_ints he
        have HR := Lib.hid (aid.ret_bool (any_yes hlt he).symm)
        clear he
        generalize f k = v at *
        go_wp2_with fail
        go_ret
        exact ⟨HR.out, rfl⟩
      · have h1 := ne_ints he
        have HS := Lib.hid (show ∀ j, j < k + 1 → f j ≠ y from fun j hj => by
          by_cases hjk : j < k
          · exact HO.out j hjk
          · obtain rfl : j = k := by omega
            exact he)
        clear he
        generalize f k = v at *
        go_wp2_with fail
        go_round
        case rel => exact ⟨k + 1, by omega, by go_num, HS.out⟩
        case measure => simp [intOf]; omega
    · obtain rfl : k = n := by omega
      have HR := Lib.hid (aid.ret_bool (any_no HO.out).symm)
      go_wp2_with fail
      go_ret
      exact ⟨HR.out, rfl⟩

theorem infoI : (Try.prog.info? 3).map (fun i => (i.zero, i.size, i.bytes)) = some (some (.int .i64 0), 1, 8) := by kernel_rfl
/-- The list as it grows. -/
def nums (n k : Nat) : List Value := (List.range k).map (fun i => Value.int .i64 (bp n i : Nat))
theorem nums_length (n k : Nat) : (nums n k).length = k := by unfold nums; rw [List.length_map, List.length_range]
theorem nums_step (n k : Nat) : nums n k ++ [.int .i64 (bp n k : Nat)] = nums n (k + 1) := by unfold nums; rw [List.range_succ, List.map_append]; rfl
theorem own_nums {w : World} {B n : Nat} {v : Value} (hn : 0 < n) (h : w.ownsRow B 3 1 v n (nums n n)) : ∃ g c, v = .slice (some ⟨g, 0, none⟩) n c ∧ Nums w g 0 n (bp n) := by
  rcases h.2 with ⟨_, h1⟩ | ⟨g, cap, cur, rfl, _, hh, _⟩
  · omega
  · refine ⟨g, cap, rfl, fun j hj => ?_⟩
    have := h.cells (g := g) rfl j (.int .i64 (bp n j : Nat)) (by unfold nums; simp [hj])
    rwa [Addr.add_lit] at this
theorem nums_drewN {w : World} {b o n : Nat} {f : Nat → Nat} (h : Nums w b o n f) (k : Nat) : Nums (w.drewN k) b o n f := h

set_option maxHeartbeats 2000000 in
theorem weakestFlips (s : ByteArray) (w : World) (hm : s.size ≤ maxLen) :
    Calls Try.prog 27 #[.string s] w fun e w' => e = .returned (.tuple #[.int .i64 (wkV s : Nat), .bool (sndB s)]) ∧ Below w.heap.size w w' := by
  have hc := fun w => good4 s w hm
  cases hb : sndB s
  · have HN := Lib.hid (wk_no hb)
    rw [hb] at hc HN
    have HC := Lib.hid hc
    clear hc hb hm
    go_enter Try.func27, Try.ntmps27
    go_wp2_with fail
    refine (HC.out _).mono ?_
    rintro e w' ⟨rfl, rfl⟩
    go_wp2_with fail
    go_ret2
    exact ⟨HN.out, Below.refl _ _⟩
  · have HY := Lib.hid (fun v hv => @wk_yes s hb v hv)
    have HS := Lib.hid (fun w => synOf hb w)
    have h64 : s.size ≤ 64 := (bitsi.rd_ok (snd_of hb).1).1
    have h12 := (snd_of hb).2
    have h64i : (s.size : Int) ≤ 64 := by omega
    have hylt := syn_lt s
    rw [hb] at hc HY
    have HC := Lib.hid hc
    clear hc hb hm
    by_cases h0 : syn s = 0
    · have HE := Lib.hid (HY.out 0 (by rw [h0, weak0]; rfl))
      rw [h0] at HS
      clear h0 HY hylt
      go_enter Try.func27, Try.ntmps27
      go_wp2_with fail
      refine (HC.out _).mono ?_
      rintro e w' ⟨rfl, rfl⟩
      go_wp2_with fail
      refine (HS.out _).mono ?_
      rintro e w' ⟨rfl, j, rfl⟩
      go_wp2_with fail
      go_ret2
      exact ⟨HE.out, aid.below_drewN (Below.refl _ _) _⟩
    · have e0 := ne0 h0
      have H0 := Lib.hid h0
      clear h0
      generalize syn s = y at *
      obtain ⟨i0, hi, hz0, hz1, hz2⟩ := info_parts infoI
      have HP := Lib.hid (fun k w => single s.size k w h64)
      have HG := Lib.hid (fun k (hk : k < s.size) w => show Calls Try.prog 48 #[.string (sgT k s.size)] w fun e w' => e = .returned (.int .i64 (bp s.size k : Nat)) ∧ ∃ j, w' = w.drewN j from by
        have := synOf (sgT_snd (i := k) h12 h64) w
        rw [sgT_syn hk] at this
        exact this)
      go_enter Try.func27, Try.ntmps27
      go_wp2_with fail
      refine (HC.out _).mono ?_
      rintro e w' ⟨rfl, rfl⟩
      go_wp2_with fail
      refine (HS.out _).mono ?_
      rintro e w' ⟨rfl, j0, rfl⟩
      go_wp2_with fail
      go_loopw [5, 6] (fun v i wr => ∃ k : Nat, k ≤ s.size ∧ i = .int .i64 k ∧ wr.ownsRow w.heap.size 3 1 v k (nums s.size k) ∧ Below w.heap.size w wr) (fun _ i _ => s.size - (intOf i).toNat)
      case atStart => exact ⟨0, Nat.zero_le _, rfl, own_.own_empty (w.drewN j0) _, (aid.below_drewN (Below.refl _ _) j0).alloc (Nat.le_refl _) _⟩
      case round =>
        obtain ⟨k, hk, rfl, hown, hbw⟩ := hrel
        have hsz := hbw.size
        by_cases hlt : k < s.size
        · have hlt2 : (k : Int) < (s.size : Int) := by omega
          have HP2 := Lib.hid (HP.out k)
          have HG2 := Lib.hid (HG.out k hlt)
          have HST := Lib.hid (nums_step s.size k)
          generalize bp s.size k = p at *
          generalize sgT k s.size = t at *
          go_wp2_with fail
          refine (HP2.out _).mono ?_
          rintro e w1 ⟨rfl, rfl⟩
          go_wp2_with fail
          refine (HG2.out _).mono ?_
          rintro e w1 ⟨rfl, j1, rfl⟩
          have hown1 := own_.own_drewN hown j1
          have hbw1 := aid.below_drewN hbw j1
          have hsz1 := hbw1.size
          generalize wr.drewN j1 = w1 at *
          go_wp2_with (at_builtin; refine wpList_append_own _ rfl (.tmp 23) (.tmp 29) 53 rfl w.heap.size 3 i0 (.int .i64 0) 1 8 Try.underlying53 hi hz0 hz1 hz2 rfl (by decide) _ k (nums s.size k) rfl (hown1.alloc _) ⟨w1.heap.size, 0, none⟩ 1 1 [.int .i64 p] rfl rfl (cell_one_new _ _ _) (own_.one_cell _ rfl) (by unfold maxLen; omega) (by omega) (by simp; omega) ?_; intro v' w2 hown' hgrow hnil)
          have hb' := own_.below_append hbw1 hown1 hsz1 hgrow
          rw [HST.out] at hown'
          have HO := Lib.hid hown'
          clear hown' hgrow hnil hown hown1 hbw hbw1
          go_roundw
          case rel => exact ⟨k + 1, by omega, by go_num, HO.out, hb'⟩
          case measure => simp [intOf]; omega
        · obtain rfl : k = s.size := by omega
          obtain ⟨g, c, rfl, hnm⟩ := own_nums (by omega) hown
          have HNM := Lib.hid hnm
          have HA := Lib.hid (has1 g 0 s.size c y (bp s.size) wr h64i hnm)
          rw [any_has] at HA
          clear hown hnm HG HP HS HC
          cases hh : has s.size y
          · rw [hh] at HA
            have HH := Lib.hid hh
            clear hh
            go_wp2_with fail
            refine HA.out.mono ?_
            rintro e w1 ⟨rfl, rfl⟩
            go_wp2_with fail
            go_loopw [7, 8] (fun i _ wx => ∃ k j : Nat, k ≤ s.size ∧ i = .int .i64 k ∧ wx = wr.drewN j ∧ ∀ i, i < k → ∀ m, m < i → bp s.size i ^^^ bp s.size m ≠ y) (fun i _ _ => s.size - (intOf i).toNat)
            case atStart => exact ⟨0, 0, Nat.zero_le _, rfl, rfl, fun i hi => absurd hi (Nat.not_lt_zero _)⟩
            case round =>
              obtain ⟨k, j, hk2, rfl, rfl, hno⟩ := hrel
              have HO := Lib.hid hno
              clear hno
              by_cases hlt3 : k < s.size
              · have hlt4 : (k : Int) < (s.size : Int) := by omega
                go_wp2_with fail
                go_loopw [8] (fun m wx => ∃ q j : Nat, q ≤ k ∧ m = .int .i64 q ∧ wx = wr.drewN j ∧ ∀ m, m < q → bp s.size k ^^^ bp s.size m ≠ y) (fun m _ => k - (intOf m).toNat)
                case atStart => exact ⟨0, j, Nat.zero_le _, rfl, rfl, fun i hi => absurd hi (Nat.not_lt_zero _)⟩
                case round =>
                  obtain ⟨q, j2, hq, rfl, rfl, hno⟩ := hrel
                  have HI := Lib.hid hno
                  clear hno
                  by_cases hlt5 : q < k
                  · have hlt6 : (q : Int) < (k : Int) := by omega
                    have hq6 : (q : Int) < (s.size : Int) := by omega
                    have c1 := HNM.out k hlt3
                    rw [Nat.zero_add] at c1
                    have c2 := HNM.out q (by omega)
                    rw [Nat.zero_add] at c2
                    have l1 := bp_lt s.size k
                    have l2 := bp_lt s.size q
                    have hx := xor_nat_i (bp s.size k) (bp s.size q) (by omega) (by omega)
                    by_cases he : bp s.size k ^^^ bp s.size q = y
                    · have h1 := eq_ints he
                      have HE := Lib.hid (HY.out 2 (by rw [weak2 H0.out HH.out (two_yes hlt3 (show q < s.size by omega) he)]; rfl))
                      clear he l1 l2
                      generalize bp s.size k ^^^ bp s.size q = x at *
                      generalize bp s.size k = p1 at *
                      generalize bp s.size q = p2 at *
                      go_wp2_with fail
                      go_quiet (fail)
                      go_wp2_with fail
                      go_ret2
                      exact ⟨HE.out, aid.below_drewN (aid.below_drewN hbw _) _⟩
                    · have h1 := ne_ints he
                      have HS2 := Lib.hid (show ∀ m, m < q + 1 → bp s.size k ^^^ bp s.size m ≠ y from fun m hm => by
                        by_cases hmq : m < q
                        · exact HI.out m hmq
                        · obtain rfl : m = q := by omega
                          exact he)
                      clear he l1 l2
                      generalize bp s.size k ^^^ bp s.size q = x at *
                      generalize bp s.size k = p1 at *
                      generalize bp s.size q = p2 at *
                      go_wp2_with fail
                      go_quiet (fail)
                      go_wp2_with fail
                      go_roundw
                      case rel => exact ⟨q + 1, _, by omega, by go_num, rfl, HS2.out⟩
                      case measure => simp [intOf]; omega
                  · obtain rfl : q = k := by omega
                    have HS2 := Lib.hid (show ∀ i, i < q + 1 → ∀ m, m < i → bp s.size i ^^^ bp s.size m ≠ y from fun i hi m hm => by
                      by_cases hiq : i < q
                      · exact HO.out i hiq m hm
                      · obtain rfl : i = q := by omega
                        exact HI.out m hm)
                    go_wp2_with fail
                    go_roundw
                    case rel => exact ⟨q + 1, _, by omega, by go_num, rfl, HS2.out⟩
                    case measure => simp [intOf]; omega
              · obtain rfl : k = s.size := by omega
                have HE := Lib.hid (HY.out 3 (by rw [weak3 H0.out HH.out (two_none H0.out HO.out)]; rfl))
                go_wp2_with fail
                go_ret2
                exact ⟨HE.out, aid.below_drewN hbw _⟩
          · rw [hh] at HA
            have HE := Lib.hid (HY.out 1 (by rw [weak1 H0.out hh]; rfl))
            clear hh
            go_wp2_with fail
            refine HA.out.mono ?_
            rintro e w1 ⟨rfl, rfl⟩
            go_wp2_with fail
            go_ret2
            exact ⟨HE.out, hbw⟩
end Go.Proofs.Ytdededldoamifaa.parw
