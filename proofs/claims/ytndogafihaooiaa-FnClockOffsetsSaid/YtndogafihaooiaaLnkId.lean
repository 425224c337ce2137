/- slices.Index and Contains at bools; impl's ClockOffsets. -/
import Derived.Test.YtndogafihaooiaaLnkIc
namespace Go.Proofs.Ytndogafihaooiaa.lnki
open Go.RowKit Go.Proofs.Ytndogafihaooiaa.ints Go.Proofs.Ytndogafihaooiaa.lst Go.Proofs.Ytndogafihaooiaa.in_ Go.Proofs.Ytndogafihaooiaa.ats Go.Proofs.Ytndogafihaooiaa.lnk Go.Proofs.Ytndogafihaooiaa.lnks Go.Proofs.Ytndogafihaooiaa.lnkw Go.Proofs.Ytndogafihaooiaa.lnkx Go.Proofs.Ytndogafihaooiaa.lnkp

theorem indexB (sn : Nat → Bool) (B g n : Nat) (w : World) (hn : n ≤ 1000) (h : w.ownsRow B 4 1 (.slice (some ⟨g, 0, none⟩) n n) n (bls sn n)) :
    Calls Try.prog 96 #[.slice (some ⟨g, 0, none⟩) n n, .bool false] w fun e w' => (∃ j : Int, e = .returned (.int .i64 j) ∧ decide (0 ≤ j) = !allT sn n) ∧ w = w' := by
  have HC := Lib.hid (fun k (hk : k < n) => (h.cellAt k (by omega)).trans (bls_at hk))
  clear h
  have HN := Lib.hid (fun k (hk : k < n) (h : sn k = false) => allT_no hk h)
  go_enter Try.func96, Try.ntmps96
  go_wp2_with fail
  go_loop [5, 8] (fun _ i => ∃ k : Nat, k ≤ n ∧ i = .int .i64 k ∧ allT sn k = true) (fun _ i => n - (intOf i).toNat)
  case atStart => exact ⟨0, Nat.zero_le _, rfl, rfl⟩
  case round =>
    obtain ⟨k, hk, rfl, hal⟩ := hrel
    by_cases hlt : k < n
    · have hlt2 : (k : Int) < (n : Int) := by omega
      have hc := HC.out k hlt
      have HNk := Lib.hid (HN.out k hlt)
      have HS := Lib.hid (show allT sn (k + 1) = (allT sn k && sn k) from rfl)
      rw [hal] at HS
      clear HN HC hal
      generalize sn k = b at *
      cases b
      · have HA := Lib.hid (HNk.out rfl)
        clear HNk HS
        go_wp2_with fail
        go_ret
        exact ⟨⟨k, rfl, by rw [HA.out, decide_eq_true (show (0 : Int) ≤ (k : Int) by omega)]; rfl⟩, rfl⟩
      · have HA := Lib.hid (show allT sn (k + 1) = true from HS.out)
        clear HNk HS
        go_wp2_with fail
        go_round
        case rel => exact ⟨k + 1, by omega, by go_num, HA.out⟩
        case measure => simp [intOf]; omega
    · obtain rfl : k = n := by omega
      have HA := Lib.hid hal
      clear hal HC HN
      go_wp2_with fail
      go_ret
      exact ⟨⟨-1, rfl, by rw [HA.out]; rfl⟩, rfl⟩
theorem containsB (sn : Nat → Bool) (B g n : Nat) (w : World) (hn : n ≤ 1000) (h : w.ownsRow B 4 1 (.slice (some ⟨g, 0, none⟩) n n) n (bls sn n)) :
    Calls Try.prog 79 #[.slice (some ⟨g, 0, none⟩) n n, .bool false] w fun e w' => e = .returned (.bool (!allT sn n)) ∧ w = w' := by
  have H := Lib.hid (indexB sn B g n w hn h)
  clear h
  generalize (!allT sn n) = p at *
  go_enter Try.func79, Try.ntmps79
  go_wp2_with fail
  refine H.out.mono ?_
  rintro e w' ⟨⟨j, rfl, hj⟩, rfl⟩
  cases p
  all_goals
    go_wp2_with fail
    go_ret
    exact ⟨rfl, rfl⟩

set_option maxRecDepth 100000 in
set_option maxHeartbeats 4000000 in
theorem clockOffsets (n : Int) (ls : List Int) (A : Option Addr) (m c : Nat) (w : World) (hc : m ≤ c) (hm : m ≤ 1048576) (h1 : RdZ 3 w w.heap.size A m ls) :
    Calls Try.prog 31 #[.int .i64 n, .slice A m c] w fun e w' => ∃ v, e = .returned (.tuple #[v, .bool (coB ls n m)]) ∧ w'.ownsRow w.heap.size 3 1 v (coV ls n m).length (cellsI (coV ls n m)) ∧ Below w.heap.size w w' := by
  have T := areLinks n ls A m c w (by omega) h1
  cases hq : lkB ls n m
  · rw [hq] at T
    have HE := Lib.hid (show coB ls n m = false by unfold coB; rw [hq]; rfl)
    have HV := Lib.hid (coV_no HE.out)
    have T := Lib.hid T
    clear h1 hq
    go_enter Try.func31, Try.ntmps31
    go_wp2_with fail
    refine T.out.mono ?_
    rintro e w2 ⟨rfl, hb⟩
    have BX := Lib.hid hb
    clear hb
    go_wp2_with fail
    go_ret2
    exact ⟨_, by rw [HE.out]; rfl, by rw [HV.out]; exact World.ownsRow_nil w2 _ _ _, BX.out⟩
  rw [hq] at T
  have T := Lib.hid T
  obtain ⟨hv, n1, n6, m12⟩ := lkB_yes hq
  obtain ⟨N, rfl⟩ := Int.eq_ofNat_of_zero_le (show 0 ≤ n by omega)
  have HCO := Lib.hid (co_glob hq)
  have DL := fun W (hW : Below w.heap.size w W) => doLinksAgree ls A N m c W (by omega) m12 hc hv (h1.next hW)
  have OF := Lib.hid (fun W (hW : Below w.heap.size w W) => offsetsFrom ls A N m c 0 W (by omega) m12 (by omega) hv (h1.next hW))
  have HCN := Lib.hid (fun (h : coB ls (N : Int) m = false) => coV_no h)
  have HCL := Lib.hid (fun (h : coB ls (N : Int) m = true) => co_len h)
  have HCY := Lib.hid (fun (h : coB ls (N : Int) m = true) => coV_yes h)
  have N6 := Lib.hid (show N ≤ 1000 by omega)
  clear h1 hq hv m12
  cases hg : glB ls m
  · have HE := Lib.hid (show coB ls (N : Int) m = false by rw [HCO.out, hg]; rfl)
    have HV := Lib.hid (HCN.out HE.out)
    rw [hg] at DL
    have DL := Lib.hid DL
    clear hg HCO HCN HCL HCY OF
    go_enter Try.func31, Try.ntmps31
    go_wp2_with fail
    refine T.out.mono ?_
    rintro e w2 ⟨rfl, hb⟩
    have BX := Lib.hid hb
    clear hb
    go_wp2_with fail
    refine (DL.out w2 BX.out).mono ?_
    rintro e w3 ⟨rfl, hb⟩
    have BY := Lib.hid (BX.out.trans (hb.mono BX.out.size))
    clear hb
    go_wp2_with fail
    go_ret2
    exact ⟨_, by rw [HE.out]; rfl, by rw [HV.out]; exact World.ownsRow_nil w3 _ _ _, BY.out⟩
  rw [hg] at DL
  have DL := Lib.hid DL
  have HAG := Lib.hid (gl_ag hg 0)
  have HCO := Lib.hid (show coB ls (N : Int) m = allT (rcB ls m 0) N by rw [HCO.out, hg]; rfl)
  clear hg
  go_enter Try.func31, Try.ntmps31
  go_wp2_with fail
  refine T.out.mono ?_
  rintro e w2 ⟨rfl, hb⟩
  have BX := Lib.hid hb
  clear hb
  go_wp2_with fail
  refine (DL.out w2 BX.out).mono ?_
  rintro e w3 ⟨rfl, hb⟩
  have BY := Lib.hid (BX.out.trans (hb.mono BX.out.size))
  clear hb T DL
  go_wp2_with fail
  refine (OF.out w3 BY.out).mono ?_
  rintro e w4 ⟨g1, g2, sn, of, rfl, hsr, hcl, ho1, ho2, hb⟩
  have HSR := Lib.hid hsr
  have HAL := Lib.hid (show allT sn N = coB ls (N : Int) m by rw [HCO.out]; exact allT_ext (fun c => hsr.whole hcl c))
  have CB := containsB sn w3.heap.size g1 N w4 N6.out ho1
  have O2 := Lib.hid ho2
  have BZ := Lib.hid (BY.out.trans (hb.mono BY.out.size))
  have BS := Lib.hid BY.out.size
  clear hsr hcl ho1 ho2 hb OF HCO
  rw [HAL.out] at CB
  cases hx : coB ls (N : Int) m
  · rw [hx] at CB
    have CB := Lib.hid CB
    have HE := Lib.hid hx
    have HV := Lib.hid (HCN.out hx)
    clear hx
    go_wp2_with fail
    refine CB.out.mono ?_
    rintro e w' ⟨rfl, rfl⟩
    go_wp2_with fail
    go_ret2
    exact ⟨_, by rw [HE.out]; rfl, by rw [HV.out]; exact World.ownsRow_nil _ _ _ _, BZ.out⟩
  · rw [hx] at CB
    have CB := Lib.hid CB
    have HE := Lib.hid hx
    have HIT := Lib.hid (show its of N = cellsI (coV ls (N : Int) m) from its_cells (HCL.out hx) (fun c hc => by
      rw [HCY.out hx, Int.toNat_natCast]
      simp [hc]
      exact (shw_is HSR.out HAG.out (allT_at (HAL.out.trans hx) hc)).symm))
    have HLN := Lib.hid (HCL.out hx)
    have OX := Lib.hid (own_.own_base O2.out BS.out)
    clear hx
    go_wp2_with fail
    refine CB.out.mono ?_
    rintro e w' ⟨rfl, rfl⟩
    go_wp2_with fail
    go_ret2
    exact ⟨_, by rw [HE.out]; rfl, by rw [HLN.out, ← HIT.out]; exact OX.out, BZ.out⟩
end Go.Proofs.Ytndogafihaooiaa.lnki
