/- spec's ClockOffsets, NeedlessLinks. -/
import Derived.Test.YtndogafihaooiaaLnkW
namespace Go.Proofs.Ytndogafihaooiaa.lnkx
open Go.RowKit Go.Proofs.Ytndogafihaooiaa.ints Go.Proofs.Ytndogafihaooiaa.lst Go.Proofs.Ytndogafihaooiaa.in_ Go.Proofs.Ytndogafihaooiaa.ats Go.Proofs.Ytndogafihaooiaa.lnk Go.Proofs.Ytndogafihaooiaa.lnks Go.Proofs.Ytndogafihaooiaa.lnkw

theorem its_cells {of : Nat → Int} {n : Nat} {xs : List Int} (hl : xs.length = n) (h : ∀ c, c < n → xs[c]? = some (of c)) : its of n = cellsI xs := by
  refine List.ext_getElem? fun i => ?_
  by_cases hi : i < n
  · rw [its_at hi]
    unfold cellsI
    rw [List.getElem?_map, h i hi]; rfl
  · rw [List.getElem?_eq_none (by simp [its]; omega), List.getElem?_eq_none (by unfold cellsI; rw [List.length_map]; omega)]
theorem allT_ext {f g : Nat → Bool} {n : Nat} (h : ∀ c, f c = g c) : allT f n = allT g n := by
  induction n with
  | zero => rfl
  | succ n ih => rw [allT, allT, ih, h]
theorem co_len {ls : List Int} {n : Nat} {m : Nat} (h : coB ls (n : Int) m = true) : (coV ls (n : Int) m).length = n := by rw [coV_yes h, Int.toNat_natCast]; simp
theorem ad_len (ls : List Int) (n : Int) (m : Nat) (a b o : Int) (hl : ls.length = m * 3) : (adV ls n m a b o).length = adN ls n m a b o * 3 := by
  unfold adV adN
  cases adB ls n m a b o
  · rfl
  · simp [hl]; omega
theorem adN_le (ls : List Int) (n : Int) (m : Nat) (a b o : Int) : adN ls n m a b o ≤ 12 := by
  unfold adN
  cases h : adB ls n m a b o
  · exact Nat.zero_le _
  · unfold adB at h
    rw [Bool.and_eq_true] at h
    have := (lkB_yes h.1).2.2.2
    simpa using this
theorem coV_le (ls : List Int) (n : Int) (m : Nat) : (coV ls n m).length ≤ 6 := by
  cases h : coB ls n m
  · rw [coV_no h]; exact Nat.zero_le _
  · rw [coV_yes h]
    unfold coB at h
    rw [Bool.and_eq_true] at h
    have := lkB_yes h.1
    simp; omega

set_option maxRecDepth 100000 in
set_option maxHeartbeats 4000000 in
theorem clockOffsets (n : Int) (ls : List Int) (A : Option Addr) (m c : Nat) (w : World) (hm : m ≤ 1048576) (h1 : RdZ 3 w w.heap.size A m ls) :
    Calls Try.prog 32 #[.int .i64 n, .slice A m c] w fun e w' => ∃ v, e = .returned (.tuple #[v, .bool (coB ls n m)]) ∧ w'.ownsRow w.heap.size 3 1 v (coV ls n m).length (cellsI (coV ls n m)) ∧ Below w.heap.size w w' := by
  have T := links12 n ls A m c w (by omega) h1
  cases hq : lkB ls n m
  · rw [hq] at T
    have HE := Lib.hid (show coB ls n m = false by unfold coB; rw [hq]; rfl)
    have HV := Lib.hid (coV_no HE.out)
    have T := Lib.hid T
    clear h1 hq
    go_enter Try.func32, Try.ntmps32
    go_wp2_with fail
    refine T.out.mono ?_
    rintro e w2 ⟨rfl, hb⟩
    have OX := Lib.hid (own_.own_base (own_emptyZ w2 3 1) hb.size)
    have BX := Lib.hid (hb.alloc hb.size (.cells #[] 3))
    clear hb
    go_wp2_with fail
    go_ret2
    exact ⟨_, by rw [HE.out]; rfl, by rw [HV.out]; exact OX.out, BX.out⟩
  rw [hq] at T
  obtain ⟨ht, n1, n6, m12⟩ := lkB_yes hq
  obtain ⟨N, rfl⟩ := Int.eq_ofNat_of_zero_le (show 0 ≤ n by omega)
  have SH := Lib.hid (fun W (hb : Below w.heap.size w W) => show12 ls A N m c 0 W (by omega) hm (by omega) ht (h1.next hb))
  have HCO := Lib.hid (show coB ls (N : Int) m = (agB ls m 0 && allT (rcB ls m 0) N) by unfold coB; rw [hq, Int.toNat_natCast]; rfl)
  have HCN := Lib.hid (fun (h : coB ls (N : Int) m = false) => coV_no h)
  have HCL := Lib.hid (fun (h : coB ls (N : Int) m = true) => co_len h)
  have HCY := Lib.hid (fun (h : coB ls (N : Int) m = true) => coV_yes h)
  have T := Lib.hid T
  clear h1 hq ht m12
  go_enter Try.func32, Try.ntmps32
  go_wp2_with fail
  refine T.out.mono ?_
  rintro e w2 ⟨rfl, hb⟩
  have BX := Lib.hid hb
  clear hb T
  go_wp2_with fail
  refine (SH.out w2 BX.out).mono ?_
  rintro e w3 ⟨g1, g2, sn, of, rfl, hsr, hcl, ho1, ho2, hb⟩
  have HSR := Lib.hid hsr
  have HAL := Lib.hid (fun k => allT_ext (n := k) (fun c => hsr.whole hcl c))
  have HSN := Lib.hid (fun c => hsr.whole hcl c)
  have O1 := Lib.hid ho1
  have O2 := Lib.hid ho2
  have BY := Lib.hid (BX.out.trans (hb.mono BX.out.size))
  clear hsr hcl ho1 ho2 hb SH
  go_wp2_with fail
  go_loopw [8, 9] (fun b i wr => ∃ k : Nat, k ≤ N ∧ i = .int .i64 k ∧ b = .bool (agB ls m 0 && allT sn k) ∧ wr.ownsRow w2.heap.size 4 1 (.slice (some ⟨g1, 0, none⟩) N N) N (bls sn N) ∧ wr.ownsRow w2.heap.size 3 1 (.slice (some ⟨g2, 0, none⟩) N N) N (its of N) ∧ Below w.heap.size w wr) (fun _ i _ => N - (intOf i).toNat)
  case atStart => exact ⟨0, Nat.zero_le _, rfl, by simp [allT], O1.out, O2.out, BY.out⟩
  case round =>
    obtain ⟨k, hk, rfl, rfl, hq1, hq2, hq3⟩ := hrel
    clear O1 O2 BY
    have O1 := Lib.hid hq1
    have O2 := Lib.hid hq2
    have BY := Lib.hid hq3
    clear hq1 hq2 hq3
    by_cases hlt : k < N
    · have hlt2 : (k : Int) < (N : Int) := by omega
      have q0 := (O1.out.cellAt k (by omega)).trans (bls_at hlt)
      have HS := Lib.hid (show (agB ls m 0 && allT sn (k + 1)) = ((agB ls m 0 && allT sn k) && sn k) by rw [allT, Bool.and_assoc])
      generalize hx : (agB ls m 0 && allT sn k) = x at *
      have HX := Lib.hid hx
      clear hx
      cases x
      · have HT := Lib.hid (show (agB ls m 0 && allT sn (k + 1)) = false by rw [HS.out]; rfl)
        clear q0
        go_wp2_with fail
        go_roundw
        case rel => exact ⟨k + 1, by omega, by go_num, by rw [HT.out], O1.out, O2.out, BY.out⟩
        case measure => simp [intOf]; omega
      · have HT := Lib.hid (show (agB ls m 0 && allT sn (k + 1)) = sn k by rw [HS.out]; rfl)
        generalize sn k = y at *
        go_wp2_with fail
        go_roundw
        case rel => exact ⟨k + 1, by omega, by go_num, by rw [HT.out], O1.out, O2.out, BY.out⟩
        case measure => simp [intOf]; omega
    · obtain rfl : k = N := by omega
      have HE := Lib.hid (show coB ls (k : Int) m = (agB ls m 0 && allT sn k) by rw [HCO.out, HAL.out])
      generalize hx : (agB ls m 0 && allT sn k) = x at *
      cases x
      · have HV := Lib.hid (HCN.out HE.out)
        have OX := Lib.hid (own_.own_base (own_emptyZ wr 3 1) BY.out.size)
        have BZ := Lib.hid (BY.out.alloc BY.out.size (.cells #[] 3))
        clear hx
        go_wp2_with fail
        go_ret2
        exact ⟨_, by rw [HE.out]; rfl, by rw [HV.out]; exact OX.out, BZ.out⟩
      · rw [Bool.and_eq_true] at hx
        have HIT := Lib.hid (show its of k = cellsI (coV ls (k : Int) m) from its_cells (HCL.out HE.out) (fun c hc => by
          rw [HCY.out HE.out, Int.toNat_natCast]
          simp [hc]
          exact (shw_is HSR.out hx.1 (allT_at hx.2 hc)).symm))
        have HLN := Lib.hid (HCL.out HE.out)
        have OX := Lib.hid (own_.own_base O2.out BX.out.size)
        clear hx
        go_wp2_with fail
        go_ret2
        exact ⟨_, by rw [HE.out]; rfl, by rw [HLN.out, ← HIT.out]; exact OX.out, BY.out⟩

/- The first links of a list. -/
theorem fld_take {ls : List Int} {k i j : Nat} (hi : i < k) (hj : j < 3) : fld 3 (ls.take (k * 3)) i j = fld 3 ls i j := by
  unfold fld
  rw [List.getD_eq_getElem?_getD, List.getD_eq_getElem?_getD, List.getElem?_take, if_pos (by omega)]
theorem lF_take {ls : List Int} {k i : Nat} (hi : i < k) : lF (ls.take (k * 3)) i = lF ls i ∧ lT (ls.take (k * 3)) i = lT ls i ∧ lO (ls.take (k * 3)) i = lO ls i := by
  unfold lF lT lO
  rw [fld_take hi (by omega), fld_take hi (by omega), fld_take hi (by omega)]
  exact ⟨rfl, rfl, rfl⟩
theorem lkT_take {ls : List Int} {n : Int} {k : Nat} : ∀ j, j ≤ k → lkT (ls.take (k * 3)) n j = lkT ls n j := by
  intro j
  induction j with
  | zero => intro _; rfl
  | succ j ih =>
    intro hj
    rw [lkT, lkT, ih (by omega)]
    unfold lnB
    rw [fld_take (by omega) (by omega), fld_take (by omega) (by omega), fld_take (by omega) (by omega)]
theorem rch_take {ls : List Int} {k s c : Nat} : Rch (ls.take (k * 3)) k s c ↔ Rch ls k s c := by
  constructor
  · intro h Q a b d
    exact h Q a (fun i hi => by rw [(lF_take hi).1, (lF_take hi).2.1]; exact b i hi) (fun i hi => by rw [(lF_take hi).1, (lF_take hi).2.1]; exact d i hi)
  · intro h Q a b d
    exact h Q a (fun i hi => by have := b i hi; rw [(lF_take hi).1, (lF_take hi).2.1] at this; exact this) (fun i hi => by have := d i hi; rw [(lF_take hi).1, (lF_take hi).2.1] at this; exact this)
theorem rcB_take {ls : List Int} {k s c : Nat} : rcB (ls.take (k * 3)) k s c = rcB ls k s c := by
  cases h : rcB ls k s c with
  | true => exact rcB_of (rch_take.2 (rcB_yes h))
  | false =>
    cases h2 : rcB (ls.take (k * 3)) k s c with
    | false => rfl
    | true => rw [rcB_of (rch_take.1 (rcB_yes h2))] at h; cases h
theorem rd_take {w : World} {Bb m k : Nat} {A : Option Addr} {ls : List Int} (h : RdZ 3 w Bb A m ls) (hk : k ≤ m) : RdZ 3 w Bb A k (ls.take (k * 3)) :=
  ⟨by rw [List.length_take, h.1]; omega, fun h0 => by
    obtain ⟨b, o, e, hb, hc⟩ := h.2 (by omega)
    refine ⟨b, o, e, hb, fun j x hx => hc j x ?_⟩
    rw [List.getElem?_take] at hx
    split at hx
    · exact hx
    · cases hx⟩

set_option maxRecDepth 100000 in
set_option maxHeartbeats 4000000 in
theorem needlessLinks (n : Int) (ls : List Int) (A : Option Addr) (m c : Nat) (w : World) (hc : m ≤ c) (hm : m ≤ 1048576) (h1 : RdZ 3 w w.heap.size A m ls) :
    Calls Try.prog 35 #[.int .i64 n, .slice A m c] w fun e w' => e = .returned (.tuple #[.int .i64 (ndV ls n m), .bool (lkB ls n m)]) ∧ Below w.heap.size w w' := by
  have T := links12 n ls A m c w (by omega) h1
  cases hq : lkB ls n m
  · rw [hq] at T
    have HV := Lib.hid (nd_no hq)
    have T := Lib.hid T
    clear h1 hq
    go_enter Try.func35, Try.ntmps35
    go_wp2_with fail
    refine T.out.mono ?_
    rintro e w2 ⟨rfl, hb⟩
    have BX := Lib.hid hb
    clear hb
    go_wp2_with fail
    go_ret2
    exact ⟨by rw [HV.out]; rfl, BX.out⟩
  rw [hq] at T
  have HV := Lib.hid (nd_yes hq)
  obtain ⟨ht, n1, n6, m12⟩ := lkB_yes hq
  obtain ⟨N, rfl⟩ := Int.eq_ofNat_of_zero_le (show 0 ≤ n by omega)
  have HLN := Lib.hid (fun k (hk : k < m) => ln_nat (lkT_at ht hk))
  have SH := Lib.hid (fun k (hk : k < m) W (hb : Below w.heap.size w W) => show12 (ls.take (k * 3)) A N k c (lF ls k) W (by omega) (by omega) (ln_nat (lkT_at ht hk)).2.2.1 (by rw [lkT_take k (Nat.le_refl k)]; exact lkT_le ht (by omega)) (rd_take (h1.next hb) (by omega)))
  have HR := Lib.hid h1
  have HND := Lib.hid (fun k => ndT_le ls k)
  have T := Lib.hid T
  clear h1 hq ht
  go_enter Try.func35, Try.ntmps35
  go_wp2_with fail
  refine T.out.mono ?_
  rintro e w2 ⟨rfl, hb⟩
  have BX := Lib.hid hb
  clear hb T
  go_wp2_with fail
  go_loopw [6, 7] (fun s i wr => ∃ k : Nat, k ≤ m ∧ i = .int .i64 k ∧ s = .int .i64 (ndT ls k : Int) ∧ Below w.heap.size w wr) (fun _ i _ => m - (intOf i).toNat)
  case atStart => exact ⟨0, Nat.zero_le _, rfl, rfl, BX.out⟩
  case round =>
    obtain ⟨k, hk, rfl, rfl, hb⟩ := hrel
    clear BX
    by_cases hlt : k < m
    · have hlt2 : (k : Int) < (m : Int) := by omega
      have k0 : (0 : Int) ≤ (k : Int) := Int.natCast_nonneg _
      have k1 : (k : Int) ≤ (c : Int) := by omega
      obtain ⟨b1, o1, rfl, l1, p0, p1, p2⟩ := cells3 (HR.out.below hb (Nat.le_refl _)) hlt
      obtain ⟨e0, e1, f0, f1, f2, f3, f4⟩ := HLN.out k hlt
      rw [e0] at p0
      rw [e1] at p1
      have hwl : b1 < wr.heap.size := Nat.lt_of_lt_of_le l1 hb.size
      have CS := Lib.hid (show ∀ WZ : World, Below wr.heap.size wr WZ → (WZ.cell? ⟨b1, o1 + k * 3, none⟩ = some (.int .i64 (lF ls k : Int)) ∧ WZ.cell? ⟨b1, o1 + k * 3 + 1, none⟩ = some (.int .i64 (lT ls k : Int))) from fun WZ hz =>
        And.intro ((hz.cell (p := ⟨b1, o1 + k * 3, none⟩) hwl).trans p0) ((hz.cell (p := ⟨b1, o1 + k * 3 + 1, none⟩) hwl).trans p1))
      have HB := Lib.hid hb
      have HBd := Lib.hid hb.drew
      have SHk := Lib.hid (SH.out k hlt)
      have HST := Lib.hid (show ndT ls (k + 1) = if rcB ls k (lF ls k) (lT ls k) then ndT ls k + 1 else ndT ls k from rfl)
      have HWH := Lib.hid (fun (sn : Nat → Bool) (of : Nat → Int) (h : Srch (ls.take (k * 3)) N k (lF ls k) sn of) (h2 : Closed (ls.take (k * 3)) k sn) => show sn (lT ls k) = rcB ls k (lF ls k) (lT ls k) from by rw [h.whole h2, rcB_take])
      have hnd := HND.out k
      clear hb p0 p1 p2 e0 e1 SH HLN
      generalize hL : ls.take (k * 3) = L at *
      clear hL
      generalize lF ls k = a at *
      generalize lT ls k = b at *
      have a0i : (0 : Int) ≤ (a : Int) := Int.natCast_nonneg _
      have b0i : (0 : Int) ≤ (b : Int) := Int.natCast_nonneg _
      have f1i : (b : Int) < (N : Int) := by omega
      go_upto_region 7 with fail
      go_region_held3 (fun w' => w'.cell? ⟨b1, o1 + k * 3, none⟩ = some (.int .i64 (a : Int)) ∧ w'.cell? ⟨b1, o1 + k * 3 + 1, none⟩ = some (.int .i64 (b : Int))) (first
        | exact CS.out _ (Below.refl wr.heap.size wr).drew
        | exact CS.out _ (by assumption)
        | go_keep) (first
        | (go_at_call 81; (refine (SHk.out _ HBd.out).mono ?_); rintro e wy ⟨g1, g2, sn, of, rfl, hsr, hcl, ho1, ho2, hb⟩
           have hbl : Below wr.heap.size wr wy := (Below.refl wr.heap.size wr).drew.trans (hb.mono (Nat.le_refl _))
           clear hb))
      all_goals (
        have HB2 := Lib.hid (HB.out.trans (hbl.mono HB.out.size))
        have q0 := (ho1.cellAt b (by omega)).trans (bls_at f1)
        have HW := Lib.hid (HWH.out sn of hsr hcl)
        obtain ⟨p0, p1⟩ := CS.out _ hbl
        clear hbl CS ho1 ho2 hsr hcl HWH
        cases hsb : sn b
        · have HT := Lib.hid (show ndT ls (k + 1) = ndT ls k by rw [HST.out, ← HW.out, hsb]; rfl)
          rw [hsb] at q0
          clear hsb
          generalize ndT ls k = d at *
          go_wp2_with fail
          go_roundw
          case rel => exact ⟨k + 1, by omega, by go_num, by rw [HT.out], HB2.out⟩
          case measure => simp [intOf]; omega
        · have HT := Lib.hid (show ndT ls (k + 1) = ndT ls k + 1 by rw [HST.out, ← HW.out, hsb]; rfl)
          rw [hsb] at q0
          clear hsb
          generalize ndT ls k = d at *
          go_wp2_with fail
          go_roundw
          case rel => exact ⟨k + 1, by omega, by go_num, by rw [HT.out]; go_num, HB2.out⟩
          case measure => simp [intOf]; omega)
    · obtain rfl : k = m := by omega
      have BY := Lib.hid hb
      clear hb
      generalize ndT ls k = d at *
      go_wp2_with fail
      go_ret2
      exact ⟨by rw [HV.out]; rfl, BY.out⟩
end Go.Proofs.Ytndogafihaooiaa.lnkx
