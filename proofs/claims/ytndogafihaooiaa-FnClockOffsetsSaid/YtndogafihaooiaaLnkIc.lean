/- impl's offsetBetween, doLinksAgree, NeedlessLinks. -/
import Derived.Test.YtndogafihaooiaaLnkIb
namespace Go.Proofs.Ytndogafihaooiaa.lnki
open Go.RowKit Go.Proofs.Ytndogafihaooiaa.ints Go.Proofs.Ytndogafihaooiaa.lst Go.Proofs.Ytndogafihaooiaa.in_ Go.Proofs.Ytndogafihaooiaa.ats Go.Proofs.Ytndogafihaooiaa.lnk Go.Proofs.Ytndogafihaooiaa.lnks Go.Proofs.Ytndogafihaooiaa.lnkw Go.Proofs.Ytndogafihaooiaa.lnkx Go.Proofs.Ytndogafihaooiaa.lnkp

theorem tells_take {ls : List Int} {k s : Nat} {p : Nat → Int} (h : Tells ls k s p) : Tells (ls.take (k * 3)) k s p := fun i hi hr => by
  have e := lF_take (ls := ls) hi
  rw [e.1, e.2.1, e.2.2]
  rw [e.1] at hr
  exact h i hi (rch_take.1 hr)
theorem srch_take {ls : List Int} {n k s : Nat} {sn : Nat → Bool} {of : Nat → Int} (h : Srch (ls.take (k * 3)) n k s sn of) : Srch ls n k s sn of :=
  ⟨h.start, fun c hc => ⟨(h.conn c hc).1, rch_take.1 (h.conn c hc).2⟩, fun p hp => h.tells p (tells_take hp), h.small⟩
set_option maxRecDepth 100000 in
set_option maxHeartbeats 4000000 in
theorem between (ls : List Int) (A : Option Addr) (n m k c a b : Nat) (w : World) (hn6 : n ≤ 6) (hm : m ≤ 12) (hk : k ≤ m) (ha : a < n) (hb : b < n) (hv : lkT ls (n : Int) m = true) (h1 : RdZ 3 w w.heap.size A m ls) :
    Calls Try.prog 82 #[.int .i64 (a : Int), .int .i64 (b : Int), .int .i64 (n : Int), .slice A k c] w fun e w' => ∃ (sn : Nat → Bool) (of : Nat → Int) (ov : Int) (r : Bool), e = .returned (.tuple #[.int .i64 ov, .bool r]) ∧ Srch ls n k a sn of ∧ (ov = of b ∧ r = sn b ∧ r = rcB ls k a b) ∧ Below w.heap.size w w' := by
  have CF := Lib.hid (offsetsFrom (ls.take (k * 3)) A n k c a w hn6 (by omega) ha (by rw [lkT_take k (Nat.le_refl k)]; exact lkT_le hv hk) (rd_take h1 hk))
  clear hv h1
  have b0 : (0 : Int) ≤ (b : Int) := Int.natCast_nonneg _
  have bn : (b : Int) < (n : Int) := by omega
  go_enter Try.func82, Try.ntmps82
  go_wp2_with fail
  refine CF.out.mono ?_
  rintro e w2 ⟨g1, g2, sn, of, rfl, hsr, hcl, ho1, ho2, hb2⟩
  have q0 := (ho1.cellAt b (by omega)).trans (bls_at hb)
  have q1 := (ho2.cellAt b (by omega)).trans (its_at hb)
  have HS := Lib.hid (srch_take hsr)
  have HW := Lib.hid (show sn b = rcB ls k a b by rw [hsr.whole hcl, rcB_take])
  have BX := Lib.hid hb2
  clear CF hsr hcl ho1 ho2 hb2
  go_wp2_with fail
  go_quiet (fail)
  go_wp2_with fail
  go_ret2
  exact ⟨sn, of, _, _, rfl, HS.out, ⟨rfl, rfl, HW.out⟩, aid.below_drewN BX.out _⟩

set_option maxRecDepth 100000 in
set_option maxHeartbeats 4000000 in
theorem doLinksAgree (ls : List Int) (A : Option Addr) (n m c : Nat) (w : World) (hn6 : n ≤ 6) (hm : m ≤ 12) (hc : m ≤ c) (hv : lkT ls (n : Int) m = true) (h1 : RdZ 3 w w.heap.size A m ls) :
    Calls Try.prog 77 #[.int .i64 (n : Int), .slice A m c] w fun e w' => e = .returned (.bool (glB ls m)) ∧ Below w.heap.size w w' := by
  have HLN := Lib.hid (fun k (hk : k < m) => ln_nat (lkT_at hv hk))
  have SH := Lib.hid (fun k (hk : k < m) W (hW : Below w.heap.size w W) => between ls A n m k c (lF ls k) (lT ls k) W hn6 hm (Nat.le_of_lt hk) (ln_nat (lkT_at hv hk)).2.2.1 (ln_nat (lkT_at hv hk)).2.2.2.1 hv (h1.next hW))
  have HR := Lib.hid h1
  have HNO := Lib.hid (fun k (hk : k < m) (sn : Nat → Bool) (of : Nat → Int) (hs : Srch ls n k (lF ls k) sn of) h2 h3 => gl_bad hk hs h2 h3)
  have HYE := Lib.hid (fun k (sn : Nat → Bool) (of : Nat → Int) (hg : glB ls k = true) (hs : Srch ls n k (lF ls k) sn of) h2 h3 => gl_conn hg hs h2 h3)
  have HAP := Lib.hid (fun k (hg : glB ls k = true) h => gl_apart (k := k) hg h)
  clear h1 hv
  go_enter Try.func77, Try.ntmps77
  go_wp2_with fail
  go_loopw [11] (fun i wr => ∃ k : Nat, k ≤ m ∧ i = .int .i64 k ∧ glB ls k = true ∧ Below w.heap.size w wr) (fun i _ => m - (intOf i).toNat)
  case atStart => exact ⟨0, Nat.zero_le _, rfl, gl_zero ls, Below.refl _ _⟩
  case round =>
    obtain ⟨k, hk, rfl, hgl, hb⟩ := hrel
    by_cases hlt : k < m
    · skip
      have hlt2 : (k : Int) < (m : Int) := by omega
      have k0 : (0 : Int) ≤ (k : Int) := Int.natCast_nonneg _
      have k1 : (k : Int) ≤ (c : Int) := by omega
      obtain ⟨b1, o1, rfl, l1, p0, p1, p2⟩ := cells3 (HR.out.below hb (Nat.le_refl _)) hlt
      obtain ⟨e0, e1, f0, f1, f2, f3, f4⟩ := HLN.out k hlt
      rw [e0] at p0
      rw [e1] at p1
      have hlo : fld 3 ls k 2 = lO ls k := rfl
      rw [hlo] at p2
      have HB1 := Lib.hid (hb.alloc hb.size (.cells #[.int .i64 (lF ls k : Int), .int .i64 (lT ls k : Int), .int .i64 (lO ls k)] 50))
      have SHk := Lib.hid (fun W (hW : Below w.heap.size w W) => SH.out k hlt W hW)
      have HNOk := Lib.hid (HNO.out k hlt)
      have HYEk := Lib.hid (fun sn of => HYE.out k sn of hgl)
      have HAPk := Lib.hid (HAP.out k hgl)
      clear hb e0 e1 hlo HNO HYE HAP SH HLN hgl
      generalize lF ls k = a at *
      generalize lT ls k = b at *
      generalize lO ls k = z at *
      have BXX := Lib.hid (newS 50 #[.int .i64 (a : Int), .int .i64 (b : Int), .int .i64 z] wr)
      go_upto_region 4 with fail
      clear p0 p1 p2
      generalize hwr : wr.heap.size = bx at *
      have hbx : bx < (wr.alloc (.cells #[.int .i64 (a : Int), .int .i64 (b : Int), .int .i64 z] 50)).heap.size := by rw [World.size_alloc, hwr]; omega
      clear hwr
      generalize wr.alloc (.cells #[.int .i64 (a : Int), .int .i64 (b : Int), .int .i64 z] 50) = W1 at *
      have CS := Lib.hid (fun (WZ : World) (hz : Below W1.heap.size W1 WZ) => show WZ.cell? ⟨bx, 0, none⟩ = some (.int .i64 (a : Int)) ∧ WZ.cell? ⟨bx, 1, none⟩ = some (.int .i64 (b : Int)) ∧ WZ.cell? ⟨bx, 2, none⟩ = some (.int .i64 z) from
        ⟨(hz.cell (p := ⟨bx, 0, none⟩) hbx).trans (BXX.out.cell 0), (hz.cell (p := ⟨bx, 1, none⟩) hbx).trans (BXX.out.cell 1), (hz.cell (p := ⟨bx, 2, none⟩) hbx).trans (BXX.out.cell 2)⟩)
      have HBd := Lib.hid HB1.out.drew
      go_region_held3 (fun w' => w'.cell? ⟨bx, 0, none⟩ = some (.int .i64 (a : Int)) ∧ w'.cell? ⟨bx, 1, none⟩ = some (.int .i64 (b : Int)) ∧ w'.cell? ⟨bx, 2, none⟩ = some (.int .i64 z)) (first
        | exact CS.out _ (Below.refl W1.heap.size W1).drew
        | exact CS.out _ (by assumption)
        | go_keep) (first
        | (go_at_call 82; (refine (SHk.out _ HBd.out).mono ?_); rintro e wy ⟨sn, of, ov, r, rfl, hsr, hq, hby⟩
           have HQ := Lib.hid hq
           clear hq
           have hbl : Below W1.heap.size W1 wy := (Below.refl W1.heap.size W1).drew.trans (hby.mono (Nat.le_refl _))
           clear hby))
      all_goals (
        have HB2 := Lib.hid (HB1.out.trans (hbl.mono HB1.out.size))
        obtain ⟨x0, x1, x2⟩ := CS.out _ hbl
        clear hbl CS
        cases r
        · have HT := Lib.hid (HAPk.out HQ.out.2.2.symm)
          clear hsr HQ HNOk HYEk HAPk
          go_wp2_with fail
          go_roundw
          case rel => exact ⟨k + 1, by omega, by go_num, HT.out, HB2.out⟩
          case measure => simp [intOf]; omega
        · by_cases hz : ov = z
          · have HT := Lib.hid (HYEk.out sn of hsr HQ.out.2.1.symm (HQ.out.1.symm.trans hz))
            have hz1 : (ov != z) = false := by rw [hz]; simp
            clear hsr HQ HNOk HYEk HAPk hz
            go_wp2_with fail
            go_roundw
            case rel => exact ⟨k + 1, by omega, by go_num, HT.out, HB2.out⟩
            case measure => simp [intOf]; omega
          · have HT := Lib.hid (HNOk.out sn of hsr HQ.out.2.1.symm (fun h => hz (HQ.out.1.trans h)))
            have hz1 : (ov != z) = true := bne_iff_ne.mpr hz
            clear hsr HQ HNOk HYEk HAPk hz
            go_wp2_with fail
            go_ret
            exact ⟨by rw [HT.out]; rfl, HB2.out⟩)
    · obtain rfl : k = m := by omega
      have HT := Lib.hid hgl
      have HB := Lib.hid hb
      clear hgl hb
      go_wp2_with fail
      go_ret
      exact ⟨by rw [HT.out]; rfl, HB.out⟩

set_option maxRecDepth 100000 in
set_option maxHeartbeats 4000000 in
theorem needlessLinks (n : Int) (ls : List Int) (A : Option Addr) (m c : Nat) (w : World) (hc : m ≤ c) (hm : m ≤ 1048576) (h1 : RdZ 3 w w.heap.size A m ls) :
    Calls Try.prog 34 #[.int .i64 n, .slice A m c] w fun e w' => e = .returned (.tuple #[.int .i64 (ndV ls n m), .bool (lkB ls n m)]) ∧ Below w.heap.size w w' := by
  have T := areLinks n ls A m c w (by omega) h1
  cases hq : lkB ls n m
  · rw [hq] at T
    have HV := Lib.hid (nd_no hq)
    have T := Lib.hid T
    clear h1 hq
    go_enter Try.func34, Try.ntmps34
    go_wp2_with fail
    refine T.out.mono ?_
    rintro e w2 ⟨rfl, hb⟩
    have BX := Lib.hid hb
    clear hb
    go_wp2_with fail
    go_ret2
    exact ⟨by rw [HV.out]; rfl, BX.out⟩
  rw [hq] at T
  have HV := Lib.hid (nd_yes hq)
  obtain ⟨hv, n1, n6, m12⟩ := lkB_yes hq
  obtain ⟨N, rfl⟩ := Int.eq_ofNat_of_zero_le (show 0 ≤ n by omega)
  have HLN := Lib.hid (fun k (hk : k < m) => ln_nat (lkT_at hv hk))
  have SH := Lib.hid (fun k (hk : k < m) W (hW : Below w.heap.size w W) => between ls A N m k c (lF ls k) (lT ls k) W (by omega) m12 (Nat.le_of_lt hk) (ln_nat (lkT_at hv hk)).2.2.1 (ln_nat (lkT_at hv hk)).2.2.2.1 hv (h1.next hW))
  have HR := Lib.hid h1
  have HND := Lib.hid (fun k => ndT_le ls k)
  have T := Lib.hid T
  clear h1 hq hv
  go_enter Try.func34, Try.ntmps34
  go_wp2_with fail
  refine T.out.mono ?_
  rintro e w2 ⟨rfl, hb⟩
  have BX := Lib.hid hb
  clear hb T
  go_wp2_with fail
  go_loopw [6, 17] (fun s i wr => ∃ k : Nat, k ≤ m ∧ i = .int .i64 k ∧ s = .int .i64 (ndT ls k : Int) ∧ Below w.heap.size w wr) (fun _ i _ => m - (intOf i).toNat)
  case atStart => exact ⟨0, Nat.zero_le _, rfl, rfl, BX.out⟩
  case round =>
    obtain ⟨k, hk, rfl, rfl, hb⟩ := hrel
    clear BX
    by_cases hlt : k < m
    · skip
      have hlt2 : (k : Int) < (m : Int) := by omega
      have k0 : (0 : Int) ≤ (k : Int) := Int.natCast_nonneg _
      have k1 : (k : Int) ≤ (c : Int) := by omega
      obtain ⟨b1, o1, rfl, l1, p0, p1, p2⟩ := cells3 (HR.out.below hb (Nat.le_refl _)) hlt
      obtain ⟨e0, e1, f0, f1, f2, f3, f4⟩ := HLN.out k hlt
      rw [e0] at p0
      rw [e1] at p1
      have hlo : fld 3 ls k 2 = lO ls k := rfl
      rw [hlo] at p2
      have HB1 := Lib.hid (hb.alloc hb.size (.cells #[.int .i64 (lF ls k : Int), .int .i64 (lT ls k : Int), .int .i64 (lO ls k)] 50))
      have SHk := Lib.hid (fun W (hW : Below w.heap.size w W) => SH.out k hlt W hW)
      have HST := Lib.hid (show ndT ls (k + 1) = if rcB ls k (lF ls k) (lT ls k) then ndT ls k + 1 else ndT ls k from rfl)
      have hnd := HND.out k
      clear hb e0 e1 hlo SH HLN HND
      generalize lF ls k = a at *
      generalize lT ls k = b at *
      generalize lO ls k = z at *
      have BXX := Lib.hid (newS 50 #[.int .i64 (a : Int), .int .i64 (b : Int), .int .i64 z] wr)
      go_upto_region 7 with fail
      clear p0 p1 p2
      generalize hwr : wr.heap.size = bx at *
      have hbx : bx < (wr.alloc (.cells #[.int .i64 (a : Int), .int .i64 (b : Int), .int .i64 z] 50)).heap.size := by rw [World.size_alloc, hwr]; omega
      clear hwr
      generalize wr.alloc (.cells #[.int .i64 (a : Int), .int .i64 (b : Int), .int .i64 z] 50) = W1 at *
      have CS := Lib.hid (fun (WZ : World) (hz : Below W1.heap.size W1 WZ) => show WZ.cell? ⟨bx, 0, none⟩ = some (.int .i64 (a : Int)) ∧ WZ.cell? ⟨bx, 1, none⟩ = some (.int .i64 (b : Int)) ∧ WZ.cell? ⟨bx, 2, none⟩ = some (.int .i64 z) from
        ⟨(hz.cell (p := ⟨bx, 0, none⟩) hbx).trans (BXX.out.cell 0), (hz.cell (p := ⟨bx, 1, none⟩) hbx).trans (BXX.out.cell 1), (hz.cell (p := ⟨bx, 2, none⟩) hbx).trans (BXX.out.cell 2)⟩)
      have HBd := Lib.hid HB1.out.drew
      go_region_held3 (fun w' => w'.cell? ⟨bx, 0, none⟩ = some (.int .i64 (a : Int)) ∧ w'.cell? ⟨bx, 1, none⟩ = some (.int .i64 (b : Int)) ∧ w'.cell? ⟨bx, 2, none⟩ = some (.int .i64 z)) (first
        | exact CS.out _ (Below.refl W1.heap.size W1).drew
        | exact CS.out _ (by assumption)
        | go_keep) (first
        | (go_at_call 82; (refine (SHk.out _ HBd.out).mono ?_); rintro e wy ⟨sn, of, ov, r, rfl, hsr, hq, hby⟩
           have HQ := Lib.hid hq
           clear hq
           have hbl : Below W1.heap.size W1 wy := (Below.refl W1.heap.size W1).drew.trans (hby.mono (Nat.le_refl _))
           clear hby))
      all_goals (
        have HB2 := Lib.hid (HB1.out.trans (hbl.mono HB1.out.size))
        obtain ⟨x0, x1, x2⟩ := CS.out _ hbl
        clear hbl CS hsr
        cases r
        · have HT := Lib.hid (show ndT ls (k + 1) = ndT ls k by rw [HST.out, ← HQ.out.2.2]; rfl)
          clear HQ HST
          generalize ndT ls k = d at *
          go_wp2_with fail
          go_roundw
          case rel => exact ⟨k + 1, by omega, by go_num, by rw [HT.out], HB2.out⟩
          case measure => simp [intOf]; omega
        · have HT := Lib.hid (show ndT ls (k + 1) = ndT ls k + 1 by rw [HST.out, ← HQ.out.2.2]; rfl)
          clear HQ HST
          generalize ndT ls k = d at *
          go_wp2_with fail
          go_roundw
          case rel => exact ⟨k + 1, by omega, by go_num, by rw [HT.out]; go_num, HB2.out⟩
          case measure => simp [intOf]; omega)
    · obtain rfl : k = m := by omega
      have BY := Lib.hid hb
      clear hb
      generalize ndT ls k = d at *
      go_wp2_with fail
      go_ret2
      exact ⟨by rw [HV.out]; rfl, BY.out⟩
end Go.Proofs.Ytndogafihaooiaa.lnki
