/- The laws' markPlotS on a slice of plots. -/
import Derived.Test.YtcfkkmlmjekhiaaPltD
namespace Go.Proofs.Ytcfkkmlmjekhiaa.pltf
open Go.RowKit Go.Proofs.Ytcfkkmlmjekhiaa.ints Go.Proofs.Ytcfkkmlmjekhiaa.lst Go.Proofs.Ytcfkkmlmjekhiaa.plt Go.Proofs.Ytcfkkmlmjekhiaa.pltm Go.Proofs.Ytcfkkmlmjekhiaa.pltn0 Go.Proofs.Ytcfkkmlmjekhiaa.rws Go.Proofs.Ytcfkkmlmjekhiaa.pltd

/-- How many sites plot i has; the count before it; what it holds when it is marked; the plots when j of them are marked. -/
def ln (ps : List Pl) (i : Nat) : Nat := (ps.getD i (0, 0, 0, 0, [])).2.2.2.2.length
def kk (k : Nat) (ps : List Pl) : Nat → Nat
  | 0 => k
  | j + 1 => kk k ps j + 4 + ln ps j
def mp (k : Nat) (ps : List Pl) (i : Nat) : Pl := (((kk k ps i : Nat) : Int), ((kk k ps i : Nat) : Int) + 1, ((kk k ps i : Nat) : Int) + 1 + 1, ((kk k ps i : Nat) : Int) + 1 + 1 + 1, marksI (kk k ps i + 4) (ln ps i))
def st (k : Nat) (ps : List Pl) : Nat → List Pl
  | 0 => ps
  | j + 1 => (st k ps j).set j (mp k ps j)
theorem st_length (k : Nat) (ps : List Pl) : ∀ j, (st k ps j).length = ps.length
  | 0 => rfl
  | j + 1 => by rw [st, List.length_set, st_length k ps j]
theorem st_ge (k : Nat) (ps : List Pl) : ∀ j i, j ≤ i → (st k ps j)[i]? = ps[i]?
  | 0, _, _ => rfl
  | j + 1, i, h => by rw [st, List.getElem?_set_ne (by omega), st_ge k ps j i (by omega)]
theorem st_lt (k : Nat) (ps : List Pl) : ∀ j i, i < j → i < ps.length → (st k ps j)[i]? = some (mp k ps i)
  | 0, _, h, _ => by omega
  | j + 1, i, h, hl => by
    rw [st]
    by_cases e : i = j
    · subst e
      rw [List.getElem?_set_self (by rw [st_length]; exact hl)]
    · rw [List.getElem?_set_ne (by omega), st_lt k ps j i (by omega) hl]
theorem kk_le (k : Nat) (ps : List Pl) {i j : Nat} (h : i ≤ j) : kk k ps i ≤ kk k ps j := by
  induction h with
  | refl => exact Nat.le_refl _
  | step _ ih => rw [kk]; omega

set_option maxRecDepth 100000 in
set_option maxHeartbeats 2000000 in
theorem markPlotS (B : Nat) (A : Option Addr) (k n c : Nat) (ps : List Pl) (w : World) (hn : ps.length = n) (hn2 : n ≤ 1048577) (hk : kk k ps n ≤ 2097152) (h : GQ B w (.slice A n c) ps) :
    Calls Try.prog 33 #[.slice A n c, .int .i64 (k : Int)] w fun e w' => e = .returned (.int .i64 ((kk k ps n : Nat) : Int)) ∧ Below B w w' ∧ GQ B w' (.slice A n c) (st k ps n) := by
  have HN := Lib.hid hn
  have HQ := Lib.hid h
  have HK := Lib.hid hk
  clear hn h hk
  go_enter Try.func33, Try.ntmps33
  go_wp2_with fail
  go_loopw [1, 5] (fun q i wr => ∃ j : Nat, j ≤ n ∧ i = .int .i64 j ∧ q = .int .i64 ((kk k ps j : Nat) : Int) ∧ Below B w wr ∧ GQ B wr (.slice A n c) (st k ps j)) (fun _ i _ => n - (intOf i).toNat)
  case atStart => exact ⟨0, Nat.zero_le _, rfl, rfl, Below.refl _ _, HQ.out⟩
  case round =>
    obtain ⟨j, hj, rfl, rfl, hb, hq⟩ := hrel
    by_cases hlt : j < n
    · obtain ⟨p, hp⟩ : ∃ p, ps[j]? = some p := ⟨_, List.getElem?_eq_getElem (by rw [HN.out]; exact hlt)⟩
      obtain ⟨ob, oc, A1, c1, e1, -, hB, fz, p0, p1, p2, p3, p4, ho, hap, hset⟩ := hq.read ((st_ge k ps j j (Nat.le_refl _)).trans hp)
      obtain rfl : A = some ⟨ob, 0, none⟩ := by injection e1
      have hln : ln ps j = p.2.2.2.2.length := by unfold ln; rw [List.getD_eq_getElem?_getD, hp]; rfl
      have hkk : kk k ps (j + 1) = kk k ps j + 4 + p.2.2.2.2.length := by rw [kk, hln]
      have hkb := Nat.le_trans (kk_le k ps (show j + 1 ≤ n from hlt)) HK.out
      have HST := Lib.hid (show st k ps (j + 1) = (st k ps j).set j (((kk k ps j : Nat) : Int), ((kk k ps j : Nat) : Int) + 1, ((kk k ps j : Nat) : Int) + 1 + 1, ((kk k ps j : Nat) : Int) + 1 + 1 + 1, marksI (kk k ps j + 4) p.2.2.2.2.length) by rw [st]; unfold mp; rw [hln])
      have hg4 := grown_set (grown_set (grown_set (grown_set (grown_refl wr (some ob)) (j * 5) (.int .i64 ((kk k ps j : Nat) : Int))) (j * 5 + 1) (.int .i64 (((kk k ps j : Nat) : Int) + 1))) (j * 5 + 2) (.int .i64 (((kk k ps j : Nat) : Int) + 1 + 1))) (j * 5 + 3) (.int .i64 (((kk k ps j : Nat) : Int) + 1 + 1 + 1))
      have MI := Lib.hid (intc.markI B A1 (kk k ps j + 4) p.2.2.2.2.length c1 _ _ (by omega) (own_kept_at ho hg4 (fun g e e2 => hap g e (by injection e2 with e2; exact e2.symm))))
      have BB := Lib.hid ((((hb.setCell (p := ⟨ob, j * 5, none⟩) hB (.int .i64 ((kk k ps j : Nat) : Int))).setCell (p := ⟨ob, j * 5 + 1, none⟩) hB (.int .i64 (((kk k ps j : Nat) : Int) + 1))).setCell (p := ⟨ob, j * 5 + 2, none⟩) hB (.int .i64 (((kk k ps j : Nat) : Int) + 1 + 1))).setCell (p := ⟨ob, j * 5 + 3, none⟩) hB (.int .i64 (((kk k ps j : Nat) : Int) + 1 + 1 + 1)))
      have HSET := Lib.hid (fun ys n W' => hset ((kk k ps j : Nat) : Int) (((kk k ps j : Nat) : Int) + 1) (((kk k ps j : Nat) : Int) + 1 + 1) (((kk k ps j : Nat) : Int) + 1 + 1 + 1) ys n W')
      have f0 := fz (j * 5)
      have f1 := fz (j * 5 + 1)
      have f2 := fz (j * 5 + 2)
      have f3 := fz (j * 5 + 3)
      have hlt2 : (j : Int) < (n : Int) := by omega
      have HKK := Lib.hid (show ((kk k ps (j + 1) : Nat) : Int) = ((kk k ps j + 4 + p.2.2.2.2.length : Nat) : Int) by rw [hkk])
      have b1 : ((kk k ps j : Nat) : Int) ≤ 2097152 := by omega
      have b0 : (0 : Int) ≤ ((kk k ps j : Nat) : Int) := Int.natCast_nonneg _
      have e4 : ((kk k ps j + 4 : Nat) : Int) = ((kk k ps j : Nat) : Int) + 1 + 1 + 1 + 1 := by omega
      rw [e4] at MI
      clear hset hap hg4 hq ho e1 fz hp hb hkk hkb hln e4
      generalize hm : ((kk k ps j : Nat) : Int) = m at *
      go_wp2_with fail
      refine MI.out.mono ?_
      rintro e w2 ⟨rfl, hb2, hg2, ho2⟩
      have Q2 := Lib.hid (HSET.out _ _ _ hg2 ho2)
      have B2 := Lib.hid (BB.out.trans hb2)
      clear hb2 hg2 ho2 MI BB HSET p0 p1 p2 p3 p4 f0 f1 f2 f3
      go_wp2_with fail
      go_roundw
      case rel => exact ⟨j + 1, by omega, by go_num, by rw [HKK.out]; exact congrArg (Value.int .i64) (by omega), B2.out, by rw [HST.out]; exact Q2.out⟩
      case measure => simp [intOf]; omega
    · obtain rfl : j = n := by omega
      have Q := Lib.hid hq
      have HB := Lib.hid hb
      clear hq hb
      go_wp2_with fail
      go_ret
      exact ⟨rfl, HB.out, Q.out⟩

set_option maxRecDepth 100000 in
set_option maxHeartbeats 2000000 in
theorem heldPlotS (B : Nat) (A : Option Addr) (k n c : Nat) (ps : List Pl) (w : World) (hn : ps.length = n) (hn2 : n ≤ 1048577) (hk : kk k ps n ≤ 2097152) (h : GQ B w (.slice A n c) (st k ps n)) :
    Calls Try.prog 34 #[.slice A n c, .int .i64 (k : Int)] w fun e w' => e = .returned (.int .i64 ((kk k ps n : Nat) : Int)) ∧ w = w' := by
  have HN := Lib.hid hn
  have HQ := Lib.hid h
  have HK := Lib.hid hk
  clear hn h hk
  go_enter Try.func34, Try.ntmps34
  go_wp2_with fail
  go_loop [1, 5] (fun q i => ∃ j : Nat, j ≤ n ∧ i = .int .i64 j ∧ q = .int .i64 ((kk k ps j : Nat) : Int)) (fun _ i => n - (intOf i).toNat)
  case atStart => exact ⟨0, Nat.zero_le _, rfl, rfl⟩
  case round =>
    obtain ⟨j, hj, rfl, rfl⟩ := hrel
    by_cases hlt : j < n
    · obtain ⟨ob, oc, A1, c1, e1, -, -, -, p0, p1, p2, p3, p4, ho, -, -⟩ := HQ.out.read (st_lt k ps n j hlt (by rw [HN.out]; exact hlt))
      obtain rfl : A = some ⟨ob, 0, none⟩ := by injection e1
      have hlm : (mp k ps j).2.2.2.2.length = ln ps j := marksI_length _ _
      have hkb := Nat.le_trans (kk_le k ps (show j + 1 ≤ n from hlt)) HK.out
      have hkk : kk k ps (j + 1) = kk k ps j + 4 + ln ps j := rfl
      rw [hlm] at p4 ho
      have HI := Lib.hid (ints.held A1 (kk k ps j + 4) (ln ps j) c1 w (by omega) (RdI.of_own (by rw [marksI_length]; exact ho) (marksI_length _ _).symm))
      have HKK := Lib.hid (show ((kk k ps (j + 1) : Nat) : Int) = ((kk k ps j + 4 + ln ps j : Nat) : Int) by rw [hkk])
      have p0' : w.cell? ⟨ob, j * 5, none⟩ = some (.int .i64 ((kk k ps j : Nat) : Int)) := p0
      have p1' : w.cell? ⟨ob, j * 5 + 1, none⟩ = some (.int .i64 (((kk k ps j : Nat) : Int) + 1)) := p1
      have p2' : w.cell? ⟨ob, j * 5 + 2, none⟩ = some (.int .i64 (((kk k ps j : Nat) : Int) + 1 + 1)) := p2
      have p3' : w.cell? ⟨ob, j * 5 + 3, none⟩ = some (.int .i64 (((kk k ps j : Nat) : Int) + 1 + 1 + 1)) := p3
      have hlt2 : (j : Int) < (n : Int) := by omega
      have b1 : ((kk k ps j : Nat) : Int) ≤ 2097152 := by omega
      have b0 : (0 : Int) ≤ ((kk k ps j : Nat) : Int) := Int.natCast_nonneg _
      have e4 : ((kk k ps j + 4 : Nat) : Int) = ((kk k ps j : Nat) : Int) + 1 + 1 + 1 + 1 := by omega
      have ng : ¬ ((kk k ps j + 4 + ln ps j : Nat) : Int) < 0 := by omega
      have hb2 : ((kk k ps j + 4 + ln ps j : Nat) : Int) ≤ 2097152 := by omega
      rw [e4] at HI
      have E5 := Lib.hid (show ((kk k ps j + 4 + ln ps j : Nat) : Int) = ((kk k ps j : Nat) : Int) + 4 + (ln ps j : Int) by omega)
      rw [E5.out] at HI HKK ng hb2
      clear e1 ho hkb hkk p0 p1 p2 p3 hlm e4 E5
      generalize ((kk k ps j : Nat) : Int) = m at *
      generalize ln ps j = l at *
      have d0 := int_ne_self m
      have d1 := int_ne_self (m + 1)
      have d2 := int_ne_self (m + 1 + 1)
      have d3 := int_ne_self (m + 1 + 1 + 1)
      have d4 : decide (m + 4 + (l : Int) < 0) = false := decide_eq_false ng
      go_wp2_with fail
      refine HI.out.mono ?_
      rintro e w2 ⟨rfl, rfl⟩
      go_wp2_with fail
      go_round
      case rel => exact ⟨j + 1, by omega, by go_num, by rw [HKK.out]⟩
      case measure => simp [intOf]; omega
    · obtain rfl : j = n := by omega
      go_wp2_with fail
      go_ret
      exact ⟨rfl, rfl⟩
end Go.Proofs.Ytcfkkmlmjekhiaa.pltf
