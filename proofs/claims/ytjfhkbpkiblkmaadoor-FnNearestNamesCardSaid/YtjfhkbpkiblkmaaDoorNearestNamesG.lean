/- For every code of at most 65536 bytes (and trivially for a longer one) the law FnNearestNames returns true: what it draws are lists of short names, short strings and numbers in range, whatever the bytes are; a nearest name is one of the list and its own bits differ in nothing; what is divided is put together again. The card ties strconv's tables to the program's text. -/
import Derived.Test.YtjfhkbpkiblkmaaDoorCards
import Derived.Test.YtjfhkbpkiblkmaaDoorTie
import Derived.Test.YtjfhkbpkiblkmaaDoorDrawP
import Derived.Test.YtjfhkbpkiblkmaaDoorNamO
import Derived.Test.YtjfhkbpkiblkmaaDoorCode
import Derived.WalkKit
import Derived.ProofKit
import Derived.OpenShut
import Derived.ShutString
import Derived.ChangeOld
import Derived.Below
import Derived.Stop.LaidErr
import Derived.Deep.DeepHandedRow
import Derived.Lib.LaidTab
namespace Go.Proofs.YtjfhkbpkiblkmaaDoor.fnNearestNames
open Go.ChangeShapes Go.WideShapes Go.ChangeAt Go.RowKit
open Go.ChangeMaps (open_string shut_string)
open Go.Proofs.YtjfhkbpkiblkmaaDoor.code_ Go.Proofs.YtjfhkbpkiblkmaaDoor.cur
set_option linter.unusedVariables false

theorem sfL_size (s : ByteArray) (h : s.size ≤ 100) : (naml.sfL s).size ≤ 100 := by
  unfold naml.sfL
  split
  · rw [ByteArray.size_extract]; omega
  · exact Nat.zero_le _
theorem bool_ne_self (b : Bool) : (b != b) = false := by simp
theorem str_ne_self (x : ByteArray) : (!(x.toList == x.toList)) = false := by simp
theorem int_ne_self (x : Int) : (x != x) = false := by simp
theorem str_eq_no {x y : ByteArray} (h : x ≠ y) : (x.toList == y.toList) = false := by
  rw [beq_eq_false_iff_ne, Lib.toList_data, Lib.toList_data]
  exact fun e => h (aid.str_ext e)
theorem str_eq_yes (x : ByteArray) : (x.toList == x.toList) = true := by simp

set_option maxRecDepth 100000 in
set_option maxHeartbeats 16000000 in
theorem walk (A : Option Addr) (n c : Nat) (z : List Int) (w : World) (w0 : IsRow .u8 w A n c z) (ht : Lib.TabIs Tryd.prog w "internal/strconv.uint64pow10" .u64 Lib.pow10Tab) :
    Calls Tryd.prog 4 #[.slice A n c] w fun e w' => e = .returned (.bool true) ∧ Below w.heap.size w w' := by
  obtain ⟨hby, hnc, -⟩ := bytes_of w0
  clear w0
  have hv := Lib.hid (fun w => rBig A n c w)
  by_cases hbig : (65536 : Int) < (n : Int)
  · clear hby ht
    go_enter Tryd.func4, Tryd.ntmps4
    go_wp2_with fail
    refine (hv.out _).mono ?_
    rintro e w1 ⟨rfl, rfl⟩
    go_wp2_with fail
    go_ret
    exact ⟨rfl, Below.refl _ _⟩
  · have hd : decide ((65536 : Int) < (n : Int)) = false := by simpa using hbig
    have hn : n ≤ 65536 := by omega
    have H := Lib.hid hby
    have HT := Lib.hid (fun w' (hb : Below w.heap.size w w') => fmt.tab_on ht hb)
    clear hby hbig ht
    go_enter Tryd.func4, Tryd.ntmps4
    go_wp2_with fail
    refine (hv.out _).mono ?_
    rintro e w1 ⟨rfl, rfl⟩
    clear hv hd
    go_wp2_with fail
    refine (drawp.nearest A n c _ hn H.out).mono ?_
    rintro e w1 ⟨lv, xs, b, rfl, hown, hwt, hxl, hbs, hb1⟩
    obtain ⟨LA, LC, rfl⟩ := namo.own_slice hown
    have R1 := Lib.hid (strs.Rd.of_own (n := xs.length) hown rfl)
    have I1 := Lib.hid (namn.implNear xs LA xs.length LC b w1 R1.out)
    have S1 := Lib.hid (fun w h => namn.specNear xs LA xs.length LC b w (by omega) (by unfold maxLen; omega) h)
    have I2 := Lib.hid (fun b w h => namn.implNear xs LA xs.length LC b w h)
    have K := Lib.hid (fun h => namo.near_own (xs := xs) (b := b) h)
    have HL := Lib.hid hxl
    have HB1 := Lib.hid hb1
    clear hown hwt hbs hb1
    cases hB : nam.nrB xs b
    · rw [hB] at I1 S1
      clear hB K I2
      generalize nam.nrI xs b = p at *
      generalize nam.nrV xs b = q at *
      have hpp := int_ne_self p
      have hqq := int_ne_self q
      go_wp2_with fail
      refine I1.out.mono ?_
      rintro e w2 ⟨rfl, hb2⟩
      have R2 := Lib.hid ((R1.out.below hb2 (Nat.le_refl _)).more hb2.size)
      have HB2 := Lib.hid (HB1.out.trans (hb2.mono HB1.out.size))
      clear hb2
      go_wp2_with fail
      refine (S1.out _ R2.out).mono ?_
      rintro e w3 ⟨rfl, hb3⟩
      have HB := Lib.hid (HB2.out.trans (hb3.mono HB2.out.size))
      clear hb3 HB1 HB2 R1 R2 I1 S1 HL hpp hqq hxl
      go_wp2_with fail
      refine (drawp.splitName A n c _ hn (Bytes_below H.out HB.out)).mono ?_
      rintro e y1 ⟨s, rfl, hss, hb1⟩
      have HB := Lib.hid (HB.out.trans (hb1.mono HB.out.size))
      have I1 := Lib.hid (fun w ht => naml.impl s w (by omega) ht)
      have S1 := Lib.hid (fun w => naml.spec s w (by unfold maxLen; omega))
      have K := Lib.hid (fun h => namo.split_back (s := s) h)
      have hls : (naml.sfL s).size ≤ 100 := sfL_size s (by omega)
      clear hb1 hss
      cases hB : naml.sfB s
      · rw [hB] at I1 S1
        clear K hB
        generalize naml.sfL s = l at *
        generalize naml.sfN s = m at *
        have hll := str_ne_self l
        have hmm := int_ne_self m
        go_wp2_with fail
        refine (I1.out _ (HT.out _ HB.out)).mono ?_
        rintro e y2 ⟨rfl, hb2⟩
        have HB := Lib.hid (HB.out.trans (hb2.mono HB.out.size))
        clear hb2
        go_wp2_with fail
        refine (S1.out _).mono ?_
        rintro e y3 ⟨rfl, j3, rfl⟩
        have HB := Lib.hid (aid.below_drewN HB.out j3)
        generalize y2.drewN j3 = y3 at *
        clear I1 S1 hll hmm hls
        go_wp2_with fail
        refine (drawp.namePart A n c _ hn (Bytes_below H.out HB.out)).mono ?_
        rintro e y6 ⟨u, p2, rfl, hus, hp0, hp1, hb6⟩
        have HB := Lib.hid (HB.out.trans (hb6.mono HB.out.size))
        have I1 := Lib.hid (fun w => namn.namePart u p2 w)
        have S1 := Lib.hid (fun w => nams.namePart u p2 w (by unfold maxLen; omega))
        generalize nam.npV u p2 = x3 at *
        generalize nam.npB u p2 = x4 at *
        clear hb6 hus hp0 hp1
        go_wp2_with fail
        refine (I1.out _).mono ?_
        rintro e y7 ⟨rfl, hb7⟩
        have HB := Lib.hid (HB.out.trans (hb7.mono HB.out.size))
        clear hb7
        go_wp2_with fail
        refine (S1.out _).mono ?_
        rintro e y8 ⟨rfl, rfl⟩
        go_wp2_with fail
        go_ret
        exact ⟨by simp, HB.out⟩
      · obtain ⟨k1, k2, k3⟩ := K.out hB
        have Q := Lib.hid (fun w ht => fmt.format_yes (naml.sfN s) w (by omega) (by omega) ht)
        have hts := num.txt_size (naml.sfN s) (by omega) (by omega)
        rw [hB] at I1 S1
        clear K hB k2 k3
        generalize num.txt (naml.sfN s) = tx at *
        generalize naml.sfL s = l at *
        generalize naml.sfN s = m at *
        have hll := str_ne_self l
        have hmm := int_ne_self m
        have hself := str_ne_self s
        go_wp2_with fail
        refine (I1.out _ (HT.out _ HB.out)).mono ?_
        rintro e y2 ⟨rfl, hb2⟩
        have HB := Lib.hid (HB.out.trans (hb2.mono HB.out.size))
        clear hb2
        go_wp2_with fail
        refine (S1.out _).mono ?_
        rintro e y3 ⟨rfl, j3, rfl⟩
        have HB := Lib.hid (aid.below_drewN HB.out j3)
        generalize y2.drewN j3 = y3 at *
        clear I1 S1
        go_wp2_with fail
        refine (Q.out _ (HT.out _ HB.out)).mono ?_
        rintro e y4 ⟨rfl, hb4⟩
        have HB := Lib.hid (HB.out.trans (hb4.mono HB.out.size))
        have HK := Lib.hid k1
        clear hb4 Q hll hmm
        go_wp2_with fail
        refine (drawp.namePart A n c _ hn (Bytes_below H.out HB.out)).mono ?_
        rintro e y6 ⟨u, p2, rfl, hus, hp0, hp1, hb6⟩
        have HB := Lib.hid (HB.out.trans (hb6.mono HB.out.size))
        have I1 := Lib.hid (fun w => namn.namePart u p2 w)
        have S1 := Lib.hid (fun w => nams.namePart u p2 w (by unfold maxLen; omega))
        generalize nam.npV u p2 = x3 at *
        generalize nam.npB u p2 = x4 at *
        clear hb6 hus hp0 hp1
        go_wp2_with fail
        refine (I1.out _).mono ?_
        rintro e y7 ⟨rfl, hb7⟩
        have HB := Lib.hid (HB.out.trans (hb7.mono HB.out.size))
        clear hb7
        go_wp2_with fail
        refine (S1.out _).mono ?_
        rintro e y8 ⟨rfl, rfl⟩
        go_wp2_with fail
        go_ret
        exact ⟨by simp, HB.out⟩
    · obtain ⟨x, hlt, hx, hnx, hN, hI, hV, hZ⟩ := K.out hB
      have J := Lib.hid (fun w => nami.nameBits x w)
      have I2 := Lib.hid (fun w h => I2.out (nam.nbA x) w h)
      rw [hN, hI, hV] at I2
      rw [hnx, namn.nbT_yes hnx] at J
      rw [hB] at I1 S1
      have HX := Lib.hid hx
      clear hB K hN hI hV hx hnx
      generalize nam.nrI xs b = p at *
      generalize nam.nrV xs b = q at *
      generalize nam.nbA x = t at *
      have hpp := int_ne_self p
      have hqq := int_ne_self q
      have hp30 : p ≤ 30 := by have := HL.out; omega
      go_wp2_with fail
      refine I1.out.mono ?_
      rintro e w2 ⟨rfl, hb2⟩
      have R2 := Lib.hid ((R1.out.below hb2 (Nat.le_refl _)).more hb2.size)
      have HB2 := Lib.hid (HB1.out.trans (hb2.mono HB1.out.size))
      clear hb2
      go_wp2_with fail
      refine (S1.out _ R2.out).mono ?_
      rintro e w3 ⟨rfl, hb3⟩
      have R3 := Lib.hid ((R2.out.below hb3 (Nat.le_refl _)).more hb3.size)
      have HB3 := Lib.hid (HB2.out.trans (hb3.mono HB2.out.size))
      clear hb3 HB1 HB2 R1 R2 I1 S1 HL hxl
      obtain ⟨b1, o1, x1, rfl, hbl, hx1, hc1⟩ := R3.out.at_ hlt
      obtain rfl : x = x1 := Option.some.inj (HX.out.symm.trans hx1)
      clear hx1
      go_wp2_with fail
      refine (J.out _).mono ?_
      rintro e w4 ⟨rfl, hb4⟩
      have R4 := Lib.hid ((R3.out.below hb4 (Nat.le_refl _)).more hb4.size)
      have HB4 := Lib.hid (HB3.out.trans (hb4.mono HB3.out.size))
      clear hb4 hc1 HB3 R3 J hbl
      by_cases hq : q = 0
      · have htb := hZ.1 hq
        subst hq
        subst htb
        have htt := str_eq_yes t
        clear hZ
        go_wp2_with fail
        refine (I2.out _ R4.out).mono ?_
        rintro e w5 ⟨rfl, hb5⟩
        have HB := Lib.hid (HB4.out.trans (hb5.mono HB4.out.size))
        clear hb5 HB4 R4 I2 HX hpp hqq htt hlt hp30
        go_wp2_with fail
        refine (drawp.splitName A n c _ hn (Bytes_below H.out HB.out)).mono ?_
        rintro e y1 ⟨s, rfl, hss, hb1⟩
        have HB := Lib.hid (HB.out.trans (hb1.mono HB.out.size))
        have I1 := Lib.hid (fun w ht => naml.impl s w (by omega) ht)
        have S1 := Lib.hid (fun w => naml.spec s w (by unfold maxLen; omega))
        have K := Lib.hid (fun h => namo.split_back (s := s) h)
        have hls : (naml.sfL s).size ≤ 100 := sfL_size s (by omega)
        clear hb1 hss
        cases hB : naml.sfB s
        · rw [hB] at I1 S1
          clear K hB
          generalize naml.sfL s = l at *
          generalize naml.sfN s = m at *
          have hll := str_ne_self l
          have hmm := int_ne_self m
          go_wp2_with fail
          refine (I1.out _ (HT.out _ HB.out)).mono ?_
          rintro e y2 ⟨rfl, hb2⟩
          have HB := Lib.hid (HB.out.trans (hb2.mono HB.out.size))
          clear hb2
          go_wp2_with fail
          refine (S1.out _).mono ?_
          rintro e y3 ⟨rfl, j3, rfl⟩
          have HB := Lib.hid (aid.below_drewN HB.out j3)
          generalize y2.drewN j3 = y3 at *
          clear I1 S1 hll hmm hls
          go_wp2_with fail
          refine (drawp.namePart A n c _ hn (Bytes_below H.out HB.out)).mono ?_
          rintro e y6 ⟨u, p2, rfl, hus, hp0, hp1, hb6⟩
          have HB := Lib.hid (HB.out.trans (hb6.mono HB.out.size))
          have I1 := Lib.hid (fun w => namn.namePart u p2 w)
          have S1 := Lib.hid (fun w => nams.namePart u p2 w (by unfold maxLen; omega))
          generalize nam.npV u p2 = x3 at *
          generalize nam.npB u p2 = x4 at *
          clear hb6 hus hp0 hp1
          go_wp2_with fail
          refine (I1.out _).mono ?_
          rintro e y7 ⟨rfl, hb7⟩
          have HB := Lib.hid (HB.out.trans (hb7.mono HB.out.size))
          clear hb7
          go_wp2_with fail
          refine (S1.out _).mono ?_
          rintro e y8 ⟨rfl, rfl⟩
          go_wp2_with fail
          go_ret
          exact ⟨by simp, HB.out⟩
        · obtain ⟨k1, k2, k3⟩ := K.out hB
          have Q := Lib.hid (fun w ht => fmt.format_yes (naml.sfN s) w (by omega) (by omega) ht)
          have hts := num.txt_size (naml.sfN s) (by omega) (by omega)
          rw [hB] at I1 S1
          clear K hB k2 k3
          generalize num.txt (naml.sfN s) = tx at *
          generalize naml.sfL s = l at *
          generalize naml.sfN s = m at *
          have hll := str_ne_self l
          have hmm := int_ne_self m
          have hself := str_ne_self s
          go_wp2_with fail
          refine (I1.out _ (HT.out _ HB.out)).mono ?_
          rintro e y2 ⟨rfl, hb2⟩
          have HB := Lib.hid (HB.out.trans (hb2.mono HB.out.size))
          clear hb2
          go_wp2_with fail
          refine (S1.out _).mono ?_
          rintro e y3 ⟨rfl, j3, rfl⟩
          have HB := Lib.hid (aid.below_drewN HB.out j3)
          generalize y2.drewN j3 = y3 at *
          clear I1 S1
          go_wp2_with fail
          refine (Q.out _ (HT.out _ HB.out)).mono ?_
          rintro e y4 ⟨rfl, hb4⟩
          have HB := Lib.hid (HB.out.trans (hb4.mono HB.out.size))
          have HK := Lib.hid k1
          clear hb4 Q hll hmm
          go_wp2_with fail
          refine (drawp.namePart A n c _ hn (Bytes_below H.out HB.out)).mono ?_
          rintro e y6 ⟨u, p2, rfl, hus, hp0, hp1, hb6⟩
          have HB := Lib.hid (HB.out.trans (hb6.mono HB.out.size))
          have I1 := Lib.hid (fun w => namn.namePart u p2 w)
          have S1 := Lib.hid (fun w => nams.namePart u p2 w (by unfold maxLen; omega))
          generalize nam.npV u p2 = x3 at *
          generalize nam.npB u p2 = x4 at *
          clear hb6 hus hp0 hp1
          go_wp2_with fail
          refine (I1.out _).mono ?_
          rintro e y7 ⟨rfl, hb7⟩
          have HB := Lib.hid (HB.out.trans (hb7.mono HB.out.size))
          clear hb7
          go_wp2_with fail
          refine (S1.out _).mono ?_
          rintro e y8 ⟨rfl, rfl⟩
          go_wp2_with fail
          go_ret
          exact ⟨by simp, HB.out⟩
      · have htb := str_eq_no (fun h => hq (hZ.2 h))
        have hq0 : ((q : Int) == 0) = false := by simp; omega
        have hq1 : (q == 0) = false := by simp; omega
        clear hZ hq
        go_wp2_with fail
        refine (I2.out _ R4.out).mono ?_
        rintro e w5 ⟨rfl, hb5⟩
        have HB := Lib.hid (HB4.out.trans (hb5.mono HB4.out.size))
        clear hb5 HB4 R4 I2 HX hlt hp30
        go_wp2_with fail
        refine (drawp.splitName A n c _ hn (Bytes_below H.out HB.out)).mono ?_
        rintro e y1 ⟨s, rfl, hss, hb1⟩
        have HB := Lib.hid (HB.out.trans (hb1.mono HB.out.size))
        have I1 := Lib.hid (fun w ht => naml.impl s w (by omega) ht)
        have S1 := Lib.hid (fun w => naml.spec s w (by unfold maxLen; omega))
        have K := Lib.hid (fun h => namo.split_back (s := s) h)
        have hls : (naml.sfL s).size ≤ 100 := sfL_size s (by omega)
        clear hb1 hss
        cases hB : naml.sfB s
        · rw [hB] at I1 S1
          clear K hB
          generalize naml.sfL s = l at *
          generalize naml.sfN s = m at *
          have hll := str_ne_self l
          have hmm := int_ne_self m
          go_wp2_with fail
          refine (I1.out _ (HT.out _ HB.out)).mono ?_
          rintro e y2 ⟨rfl, hb2⟩
          have HB := Lib.hid (HB.out.trans (hb2.mono HB.out.size))
          clear hb2
          go_wp2_with fail
          refine (S1.out _).mono ?_
          rintro e y3 ⟨rfl, j3, rfl⟩
          have HB := Lib.hid (aid.below_drewN HB.out j3)
          generalize y2.drewN j3 = y3 at *
          clear I1 S1 hll hmm hls
          go_wp2_with fail
          refine (drawp.namePart A n c _ hn (Bytes_below H.out HB.out)).mono ?_
          rintro e y6 ⟨u, p2, rfl, hus, hp0, hp1, hb6⟩
          have HB := Lib.hid (HB.out.trans (hb6.mono HB.out.size))
          have I1 := Lib.hid (fun w => namn.namePart u p2 w)
          have S1 := Lib.hid (fun w => nams.namePart u p2 w (by unfold maxLen; omega))
          generalize nam.npV u p2 = x3 at *
          generalize nam.npB u p2 = x4 at *
          clear hb6 hus hp0 hp1
          go_wp2_with fail
          refine (I1.out _).mono ?_
          rintro e y7 ⟨rfl, hb7⟩
          have HB := Lib.hid (HB.out.trans (hb7.mono HB.out.size))
          clear hb7
          go_wp2_with fail
          refine (S1.out _).mono ?_
          rintro e y8 ⟨rfl, rfl⟩
          go_wp2_with fail
          go_ret
          exact ⟨by simp, HB.out⟩
        · obtain ⟨k1, k2, k3⟩ := K.out hB
          have Q := Lib.hid (fun w ht => fmt.format_yes (naml.sfN s) w (by omega) (by omega) ht)
          have hts := num.txt_size (naml.sfN s) (by omega) (by omega)
          rw [hB] at I1 S1
          clear K hB k2 k3
          generalize num.txt (naml.sfN s) = tx at *
          generalize naml.sfL s = l at *
          generalize naml.sfN s = m at *
          have hll := str_ne_self l
          have hmm := int_ne_self m
          have hself := str_ne_self s
          go_wp2_with fail
          refine (I1.out _ (HT.out _ HB.out)).mono ?_
          rintro e y2 ⟨rfl, hb2⟩
          have HB := Lib.hid (HB.out.trans (hb2.mono HB.out.size))
          clear hb2
          go_wp2_with fail
          refine (S1.out _).mono ?_
          rintro e y3 ⟨rfl, j3, rfl⟩
          have HB := Lib.hid (aid.below_drewN HB.out j3)
          generalize y2.drewN j3 = y3 at *
          clear I1 S1
          go_wp2_with fail
          refine (Q.out _ (HT.out _ HB.out)).mono ?_
          rintro e y4 ⟨rfl, hb4⟩
          have HB := Lib.hid (HB.out.trans (hb4.mono HB.out.size))
          have HK := Lib.hid k1
          clear hb4 Q hll hmm
          go_wp2_with fail
          refine (drawp.namePart A n c _ hn (Bytes_below H.out HB.out)).mono ?_
          rintro e y6 ⟨u, p2, rfl, hus, hp0, hp1, hb6⟩
          have HB := Lib.hid (HB.out.trans (hb6.mono HB.out.size))
          have I1 := Lib.hid (fun w => namn.namePart u p2 w)
          have S1 := Lib.hid (fun w => nams.namePart u p2 w (by unfold maxLen; omega))
          generalize nam.npV u p2 = x3 at *
          generalize nam.npB u p2 = x4 at *
          clear hb6 hus hp0 hp1
          go_wp2_with fail
          refine (I1.out _).mono ?_
          rintro e y7 ⟨rfl, hb7⟩
          have HB := Lib.hid (HB.out.trans (hb7.mono HB.out.size))
          clear hb7
          go_wp2_with fail
          refine (S1.out _).mono ?_
          rintro e y8 ⟨rfl, rfl⟩
          go_wp2_with fail
          go_ret
          exact ⟨by simp, HB.out⟩

theorem own : ownKnob Tryd.prog.godebug = none := by kernel_rfl
theorem laidOut : laidOutB Tryd.prog = true := by kernel_rfl

theorem gTab : Tryd.prog.globalNamed "internal/strconv.uint64pow10" = some 1 := by kernel_rfl
theorem gTabType : (Tryd.prog.globals[1]?).map (·.type) = some 120 := by kernel_rfl
theorem cellsTab : Tryd.prog.cellsOf 120 = 20 := by kernel_rfl
theorem cellsU : Tryd.prog.cellsOf 63 = 1 := by kernel_rfl
theorem table {W : World} (h : laidMet Tryd.prog Rows.fnNearestNamesRow.laid W) : Lib.TabIs Tryd.prog W "internal/strconv.uint64pow10" .u64 Lib.pow10Tab :=
  Lib.tabIs_of_head (rest := []) gTab gTabType Tryd.underlying120 Tryd.underlying63 cellsU cellsTab (laidMet.tail (laidMet.tail h))


set_option maxRecDepth 100000 in
theorem contract (H : Type) (enc : TypeId × Value → H) (W : World) (base : Nat) (args : Array Value) (ds gs : List (DataW H)) (before : List MemPlace)
    (hval : ∀ (j : Nat) t v, Tryd.f4.params[j]? = some t → args[j]? = some v → Value.okWide Tryd.prog W .any base t v)
    (hW : DataW.Whole enc Tryd.prog Tryd.f4.params.toList Rows.fnNearestNamesSpec.vars false W args.toList ds gs before) (hL : laidMetH Tryd.prog Rows.fnNearestNamesRow.laid W) :
    Calls Tryd.prog 4 args W fun e W' => ∃ v, e = .returned v ∧ Rows.fnNearestNamesSpec.post enc Tryd.prog Tryd.f4 false true false false W args v W' := by
  have hW' := hW
  obtain ⟨p, q, hA0, hV, rfl, hfz, hnd⟩ := hW
  have hA : DataW.TrodAll enc Tryd.prog W 0 (fun _ => true) true Tryd.f4.params.toList args.toList ds p := hA0
  rw [Tryd.params4] at hA hval
  obtain ⟨v0, vs0, d0, ds0, p0, q0, hargs, rfl, rfl, h0, r0⟩ := trodAll_cons hA
  obtain ⟨rfl, rfl, rfl⟩ := trodAll_nil r0
  obtain rfl : args = #[v0] := by cases args; simp_all
  obtain ⟨rfl, rfl⟩ := trodVars_none hV
  obtain ⟨a0, len0, cap0, rfl⟩ := okWide_slice Tryd.underlying22 (hval 0 22 v0 rfl rfl)
  have k0 := h0
  have lt0 : ∀ x ∈ p0, x.block < W.heap.size := by obtain ⟨m, hm⟩ := k0; exact DataW.trod_lt m _ _ _ hm
  obtain ⟨z0, w0⟩ : ∃ zs, IsRow .u8 W a0 len0 cap0 zs := by
    obtain ⟨fuel, hf⟩ := h0
    rcases open_ints Tryd.underlying22 Tryd.underlying5 (by kernel_rfl) hf with ⟨hcs, _⟩ | ⟨x, l, c, zs, hcs, _, hl, hm, hz, _, hcell, hwz⟩
    · simp [Value.cells] at hcs
      obtain ⟨rfl, rfl, rfl⟩ := hcs
      exact ⟨[], .inl ⟨rfl, rfl, rfl, rfl⟩⟩
    · simp [Value.cells] at hcs
      obtain ⟨rfl, rfl, rfl⟩ := hcs
      exact ⟨zs, .inr ⟨_, rfl, hl, hm, by simpa using hz, hcell, hwz⟩⟩
  clear hA0
  refine (walk a0 len0 cap0 z0 W w0 (table hL)).mono fun e W' ⟨he, bel⟩ => ?_
  subst he
  exact ⟨_, rfl, _, _, _, [], _, [], hW', trodAll_mk1 (shut_bool Tryd.underlying4 _), (trodAll_cons_mk (Below.trod laidOut (by kernel_rfl) (of_decide_eq_true (by kernel_rfl)) k0 bel lt0) trodAll_mk0), rfl, bel.frame _, fun h => by cases h⟩

noncomputable def laidWorld (os : Os) : World :=
  { World.holding Tryd.prog os ⟨#[], #[], []⟩ with heap := ((((World.holding Tryd.prog os ⟨#[], #[], []⟩).heap.modify 1 fun
      | .cells _ t frozen => .cells #[.int .u64 1, .int .u64 10, .int .u64 100, .int .u64 1000, .int .u64 10000, .int .u64 100000, .int .u64 1000000, .int .u64 10000000, .int .u64 100000000, .int .u64 1000000000, .int .u64 10000000000, .int .u64 100000000000, .int .u64 1000000000000, .int .u64 10000000000000, .int .u64 100000000000000, .int .u64 1000000000000000, .int .u64 10000000000000000, .int .u64 100000000000000000, .int .u64 1000000000000000000, .int .u64 10000000000000000000] t frozen
      | o => o).modify 4 fun
      | .cells _ t frozen => .cells #[.int .u8 0, .int .u8 1, .int .u8 28, .int .u8 2, .int .u8 29, .int .u8 14, .int .u8 24, .int .u8 3, .int .u8 30, .int .u8 22, .int .u8 20, .int .u8 15, .int .u8 25, .int .u8 17, .int .u8 4, .int .u8 8, .int .u8 31, .int .u8 27, .int .u8 13, .int .u8 23, .int .u8 21, .int .u8 19, .int .u8 16, .int .u8 7, .int .u8 26, .int .u8 12, .int .u8 18, .int .u8 6, .int .u8 11, .int .u8 5, .int .u8 10, .int .u8 9] t frozen
      | o => o).modify 5 fun
      | .cells _ t frozen => .cells #[.int .u8 0, .int .u8 1, .int .u8 56, .int .u8 2, .int .u8 57, .int .u8 49, .int .u8 28, .int .u8 3, .int .u8 61, .int .u8 58, .int .u8 42, .int .u8 50, .int .u8 38, .int .u8 29, .int .u8 17, .int .u8 4, .int .u8 62, .int .u8 47, .int .u8 59, .int .u8 36, .int .u8 45, .int .u8 43, .int .u8 51, .int .u8 22, .int .u8 53, .int .u8 39, .int .u8 33, .int .u8 30, .int .u8 24, .int .u8 18, .int .u8 12, .int .u8 5, .int .u8 63, .int .u8 55, .int .u8 48, .int .u8 27, .int .u8 60, .int .u8 41, .int .u8 37, .int .u8 16, .int .u8 46, .int .u8 35, .int .u8 44, .int .u8 21, .int .u8 52, .int .u8 32, .int .u8 23, .int .u8 11, .int .u8 54, .int .u8 26, .int .u8 40, .int .u8 15, .int .u8 34, .int .u8 20, .int .u8 31, .int .u8 10, .int .u8 25, .int .u8 14, .int .u8 19, .int .u8 9, .int .u8 13, .int .u8 8, .int .u8 7, .int .u8 6] t frozen
      | o => o) }
theorem laid_met (os : Os) : laidMet Tryd.prog Rows.fnNearestNamesRow.laid ((laidWorld os).forCall (fun _ _ => 0) ⟨#[], #[.slice none 0 0], []⟩).memory :=
  laidMet_of_run' 8 (by kernel_rfl) (by kernel_rfl)
theorem reads (os : Os) {H : Type} (enc : TypeId × Value → H) : ∃ places, DataW.whole enc Tryd.prog ((laidWorld os).forCall (fun _ _ => 0) ⟨#[], #[.slice none 0 0], []⟩).memory Tryd.f4.params.toList Rows.fnNearestNamesSpec.vars false (#[.slice none 0 0] : Array Value).toList 8 = some ([.nil], [], places) :=
  ⟨[], by kernel_rfl⟩

set_option maxRecDepth 100000 in
theorem lifted (os : Os) (started : os.Started) (H : Type) (enc : TypeId × Value → H) (F : Stop.Interp) :
    ReturnsInHanded {} Tryd.checked os 4 .any ((OpenSpec.ofChange Rows.fnNearestNamesSpec).preRow enc Tryd.prog Tryd.f4 Rows.fnNearestNamesRow.domain false Rows.fnNearestNamesRow.laid) (((OpenSpec.ofChange Rows.fnNearestNamesSpec).at F).post enc Tryd.prog Tryd.f4 false true false false) := by
  obtain ⟨places, hx⟩ := reads os enc
  refine returnsInHanded_of_row (C := Tryd.checked) (s := OpenSpec.ofChange Rows.fnNearestNamesSpec) own started (by kernel_rfl) Tryd.func4
    (witness_row_at (enc := enc) (C := Tryd.checked) false (laidWorld os) #[.slice none 0 0] rfl (by kernel_rfl) (by kernel_rfl) (by kernel_rfl)
      (OpenSpec.preRow_of_cond 8 hx (by kernel_rfl) (fun k hk => by cases hk) (by kernel_rfl) (laid_met os))) ?_
  intro W base args ds gs before hval hW _ _ _ hL _ _
  exact contract H enc W base args ds gs before hval hW hL

theorem said : Rows.FnNearestNamesSaid :=
  OpenClaim.holds_of_cond 4 Tryd.f4 rfl rfl rfl rfl rfl rfl rfl ⟨rfl, rfl, rfl, rfl, rfl⟩ rfl rfl rfl rfl rfl (by kernel_rfl) Tryd.func4 (by kernel_rfl)
    (of_decide_eq_true (by kernel_rfl)) (by unfold Func.isWrapper; first | (rw [if_pos (by decide +kernel)]; kernel_rfl) | (rw [if_neg (by decide +kernel)]; exact ⟨rfl, rfl⟩))
    (fun os started H enc _ F => by rw [OpenClaim.pre_eq_preRow]; exact lifted os started H enc F)

theorem plain (f : FuncId) (fn : Func) (hf : Tryd.pinned.checked.prog.funcNamed "loop.example/g00875/laws.FnNearestNames" = some f) (hfn : Tryd.pinned.checked.prog.funcs[f]? = some fn) :
    false = Tryd.pinned.checked.prog.looks [] ∧ ∀ (j : Nat) t, fn.params[j]? = some t → Tryd.pinned.checked.prog.wantsStandIn t = false := by
  obtain rfl : f = 4 := Option.some.inj ((show Tryd.prog.funcNamed "loop.example/g00875/laws.FnNearestNames" = some 4 by kernel_rfl).symm.trans hf) |>.symm
  obtain rfl : fn = Tryd.f4 := (Option.some.inj (Tryd.func4.symm.trans hfn)).symm
  refine ⟨by kernel_rfl, fun j t ht => ?_⟩
  rw [Tryd.params4] at ht
  have hm := Array.mem_of_getElem? ht
  simp at hm
  obtain rfl := hm
  exact (show Tryd.prog.wantsStandIn 22 = false by kernel_rfl)

theorem proved : Rows.FnNearestNamesCardSaid :=
  Claim7.holds_tied_plain_at .later [] _ _ _ _ said (fun _ h => by cases h) (by kernel_rfl) (fun _ h => by cases h) fnNearestNames_row_tie rfl ⟨rfl, rfl⟩ (by kernel_rfl) rfl plain (by kernel_rfl)
#print axioms proved
end Go.Proofs.YtjfhkbpkiblkmaaDoor.fnNearestNames
