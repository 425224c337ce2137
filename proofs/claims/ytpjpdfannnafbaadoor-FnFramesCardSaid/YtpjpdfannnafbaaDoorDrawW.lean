/- spec's draws for chapter 5's laws: DrawIsValidFrame, DrawEncodeFrame, DrawParseFrameText, DrawFrameDistance. -/
import Derived.Test.YtpjpdfannnafbaaDoorDrawV
import Derived.Test.YtpjpdfannnafbaaDoorDrawB
import Derived.Test.YtpjpdfannnafbaaDoorFrmT
import Derived.Test.YtpjpdfannnafbaaDoorParS
import Derived.Test.YtpjpdfannnafbaaDoorParR
namespace Go.Proofs.YtpjpdfannnafbaaDoor.draww
open Go.RowKit Go.Proofs.YtpjpdfannnafbaaDoor.cur Go.Proofs.YtpjpdfannnafbaaDoor.bin Go.Proofs.YtpjpdfannnafbaaDoor.good_ Go.Proofs.YtpjpdfannnafbaaDoor.par Go.Proofs.YtpjpdfannnafbaaDoor.frm Go.Proofs.YtpjpdfannnafbaaDoor.frms Go.Proofs.YtpjpdfannnafbaaDoor.ats Go.Proofs.YtpjpdfannnafbaaDoor.drawv

def Full (z : ByteArray) : Prop := z.size = 56 ∧ ok 2 z.data.toList = true
theorem ok_add {x y : ByteArray} (hx : ok 2 x.data.toList = true) (hy : ok 2 y.data.toList = true) : ok 2 (x ++ y).data.toList = true := by
  rw [ByteArray.data_append, Array.toList_append, ok_app, hx, hy]; rfl
theorem Full.flip {z : ByteArray} {k : Nat} (h : Full z) (hk : k < 56) : Full (flipT z k) := by
  have hr : rdB 2 64 z = true := by unfold rdB; rw [h.2, decide_eq_true (by rw [h.1]; omega)]; rfl
  exact ⟨by rw [parr.flip_size (by rw [h.1]; exact hk)]; exact h.1, (parr.flip_dec hr (by rw [h.1]; exact hk)).1⟩
def Frame1 (w : World) (e : Ending) (w' : World) : Prop := ∃ K A D, e = .returned (.agg #[.int .i64 K, .int .i64 A, .int .i64 D]) ∧ Near K A D ∧ Below w.heap.size w w'

set_option maxRecDepth 100000 in
set_option maxHeartbeats 2000000 in
theorem isValidFrame (A : Option Addr) (n c : Nat) (w : World) (hn : n ≤ 65536) (h : Bytes w w.heap.size A n) :
    Calls Tryd.prog 25 #[.slice A n c] w (Frame1 w) := by
  have B0 := Lib.hid (newS 25 #[.int .i64 0, .int .i64 0, .int .i64 0] w)
  have hby : Bytes (w.alloc (.cells #[.int .i64 0, .int .i64 0, .int .i64 0] 25)) (w.alloc (.cells #[.int .i64 0, .int .i64 0, .int .i64 0] 25)).heap.size A n := by
    intro h0
    obtain ⟨b, o, e, hb, hc⟩ := h h0
    exact ⟨b, o, e, by rw [World.size_alloc]; omega, fun j hj => by
      obtain ⟨x, hx⟩ := hc j hj
      exact ⟨x, (World.cell?_alloc_lt w _ ⟨b, o + j, none⟩ hb).trans hx.1, hx.2⟩⟩
  have hc := Lib.hid (new_cur c (by omega) hby)
  have hb0 : Below (w.alloc (.cells #[.int .i64 0, .int .i64 0, .int .i64 0] 25)).heap.size (w.alloc (.cells #[.int .i64 0, .int .i64 0, .int .i64 0] 25)) ((w.alloc (.cells #[.int .i64 0, .int .i64 0, .int .i64 0] 25)).alloc (.cells #[.slice A n c, .int .i64 0, .int .u64 0] 58)) := (Below.refl _ _).alloc (Nat.le_refl _) _
  have hsz : (w.alloc (.cells #[.int .i64 0, .int .i64 0, .int .i64 0] 25)).heap.size = w.heap.size + 1 := World.size_alloc _ _
  have HSZ := Lib.hid hsz
  clear h hby hsz
  go_enter Tryd.func25, Tryd.ntmps25
  go_wp2_with fail
  generalize w.alloc (.cells #[.int .i64 0, .int .i64 0, .int .i64 0] 25) = W at *
  rw [← HSZ.out]
  refine (anyFrame _ 0 _ hc.out (by omega)).mono ?_
  rintro e w1 ⟨K, A', D, rfl, hv, hc1, hg1⟩
  have B1 := Lib.hid (B0.out.old (below_of_grown hb0 hg1))
  have HV := Lib.hid hv
  have c0 : w1.cell? ⟨w.heap.size, 0, none⟩ = some (.int .i64 0) := B1.out.cell 0
  have c1 : w1.cell? ⟨w.heap.size, 1, none⟩ = some (.int .i64 0) := B1.out.cell 1
  have c2 : w1.cell? ⟨w.heap.size, 2, none⟩ = some (.int .i64 0) := B1.out.cell 2
  have f0 : w1.frozen? ⟨w.heap.size, 0, none⟩ = false := B1.out.frozen 0
  have f1 : w1.frozen? ⟨w.heap.size, 1, none⟩ = false := B1.out.frozen 1
  have f2 : w1.frozen? ⟨w.heap.size, 2, none⟩ = false := B1.out.frozen 2
  have HE := Lib.hid (((B1.out.set 0 (.int .i64 K)).set 1 (.int .i64 A')).set 2 (.int .i64 D))
  clear hv hc1 hg1 hb0 hc B0 B1
  go_wp2_with fail
  have hl := HE.out.load Tryd.underlying25 rfl (by kernel_rfl)
  refine bodyPost_ret (v := .agg #[.int .i64 K, .int .i64 A', .int .i64 D]) ?_ rfl ⟨_, _, _, rfl, HV.out, HE.out.1⟩
  rw [results_cell1 rfl]
  simp [asAddr, Result.andThen, hl]

theorem encodeFrame (A : Option Addr) (n c : Nat) (w : World) (hn : n ≤ 65536) (h : Bytes w w.heap.size A n) :
    Calls Tryd.prog 7 #[.slice A n c] w (Frame1 w) := by
  have B0 := Lib.hid (newS 25 #[.int .i64 0, .int .i64 0, .int .i64 0] w)
  have hby : Bytes (w.alloc (.cells #[.int .i64 0, .int .i64 0, .int .i64 0] 25)) (w.alloc (.cells #[.int .i64 0, .int .i64 0, .int .i64 0] 25)).heap.size A n := by
    intro h0
    obtain ⟨b, o, e, hb, hc⟩ := h h0
    exact ⟨b, o, e, by rw [World.size_alloc]; omega, fun j hj => by
      obtain ⟨x, hx⟩ := hc j hj
      exact ⟨x, (World.cell?_alloc_lt w _ ⟨b, o + j, none⟩ hb).trans hx.1, hx.2⟩⟩
  have HX := Lib.hid (isValidFrame A n c _ hn hby)
  clear h hby
  go_enter Tryd.func7, Tryd.ntmps7
  go_wp2_with fail
  generalize w.alloc (.cells #[.int .i64 0, .int .i64 0, .int .i64 0] 25) = W at *
  refine HX.out.mono ?_
  rintro e w1 ⟨K, A', D, rfl, hv, hb1⟩
  have B1 := Lib.hid (B0.out.old hb1)
  have HV := Lib.hid hv
  have c0 : w1.cell? ⟨w.heap.size, 0, none⟩ = some (.int .i64 0) := B1.out.cell 0
  have c1 : w1.cell? ⟨w.heap.size, 1, none⟩ = some (.int .i64 0) := B1.out.cell 1
  have c2 : w1.cell? ⟨w.heap.size, 2, none⟩ = some (.int .i64 0) := B1.out.cell 2
  have f0 : w1.frozen? ⟨w.heap.size, 0, none⟩ = false := B1.out.frozen 0
  have f1 : w1.frozen? ⟨w.heap.size, 1, none⟩ = false := B1.out.frozen 1
  have f2 : w1.frozen? ⟨w.heap.size, 2, none⟩ = false := B1.out.frozen 2
  have HE := Lib.hid (((B1.out.set 0 (.int .i64 K)).set 1 (.int .i64 A')).set 2 (.int .i64 D))
  clear hv hb1 B0 B1 HX
  go_wp2_with fail
  have hl := HE.out.load Tryd.underlying25 rfl (by kernel_rfl)
  refine bodyPost_ret (v := .agg #[.int .i64 K, .int .i64 A', .int .i64 D]) ?_ rfl ⟨_, _, _, rfl, HV.out, HE.out.1⟩
  rw [results_cell1 rfl]
  simp [asAddr, Result.andThen, hl]

set_option maxRecDepth 100000 in
set_option maxHeartbeats 2000000 in
theorem parseFrameText (A : Option Addr) (n c : Nat) (w : World) (hn : n ≤ 65536) (h : Bytes w w.heap.size A n) :
    Calls Tryd.prog 20 #[.slice A n c] w (drawb.Str1 1000 w) := by
  have hc := Lib.hid (new_cur c (by omega) h)
  have hb0 : Below w.heap.size w (w.alloc (.cells #[.slice A n c, .int .i64 0, .int .u64 0] 58)) := (Below.refl _ _).alloc (Nat.le_refl _) _
  clear h
  go_enter Tryd.func20, Tryd.ntmps20
  go_wp2_with fail
  refine (frame _ 0 _ hc.out (by omega)).mono ?_
  rintro e w1 ⟨K, A', D, rfl, ⟨⟨k0, k1⟩, ⟨a0, a1⟩, d0, d1⟩, hc1, hg1⟩
  have hb1 := below_of_grown hb0 hg1
  have HC1 := Lib.hid hc1
  obtain ⟨k, rfl⟩ := Int.eq_ofNat_of_zero_le (show 0 ≤ K by omega)
  obtain ⟨a, rfl⟩ := Int.eq_ofNat_of_zero_le (show 0 ≤ A' by omega)
  obtain ⟨d, rfl⟩ := Int.eq_ofNat_of_zero_le d0
  have HX := Lib.hid (fun w => frmt.text5 k a d w (by omega) (by omega) (by omega))
  have hz : (frmt.textT k a d).size ≤ 40 := by
    have := frmt.wd_size (show k < 5 by omega)
    unfold frmt.textT frmt.hx
    simp only [ByteArray.size_append, e_size]
    have : (⟨#[32]⟩ : ByteArray).size = 1 := rfl
    omega
  have hz2 : ((frmt.textT k a d).size : Int) ≤ 40 := by omega
  clear hc1 hg1 k0 k1 a0 a1 d0 d1
  generalize frmt.textT k a d = t at *
  go_wp2_with fail
  refine (HX.out _).mono ?_
  rintro e w2 ⟨rfl, hb2⟩
  have HC2 := Lib.hid (HC1.out.keep (hb2.mono (by have := HC1.out.lt; omega)))
  have HB2 := Lib.hid (hb1.trans (hb2.mono hb1.size))
  clear hb2 HC1 hb1 hb0 HX
  go_wp2_with fail
  refine (one _ (0 + 20) 4 _ HC2.out (by omega) (by omega) (by omega)).mono ?_
  rintro e w4 ⟨b, rfl, hc4, hg4⟩
  have HC4 := Lib.hid hc4
  have HB4 := Lib.hid (below_of_grown HB2.out hg4)
  clear hc4 hg4 HC2
  cases b
  · go_wp2_with fail
    go_ret
    exact ⟨_, rfl, by omega, HB4.out⟩
  · go_wp2_with fail
    refine (spoilt _ _ t ⟨#[48, 32, 97, 70]⟩ w4 HC4.out (by omega) (by omega) (by decide) (by decide)).mono ?_
    rintro e w5 ⟨y, rfl, hy, hc5, hg5⟩
    have HB5 := Lib.hid (below_of_grown HB4.out hg5)
    have hy2 : y.size ≤ 1000 := Nat.le_trans hy (by omega)
    clear hc5 hg5 HC4 hy
    go_wp2_with fail
    go_ret
    exact ⟨_, rfl, hy2, HB5.out⟩

set_option maxRecDepth 100000 in
set_option maxHeartbeats 4000000 in
theorem decodeFrame (A : Option Addr) (n c : Nat) (w : World) (hn : n ≤ 65536) (h : Bytes w w.heap.size A n) :
    Calls Tryd.prog 36 #[.slice A n c] w (drawb.Str1 1000 w) := by
  have hc := Lib.hid (new_cur c (by omega) h)
  have hb0 : Below w.heap.size w (w.alloc (.cells #[.slice A n c, .int .i64 0, .int .u64 0] 58)) := (Below.refl _ _).alloc (Nat.le_refl _) _
  clear h
  go_enter Tryd.func36, Tryd.ntmps36
  go_wp2_with fail
  refine (frame _ 0 _ hc.out (by omega)).mono ?_
  rintro e w1 ⟨K, A', D, rfl, ⟨⟨k0, k1⟩, ⟨a0, a1⟩, d0, d1⟩, hc1, hg1⟩
  have hb1 := below_of_grown hb0 hg1
  have HC1 := Lib.hid hc1
  obtain ⟨k, rfl⟩ := Int.eq_ofNat_of_zero_le (show 0 ≤ K by omega)
  obtain ⟨a, rfl⟩ := Int.eq_ofNat_of_zero_le (show 0 ≤ A' by omega)
  obtain ⟨d, rfl⟩ := Int.eq_ofNat_of_zero_le d0
  have HX := Lib.hid (fun w => l5Bits k a d w (by omega) (by omega) (by omega))
  have HT := Lib.hid (show Full (bitsT (num k a d)) from ⟨bits_size _, bits_ok _⟩)
  clear hc1 hg1 k0 k1 a0 a1 d0 d1
  generalize bitsT (num k a d) = t at *
  go_wp2_with fail
  refine (HX.out _).mono ?_
  rintro e w2 ⟨rfl, hb2⟩
  have HC2 := Lib.hid (HC1.out.keep (hb2.mono (by have := HC1.out.lt; omega)))
  have HB2 := Lib.hid (hb1.trans (hb2.mono hb1.size))
  clear hb2 HC1 hb1 hb0 HX
  go_wp2_with fail
  refine (among_new 0 2 _ (0 + 20) 4 [0, 0, 1, 2] _ w2 HC2.out (by omega) (by omega) (by omega) rfl rfl (by decide)).mono ?_
  rintro e w3 ⟨r, rfl, r0, r1, hc3, hg3⟩
  obtain ⟨q0, rfl⟩ := Int.eq_ofNat_of_zero_le r0
  have HC3 := Lib.hid hc3
  have HB3 := Lib.hid (below_of_grown HB2.out hg3)
  clear hc3 hg3 HC2
  go_wp2_with fail
  go_loopw [4, 5] (fun s n wr => ∃ (q : Nat) (z : ByteArray), q ≤ 2 ∧ n = .int .i64 q ∧ s = .string z ∧ Full z ∧ Cur wr w.heap.size (30 + 2 * (2 - q)) ∧ Below w.heap.size w wr) (fun _ n _ => (intOf n).toNat)
  case atStart => exact ⟨q0, t, by omega, rfl, rfl, HT.out, HC3.out.more (by omega), HB3.out⟩
  case round =>
    obtain ⟨q, z, hq, rfl, rfl, hz, hc4, hb4⟩ := hrel
    have HC4 := Lib.hid hc4
    have HB4 := Lib.hid hb4
    have HZ := Lib.hid hz
    clear hc4 hb4 HC3 HB3 HB2 HT hz
    by_cases hlt : 0 < q
    · have hlt2 : (0 : Int) < (q : Int) := by omega
      go_wp2_with fail
      refine (pick _ (30 + 2 * (2 - q)) 56 wr HC4.out (by omega) (by omega) (by omega)).mono ?_
      rintro e w4 ⟨i, rfl, i0, i1, hc5, hg5⟩
      obtain ⟨j, rfl⟩ := Int.eq_ofNat_of_zero_le i0
      have HC5 := Lib.hid (hc5.more (m' := 30 + 2 * (2 - (q - 1))) (by omega))
      have HB5 := Lib.hid (below_of_grown HB4.out hg5)
      have HF := Lib.hid (fun w => flipN z j w (by rw [HZ.out.1]; omega) (by rw [HZ.out.1]; omega))
      have HS := Lib.hid (HZ.out.flip (k := j) (by omega))
      clear hc5 hg5 HC4 HB4 HZ
      generalize flipT z j = u at *
      go_wp2_with fail
      refine (HF.out _).mono ?_
      rintro e w5 ⟨rfl, j5, rfl⟩
      go_wp2_with fail
      go_roundw
      case rel => exact ⟨q - 1, u, by omega, by go_num, rfl, HS.out, cur_drewN HC5.out j5, aid.below_drewN HB5.out j5⟩
      case measure => simp [intOf]; omega
    · obtain rfl : q = 0 := by omega
      have HX := Lib.hid (fun w => hexs.l2Hex z w (by rw [HZ.out.1]; omega) (by rw [HZ.out.1]) HZ.out.2)
      have hs : (⟨(enc 16 (z.size / 4) (dec 2 z.data.toList)).toArray⟩ : ByteArray).size = 14 := by rw [e_size, HZ.out.1]
      clear HZ
      generalize (⟨(enc 16 (z.size / 4) (dec 2 z.data.toList)).toArray⟩ : ByteArray) = s at *
      have hs2 : (s.size : Int) ≤ 14 := by omega
      go_wp2_with fail
      refine (HX.out _).mono ?_
      rintro e w5 ⟨rfl, rfl⟩
      clear HX
      go_wp2_with fail
      refine (pick _ _ 16 wr (HC4.out.more (m' := 40) (by omega)) (by omega) (by omega) (by omega)).mono ?_
      rintro e w6 ⟨i, rfl, i0, i1, hc6, hg6⟩
      have HC6 := Lib.hid hc6
      have HB6 := Lib.hid (below_of_grown HB4.out hg6)
      clear hc6 hg6 HC4 HB4
      by_cases h0 : i = 0
      · subst h0
        go_wp2_with fail
        refine (spoilt _ _ s ⟨#[48, 97, 71]⟩ w6 HC6.out (by omega) (by omega) (by decide) (by decide)).mono ?_
        rintro e w7 ⟨y, rfl, hy, hc7, hg7⟩
        have HB7 := Lib.hid (below_of_grown HB6.out hg7)
        have hy2 : y.size ≤ 1000 := Nat.le_trans hy (by omega)
        clear hc7 hg7 HC6 hy
        go_wp2_with fail
        go_ret
        exact ⟨_, rfl, hy2, HB7.out⟩
      · have z0 : (i == 0) = false := by simpa using h0
        by_cases h1 : i = 1
        · subst h1
          go_wp2_with fail
          refine (among_new 0 15 _ _ 4 [0, 5, 15, 1] _ w6 HC6.out (by omega) (by omega) (by omega) rfl rfl (by decide)).mono ?_
          rintro e w7 ⟨x, rfl, x0, x1, hc7, hg7⟩
          obtain ⟨x, rfl⟩ := Int.eq_ofNat_of_zero_le x0
          have HC7 := Lib.hid hc7
          have HB7 := Lib.hid (below_of_grown HB6.out hg7)
          have X1 := Lib.hid (fun w => ofN x 4 w (by omega) (by omega))
          clear hc7 hg7 HC6 HB6
          go_wp2_with fail
          refine (X1.out _).mono ?_
          rintro e w8 ⟨rfl, rfl⟩
          go_wp2_with fail
          refine (pick _ _ 2 w7 HC7.out (by omega) (by omega) (by omega)).mono ?_
          rintro e w9 ⟨y, rfl, y0, y1, hc9, hg9⟩
          obtain ⟨y, rfl⟩ := Int.eq_ofNat_of_zero_le y0
          have HB9 := Lib.hid (below_of_grown HB7.out hg9)
          have X2 := Lib.hid (fun w => ofN y 16 w (by omega) (by omega))
          have X3 := Lib.hid (fun w => ofN 9 24 w (by omega) (by omega))
          have n1 : (⟨(enc 2 4 x).toArray⟩ : ByteArray).size = 4 := e_size 2 4 x
          have n2 : (⟨(enc 2 16 y).toArray⟩ : ByteArray).size = 16 := e_size 2 16 y
          have n3 : (⟨(enc 2 24 9).toArray⟩ : ByteArray).size = 24 := e_size 2 24 9
          have o1 := e_ok 4 x
          have o2 := e_ok 16 y
          have o3 := e_ok 24 9
          generalize (⟨(enc 2 4 x).toArray⟩ : ByteArray) = t1 at *
          generalize (⟨(enc 2 16 y).toArray⟩ : ByteArray) = t2 at *
          generalize (⟨(enc 2 24 9).toArray⟩ : ByteArray) = t3 at *
          have hz4 : (t1 ++ t2 ++ t3).size = 44 := by rw [ByteArray.size_append, ByteArray.size_append]; omega
          have ho4 : ok 2 (t1 ++ t2 ++ t3).data.toList = true := ok_add (ok_add o1 o2) o3
          have s12 : ¬ 9223372036854775807 < t1.size + t2.size := by omega
          have s13 : ¬ 9223372036854775807 < (t1 ++ t2).size + t3.size := by rw [ByteArray.size_append]; omega
          have HA := Lib.hid (fun w => pars.add4 (t1 ++ t2 ++ t3) w (by omega) ho4)
          have hz5 : (t1 ++ t2 ++ t3 ++ parL (t1 ++ t2 ++ t3)).size = 56 := by rw [ByteArray.size_append, hz4, show (parL (t1 ++ t2 ++ t3)).size = 12 from enc_length 2 12 _]
          have ho5 : ok 2 (t1 ++ t2 ++ t3 ++ parL (t1 ++ t2 ++ t3)).data.toList = true := ok_add ho4 (e_ok 12 _)
          have HH := Lib.hid (fun w => hexs.l2Hex (t1 ++ t2 ++ t3 ++ parL (t1 ++ t2 ++ t3)) w (by omega) (by omega) ho5)
          clear hc9 hg9 HC7 HB7 o1 o2 o3 ho4 ho5 n1 n2 n3 X1
          generalize t1 ++ t2 ++ t3 ++ parL (t1 ++ t2 ++ t3) = t5 at *
          go_wp2_with fail
          refine (X2.out _).mono ?_
          rintro e w10 ⟨rfl, rfl⟩
          go_wp2_with fail
          refine (X3.out _).mono ?_
          rintro e w11 ⟨rfl, rfl⟩
          go_wp2_with fail
          refine (HA.out _).mono ?_
          rintro e w12 ⟨rfl, rfl⟩
          go_wp2_with fail
          refine (HH.out _).mono ?_
          rintro e w13 ⟨rfl, rfl⟩
          go_wp2_with fail
          go_ret
          exact ⟨_, rfl, by rw [e_size]; omega, HB9.out⟩
        · have z1 : (i == 1) = false := by simpa using h1
          have hy2 : s.size ≤ 1000 := by omega
          go_wp2_with fail
          go_ret
          exact ⟨_, rfl, hy2, HB6.out⟩

theorem repairFrame (A : Option Addr) (n c : Nat) (w : World) (hn : n ≤ 65536) (h : Bytes w w.heap.size A n) :
    Calls Tryd.prog 18 #[.slice A n c] w (drawb.Str1 1000 w) := by
  have HX := Lib.hid (decodeFrame A n c w hn h)
  clear h
  go_enter Tryd.func18, Tryd.ntmps18
  go_wp2_with fail
  refine HX.out.mono ?_
  rintro e w1 ⟨x, rfl, hx, hb⟩
  go_wp2_with fail
  go_ret
  exact ⟨x, rfl, hx, hb⟩
end Go.Proofs.YtpjpdfannnafbaaDoor.draww
