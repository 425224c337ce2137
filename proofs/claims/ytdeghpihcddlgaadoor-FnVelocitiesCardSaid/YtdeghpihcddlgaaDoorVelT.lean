/- spec's AddVelocities, WholeSpeed; the code of a velocity: l8Signed, EncodeVelocity, DecodeVelocity. -/
import Derived.Test.YtdeghpihcddlgaaDoorVelS
import Derived.Test.YtdeghpihcddlgaaDoorVelB
import Derived.Test.YtdeghpihcddlgaaDoorGood
import Derived.Deep.RegionHeld3
import Derived.Deep.CutRange
namespace Go.Proofs.YtdeghpihcddlgaaDoor.velt
open Go.RowKit Go.Proofs.YtdeghpihcddlgaaDoor.vel Go.Proofs.YtdeghpihcddlgaaDoor.in_ Go.Proofs.YtdeghpihcddlgaaDoor.ats Go.Proofs.YtdeghpihcddlgaaDoor.veli Go.Proofs.YtdeghpihcddlgaaDoor.velj Go.Proofs.YtdeghpihcddlgaaDoor.velk Go.Proofs.YtdeghpihcddlgaaDoor.vell Go.Proofs.YtdeghpihcddlgaaDoor.vels Go.Proofs.YtdeghpihcddlgaaDoor.velb Go.Proofs.YtdeghpihcddlgaaDoor.bin Go.Proofs.YtdeghpihcddlgaaDoor.good_

set_option maxRecDepth 100000 in
set_option maxHeartbeats 8000000 in
theorem wholeSpeed (x y : Int) (w : World) :
    Calls Tryd.prog 14 #[.agg #[.int .i64 x, .int .i64 y]] w
      fun e w' => e = .returned (.tuple #[.int .i64 (wsV x y), .bool (vB x y)]) ∧ Below w.heap.size w w' := by
  have hv := fun w => good8 x y w
  have B0 := Lib.hid (newS 25 #[.int .i64 x, .int .i64 y] w)
  cases hb : vB x y
  · have HN := Lib.hid (ws_no hb)
    rw [hb] at hv HN
    have HV := Lib.hid hv
    clear hv hb
    go_enter Tryd.func14, Tryd.ntmps14
    go_wp2_with fail
    generalize w.alloc (.cells #[.int .i64 x, .int .i64 y] 25) = W at *
    refine (HV.out _).mono ?_
    rintro e w1 ⟨rfl, hb1⟩
    have B1 := Lib.hid (B0.out.old hb1)
    clear hb1
    go_wp2_with fail
    go_ret2
    exact ⟨congrArg Ending.returned HN.out, B1.out.1⟩
  · have HN := Lib.hid (fun (r : Nat) h => ws_yes (r := r) hb h)
    have Q1 := Lib.hid (fun w => square8 x y hb w)
    have hs := sq_le hb
    rw [hb] at hv HN
    have HV := Lib.hid hv
    clear hv hb
    generalize sq x y = s at *
    obtain ⟨s0, s1⟩ := hs
    have HS := Lib.hid s1
    go_enter Tryd.func14, Tryd.ntmps14
    go_wp2_with fail
    generalize w.alloc (.cells #[.int .i64 x, .int .i64 y] 25) = W at *
    refine (HV.out _).mono ?_
    rintro e w1 ⟨rfl, hb1⟩
    have B1 := Lib.hid (B0.out.old hb1)
    clear hb1 B0
    go_wp2_with fail
    go_loopw [4] (fun i wr => ∃ n f : Nat, i = .int .i64 n ∧ n + f = 300 ∧ rtA s f n = rt s ∧ AtS 25 #[.int .i64 x, .int .i64 y] w wr w.heap.size) (fun i _ => 300 - (intOf i).toNat)
    case atStart => exact ⟨0, 300, rfl, rfl, rfl, B1.out⟩
    case round =>
      obtain ⟨n, f, rfl, hnf, hr, hat⟩ := hrel
      have c0 : wr.cell? ⟨w.heap.size, 0, none⟩ = some (.int .i64 x) := hat.cell 0
      have c1 : wr.cell? ⟨w.heap.size, 1, none⟩ = some (.int .i64 y) := hat.cell 1
      have R1 := Lib.hid hat
      clear hat B1
      have hn : n ≤ 300 := by omega
      obtain ⟨p0, p1⟩ := next_le hn
      by_cases h : ((n : Int) + 1) * ((n : Int) + 1) ≤ s
      · have hf : f ≠ 0 := fun e => rt_zero (n := n) HS.out (by omega) h
        obtain ⟨f, rfl⟩ : ∃ g, f = g + 1 := ⟨f - 1, by omega⟩
        have HR := Lib.hid (show rtA s f (n + 1) = rt s by rw [← rtA_step h]; exact hr)
        clear hr
        generalize hp : ((n : Int) + 1) * ((n : Int) + 1) = p at *
        go_wp2_with fail
        refine (Q1.out _).mono ?_
        rintro e w2 ⟨rfl, hb2⟩
        have R2 := Lib.hid (R1.out.old hb2)
        clear hb2 R1 c0 c1
        go_wp2_with fail
        go_roundw
        case rel => exact ⟨n + 1, f, by go_num, by omega, HR.out, R2.out⟩
        case measure => simp [intOf]; omega
      · have g : decide (((n : Int) + 1) * ((n : Int) + 1) ≤ s) = false := decide_eq_false h
        have hR : n = rt s := by
          cases f with
          | zero => exact hr
          | succ f => rw [← hr, rtA_end h]
        have HR := Lib.hid (HN.out n hR)
        clear hr hR h
        generalize hp : ((n : Int) + 1) * ((n : Int) + 1) = p at *
        go_wp2_with fail
        refine (Q1.out _).mono ?_
        rintro e w2 ⟨rfl, hb2⟩
        have R2 := Lib.hid (R1.out.old hb2)
        clear hb2 R1 c0 c1
        go_wp2_with fail
        go_ret2
        exact ⟨congrArg Ending.returned HR.out, R2.out.1⟩

theorem signed8 (x : Int) (hx : -200 ≤ x ∧ x ≤ 200) (w : World) :
    Calls Tryd.prog 26 #[.int .i64 x] w fun e w' => e = .returned (.string (sgT x)) ∧ w = w' := by
  obtain ⟨x0, x1⟩ := hx
  by_cases h : x < 0
  · obtain ⟨k, rfl⟩ : ∃ k : Nat, x = -(k : Int) := ⟨x.natAbs, by omega⟩
    have H1 := Lib.hid (fun w => ofN k 10 w (by omega) (by omega))
    have HT := Lib.hid (aid.ret_str (sg_neg (k := k) (by omega)))
    have hz : (⟨(enc 2 10 k).toArray⟩ : ByteArray).size = 10 := enc_length 2 10 k
    generalize (⟨(enc 2 10 k).toArray⟩ : ByteArray) = u at *
    have e1 : - -(k : Int) = (k : Int) := by omega
    have k1 : (0 : Int) < (k : Int) := by omega
    clear h
    go_enter Tryd.func26, Tryd.ntmps26
    go_wp2_with fail
    refine (H1.out _).mono ?_
    rintro e w' ⟨rfl, rfl⟩
    go_wp2_with fail
    go_ret
    exact ⟨HT.out, rfl⟩
  · obtain ⟨k, rfl⟩ := Int.eq_ofNat_of_zero_le (show 0 ≤ x by omega)
    have H1 := Lib.hid (fun w => ofN k 10 w (by omega) (by omega))
    have HT := Lib.hid (aid.ret_str (sg_pos k))
    have hz : (⟨(enc 2 10 k).toArray⟩ : ByteArray).size = 10 := enc_length 2 10 k
    generalize (⟨(enc 2 10 k).toArray⟩ : ByteArray) = u at *
    have g : decide ((k : Int) < 0) = false := decide_eq_false h
    clear h
    go_enter Tryd.func26, Tryd.ntmps26
    go_wp2_with fail
    refine (H1.out _).mono ?_
    rintro e w' ⟨rfl, rfl⟩
    go_wp2_with fail
    go_ret
    exact ⟨HT.out, rfl⟩

set_option maxRecDepth 100000 in
set_option maxHeartbeats 8000000 in
theorem encodeVelocity (x y : Int) (w : World) :
    Calls Tryd.prog 8 #[.agg #[.int .i64 x, .int .i64 y]] w
      fun e w' => e = .returned (.tuple #[.int .i64 (enV x y), .bool (vB x y)]) ∧ Below w.heap.size w w' := by
  have hv := fun w => good8 x y w
  have B0 := Lib.hid (newS 25 #[.int .i64 x, .int .i64 y] w)
  cases hb : vB x y
  · have HN := Lib.hid (en_no hb)
    rw [hb] at hv HN
    have HV := Lib.hid hv
    clear hv hb
    go_enter Tryd.func8, Tryd.ntmps8
    go_wp2_with fail
    generalize w.alloc (.cells #[.int .i64 x, .int .i64 y] 25) = W at *
    refine (HV.out _).mono ?_
    rintro e w1 ⟨rfl, hb1⟩
    have B1 := Lib.hid (B0.out.old hb1)
    clear hb1
    go_wp2_with fail
    go_ret2
    exact ⟨congrArg Ending.returned HN.out, B1.out.1⟩
  · have hN := en_yes hb
    obtain ⟨hx, hy⟩ := vB_yes hb
    obtain ⟨tz, tok, tn⟩ := en_text hx hy
    rw [← tn] at hN
    have HN := Lib.hid hN
    have H1 := Lib.hid (fun w d => aid.quiet_left (signed8 x hx (World.drewN w d)))
    have H2 := Lib.hid (fun w d => aid.quiet_left (signed8 y hy (World.drewN w d)))
    have H3 := Lib.hid (fun w d => aid.quiet_left (number _ (World.drewN w d) (by rw [tz]; omega) tok))
    have z1 := sg_size x
    have z2 := sg_size y
    rw [hb] at hv HN
    have HV := Lib.hid hv
    clear hv hb hx hy hN tn tok tz
    generalize sgT x = A at *
    generalize sgT y = B at *
    have l1 : ¬ 9223372036854775807 < A.size + B.size := by omega
    have l2 : ¬ 9223372036854775807 < (A ++ B).size + 2 := by rw [ByteArray.size_append]; omega
    go_enter Tryd.func8, Tryd.ntmps8
    go_wp2_with fail
    generalize w.alloc (.cells #[.int .i64 x, .int .i64 y] 25) = W at *
    refine (HV.out _).mono ?_
    rintro e w1 ⟨rfl, hb1⟩
    have B1 := Lib.hid (B0.out.old hb1)
    have c0 : w1.cell? ⟨w.heap.size, 0, none⟩ = some (.int .i64 x) := B1.out.cell 0
    have c1 : w1.cell? ⟨w.heap.size, 1, none⟩ = some (.int .i64 y) := B1.out.cell 1
    clear hb1
    go_wp2_with fail
    go_quiet (first
      | (go_at_call 26; first | (with_reducible exact H1.out _ _) | (with_reducible exact H2.out _ _))
      | (go_at_call 25; with_reducible exact H3.out _ _))
    go_wp2_with fail
    go_ret2
    exact ⟨congrArg Ending.returned HN.out, aid.below_drewN B1.out.1 _⟩
end Go.Proofs.YtdeghpihcddlgaaDoor.velt
