/- impl's ReceiveAll. -/
import Derived.Test.YtdjcbfeilkepmaaRcvU
import Derived.Lib.SliceRun
namespace Go.Proofs.Ytdjcbfeilkepmaa.rcvv
open Go.RowKit Go.Proofs.Ytdjcbfeilkepmaa.pos Go.Proofs.Ytdjcbfeilkepmaa.in_ Go.Proofs.Ytdjcbfeilkepmaa.rcv Go.Proofs.Ytdjcbfeilkepmaa.rcvm Go.Proofs.Ytdjcbfeilkepmaa.ats Go.Proofs.Ytdjcbfeilkepmaa.lst Go.Proofs.Ytdjcbfeilkepmaa.rcvg Go.Proofs.Ytdjcbfeilkepmaa.rcvk Go.Proofs.Ytdjcbfeilkepmaa.rcvp Go.Proofs.Ytdjcbfeilkepmaa.rcvt Go.Proofs.Ytdjcbfeilkepmaa.rcvr Go.Proofs.Ytdjcbfeilkepmaa.rcvu

theorem cap_le {w : World} {B e s n g c : Nat} {xs : List Value} (h : w.ownsRow B e s (.slice (some ⟨g, 0, none⟩) n c) n xs) : n ≤ c := by
  rcases h.2 with ⟨h0, _⟩ | ⟨g', cap, cur, hv, _, _, hnc, _⟩
  · cases h0
  · injection hv with e1 e2 e3
    omega
set_option maxRecDepth 100000 in
set_option maxHeartbeats 8000000 in
theorem cloneH (hs : List Hd) (b o c : Nat) (w : World) (hn : hs.length ≤ 1048576) (h : RdH w w.heap.size (some ⟨b, o, none⟩) hs) :
    Calls Try.prog 106 #[.slice (some ⟨b, o, none⟩) hs.length c] w fun e w' => ∃ g cc, e = .returned (.slice (some ⟨g, 0, none⟩) hs.length cc) ∧ w'.ownsRow w.heap.size 137 10 (.slice (some ⟨g, 0, none⟩) hs.length cc) hs.length (rows hs) ∧ Below w.heap.size w w' := by
  obtain ⟨i0, hi, hz0, hz1, hz2⟩ := info_parts infoH
  have O0 := own_emptyZ w 137 10
  have HB := Lib.hid ((Below.refl w.heap.size w).alloc (Nat.le_refl _) (.cells #[] 137))
  have HS := Lib.hid (show ∀ j u, (rows hs)[j]? = some u → (w.alloc (.cells #[] 137)).cell? ((⟨b, o, none⟩ : Addr).add j) = some u from fun j u hu => by
    rcases Nat.eq_zero_or_pos hs.length with h0 | h0
    · rw [List.eq_nil_of_length_eq_zero (show (rows hs).length = 0 by rw [rows_length, h0])] at hu
      simp at hu
    · obtain ⟨b', o', e, hlt, hc⟩ := h.2 h0
      obtain ⟨rfl, rfl⟩ : b = b' ∧ o = o' := by injection e with e; injection e with e1 e2; exact ⟨e1, e2⟩
      rw [Addr.add_lit]
      exact (HB.out.cell (p := ⟨b, o + j, none⟩) hlt).trans (hc j u hu))
  have HL := Lib.hid (rows_length hs)
  have hsz : w.heap.size ≤ (w.alloc (.cells #[] 137)).heap.size := by rw [World.size_alloc]; omega
  clear h
  generalize hN : hs.length = n at *
  have q28 : ∀ (w : World) (a : Option Addr) (n c n' c' : Nat), (binOp .eql 69 (.slice a n c) (.slice none n' c')).run Try.prog w = .ok (.bool a.isNone) w := fun w a n c n' c' => Lib.run_eql_slice_nil w _ _ a n c n' c' Try.underlying69
  go_enter Try.func106, Try.ntmps106
  go_wp2_with (at_builtin; refine wpList_append_own _ rfl (.tmp 5) (.tmp 6) 69 rfl w.heap.size 137 i0 (hv zero) 10 80 Try.underlying69 hi hz0 hz1 hz2 rfl (by decide) _ 0 [] rfl O0 ⟨b, o, none⟩ n c (rows hs) rfl HL.out HS.out (rows_one_cell _) (by unfold maxLen; omega) (by omega) hsz ?_; intro v' w3 hown' hgrow hnil)
  have BX := Lib.hid (HB.out.grown hgrow hsz (own_.row_ge O0))
  rw [Nat.zero_add, List.nil_append] at hown'
  have hne : ¬ v' = .slice none 0 0 := fun e => by
    have := (hnil.1 e).1
    cases this
  rcases hown'.2 with ⟨e, _⟩ | ⟨g, cap, cur, e, _⟩
  · exact absurd e hne
  · subst e
    have OX := Lib.hid hown'
    clear hown' hgrow hnil hne O0
    go_ret
    exact ⟨g, cap, rfl, OX.out, BX.out⟩

set_option maxRecDepth 100000 in
set_option maxHeartbeats 8000000 in
theorem receiveAll (m : Int) (hs : List Hd) (xs : List ByteArray) (t : Int) (b o c k0 : Nat) (A : Option Addr) (w : World) (hn : hs.length ≤ 1048576) (h : RdH w w.heap.size (some ⟨b, o, none⟩) hs) (hx : strs.Rd w w.heap.size A xs.length xs) :
    Calls Try.prog 42 #[.agg #[.int .i64 m, .slice (some ⟨b, o, none⟩) hs.length c], .slice A xs.length k0, .int .i64 t] w
      fun e w' => ∃ v, e = .returned (.tuple #[.agg #[.int .i64 (raV m hs xs t).1, v], .int .i64 (raV m hs xs t).2.2, .bool (raB m hs xs.length t)]) ∧ w'.ownsRow w.heap.size 137 10 v (raV m hs xs t).2.1.length (rows (raV m hs xs t).2.1) ∧ Below w.heap.size w w' := by
  have B4 := Lib.hid ((newS 71 #[.int .i64 m, .slice (some ⟨b, o, none⟩) hs.length c] w).alloc (.cells #[.int .i64 0, .slice none 0 0] 71))
  have R4 := (newS 71 #[.int .i64 m, .slice (some ⟨b, o, none⟩) hs.length c] w).next 71 #[.int .i64 0, .slice none 0 0]
  rw [World.size_alloc] at R4
  have R4 := Lib.hid R4
  have CG := fun W (hb : Below w.heap.size w W) => rcvb.canGoOn m hs t (some ⟨b, o, none⟩) c W (by omega) (h.next hb)
  have CH := Lib.hid (fun W (hb : Below w.heap.size w W) => cloneH hs b o c W hn (h.next hb))
  have RK := Lib.hid (fun (hv : vB m hs = true) => raK_ok t xs hv)
  have SPR := Lib.hid (fun (q : Int × List Hd × Int) (hq : vB q.1 q.2.1 = true) (s : ByteArray) g c W (hc : q.2.1.length ≤ c) (h : RdH W W.heap.size (some ⟨g, 0, none⟩) q.2.1) => rcvp.receive q.1 q.2.1 s t g 0 c W (Nat.le_trans (v_parts hq).2.1 (by omega)) hc h)
  have RS := Lib.hid (fun k s (h : xs[k]? = some s) => raK_succ t m hs h)
  have R00 := Lib.hid (raK_zero t m hs xs)
  have HX := Lib.hid hx
  have NO := Lib.hid (fun h => ra_no (m := m) (hs := hs) (xs := xs) (t := t) h)
  have YE := Lib.hid (fun h => ra_yes (m := m) (hs := hs) (xs := xs) (t := t) h)
  have GB := Lib.hid (show raB m hs xs.length t = (goB m hs t && decide (xs.length ≤ 20)) from rfl)
  clear h hn hx
  generalize hN : hs.length = n at *
  have HN := Lib.hid hN
  clear hN
  generalize hNX : xs.length = nx at *
  have HNX := Lib.hid hNX
  clear hNX
  cases hg : goB m hs t
  · rw [hg] at CG
    have CG := Lib.hid CG
    have HB := Lib.hid (show raB m hs nx t = false by rw [GB.out, hg]; rfl)
    have HP := Lib.hid (NO.out HB.out)
    clear hg NO YE GB RS RK SPR R00 HX CH
    go_enter Try.func42, Try.ntmps42
    go_upto_region 1 with fail
    generalize (w.alloc (.cells #[.int .i64 m, .slice (some ⟨b, o, none⟩) n c] 71)).alloc (.cells #[.int .i64 0, .slice none 0 0] 71) = V4 at *
    have b0 : V4.cell? ⟨w.heap.size, 0, none⟩ = some (.int .i64 m) := B4.out.cell 0
    have b1 : V4.cell? ⟨w.heap.size, 1, none⟩ = some (.slice (some ⟨b, o, none⟩) n c) := B4.out.cell 1
    go_wp2_with fail
    refine (CG.out _ B4.out.1).mono ?_
    rintro e V5 ⟨rfl, hb5⟩
    have R := Lib.hid (R4.out.old hb5)
    clear b0 b1
    have r0 : V5.cell? ⟨w.heap.size + 1, 0, none⟩ = some (.int .i64 0) := R.out.cell 0
    have r1 : V5.cell? ⟨w.heap.size + 1, 1, none⟩ = some (.slice none 0 0) := R.out.cell 1
    have rf0 := R.out.frozen 0
    have rf1 := R.out.frozen 1
    have HE := Lib.hid ((R.out.set 0 (.int .i64 0)).set 1 (.slice none 0 0))
    go_wp2_with fail
    have hl := HE.out.load Try.underlying71 rfl (by kernel_rfl)
    refine bodyPost_ret (v := .tuple #[.agg #[.int .i64 0, .slice none 0 0], .int .i64 0, .bool false]) ?_ rfl ⟨_, by rw [HP.out, HB.out], by rw [HP.out]; exact own_nil _ _ _ _, HE.out.1⟩
    rw [results_ctt rfl]
    simp [asAddr, Result.andThen, hl]
  rw [hg] at CG
  have CG := Lib.hid CG
  by_cases h20 : 20 < nx
  · have g1 : 20 < (nx : Int) := by omega
    have HB := Lib.hid (show raB m hs nx t = false by rw [GB.out, hg, decide_eq_false (show ¬ nx ≤ 20 by omega)]; rfl)
    have HP := Lib.hid (NO.out HB.out)
    clear hg NO YE GB RS RK SPR R00 HX CH h20
    go_enter Try.func42, Try.ntmps42
    go_upto_region 1 with fail
    generalize (w.alloc (.cells #[.int .i64 m, .slice (some ⟨b, o, none⟩) n c] 71)).alloc (.cells #[.int .i64 0, .slice none 0 0] 71) = V4 at *
    have b0 : V4.cell? ⟨w.heap.size, 0, none⟩ = some (.int .i64 m) := B4.out.cell 0
    have b1 : V4.cell? ⟨w.heap.size, 1, none⟩ = some (.slice (some ⟨b, o, none⟩) n c) := B4.out.cell 1
    go_wp2_with fail
    refine (CG.out _ B4.out.1).mono ?_
    rintro e V5 ⟨rfl, hb5⟩
    have R := Lib.hid (R4.out.old hb5)
    clear b0 b1
    have r0 : V5.cell? ⟨w.heap.size + 1, 0, none⟩ = some (.int .i64 0) := R.out.cell 0
    have r1 : V5.cell? ⟨w.heap.size + 1, 1, none⟩ = some (.slice none 0 0) := R.out.cell 1
    have rf0 := R.out.frozen 0
    have rf1 := R.out.frozen 1
    have HE := Lib.hid ((R.out.set 0 (.int .i64 0)).set 1 (.slice none 0 0))
    go_wp2_with fail
    have hl := HE.out.load Try.underlying71 rfl (by kernel_rfl)
    refine bodyPost_ret (v := .tuple #[.agg #[.int .i64 0, .slice none 0 0], .int .i64 0, .bool false]) ?_ rfl ⟨_, by rw [HP.out, HB.out], by rw [HP.out]; exact own_nil _ _ _ _, HE.out.1⟩
    rw [results_ctt rfl]
    simp [asAddr, Result.andThen, hl]
  have g1 : ¬ 20 < (nx : Int) := by omega
  have HB := Lib.hid (show raB m hs nx t = true by rw [GB.out, hg, decide_eq_true (show nx ≤ 20 by omega)]; rfl)
  have RK := Lib.hid (RK.out (go_val hg))
  have HP := Lib.hid (YE.out HB.out)
  have hn20 : nx ≤ 20 := by omega
  clear hg NO GB
  go_enter Try.func42, Try.ntmps42
  go_upto_region 1 with fail
  generalize (w.alloc (.cells #[.int .i64 m, .slice (some ⟨b, o, none⟩) n c] 71)).alloc (.cells #[.int .i64 0, .slice none 0 0] 71) = V4 at *
  have b0 : V4.cell? ⟨w.heap.size, 0, none⟩ = some (.int .i64 m) := B4.out.cell 0
  have b1 : V4.cell? ⟨w.heap.size, 1, none⟩ = some (.slice (some ⟨b, o, none⟩) n c) := B4.out.cell 1
  go_wp2_with fail
  refine (CG.out _ B4.out.1).mono ?_
  rintro e V5 ⟨rfl, hb5⟩
  have B5 := Lib.hid (B4.out.old hb5)
  have R5 := Lib.hid (R4.out.old hb5)
  clear b0 b1 B4 R4 CG hb5
  go_upto_region 3 with fail
  go_cut [9] from 24 to 30 (fun p9 wz => ∃ g cc p, p9 = .pointer (some ⟨p, 0, none⟩) ∧ AtS 71 #[.int .i64 m, .slice (some ⟨g, 0, none⟩) n cc] w wz p ∧ n ≤ cc ∧ wz.ownsRow (w.heap.size + 1 + 1) 137 10 (.slice (some ⟨g, 0, none⟩) n cc) n (rows hs) ∧ AtS 71 #[.int .i64 0, .slice none 0 0] w wz (w.heap.size + 1) ∧ g ≠ p ∧ w.heap.size + 1 + 1 ≤ p)
  case first =>
    have GE := Lib.hid (show w.heap.size + 1 + 1 ≤ V5.heap.size by have := R5.out.2.2.1; omega)
    have NZ := Lib.hid (B5.out.next 71 #[.int .i64 0, .slice none 0 0]).drew
    have BLT := Lib.hid (show w.heap.size < V5.heap.size by have := GE.out; omega)
    have q0 : V5.cell? ⟨w.heap.size, 0, none⟩ = some (.int .i64 m) := B5.out.cell 0
    have q1 : V5.cell? ⟨w.heap.size, 1, none⟩ = some (.slice (some ⟨b, o, none⟩) n c) := B5.out.cell 1
    have CS := Lib.hid (show ∀ WZ : World, Below V5.heap.size V5 WZ → WZ.cell? ⟨w.heap.size, 0, none⟩ = some (.int .i64 m) ∧ WZ.cell? ⟨w.heap.size, 1, none⟩ = some (.slice (some ⟨b, o, none⟩) n c) from fun WZ hz =>
      ⟨(hz.cell (p := ⟨w.heap.size, 0, none⟩) BLT.out).trans q0, (hz.cell (p := ⟨w.heap.size, 1, none⟩) BLT.out).trans q1⟩)
    have CH5 := Lib.hid (fun W (hb : Below V5.heap.size V5 W) => CH.out W (B5.out.old hb).1)
    clear q0 q1
    go_region_held3 (fun w' => w'.cell? ⟨w.heap.size, 0, none⟩ = some (.int .i64 m) ∧ w'.cell? ⟨w.heap.size, 1, none⟩ = some (.slice (some ⟨b, o, none⟩) n c)) (first
      | exact CS.out _ (Below.refl V5.heap.size V5).drew
      | exact CS.out _ (by assumption)
      | exact CS.out _ (Below.alloc (by assumption) (Below.size (by assumption)) _)
      | exact CS.out _ (((by assumption : Below V5.heap.size V5 _).setCell (p := ⟨V5.heap.size, 0, none⟩) (Nat.le_refl _) _).setCell (p := ⟨V5.heap.size, 1, none⟩) (Nat.le_refl _) _)
      | exact CS.out _ ((Below.refl V5.heap.size V5).alloc (Nat.le_refl _) _).drew) (first
      | (go_at_call 106; (with_reducible refine (CH5.out _ ((Below.refl V5.heap.size V5).drew)).mono ?_); rintro e V9 ⟨g9, c9, rfl, o9, hb9⟩
         have hbl9 : Below V5.heap.size V5 V9 := posx.bl_next (V := V5) ((Below.refl V5.heap.size V5).drew) hb9
         have O9 := Lib.hid o9
         clear o9 hb9)
      | (go_at_call 106; (with_reducible refine (CH5.out _ (((Below.refl V5.heap.size V5).alloc (Nat.le_refl _) _).drew)).mono ?_); rintro e V9 ⟨g9, c9, rfl, o9, hb9⟩
         have hbl9 : Below V5.heap.size V5 V9 := posx.bl_next (V := V5) (((Below.refl V5.heap.size V5).alloc (Nat.le_refl _) _).drew) hb9
         have O9 := Lib.hid o9
         have N9 := Lib.hid (NZ.out.old hb9)
         have n0 : V9.cell? ⟨V5.heap.size, 0, none⟩ = some (.int .i64 0) := N9.out.cell 0
         have n1 : V9.cell? ⟨V5.heap.size, 1, none⟩ = some (.slice none 0 0) := N9.out.cell 1
         have nf0 := N9.out.frozen 0
         have nf1 := N9.out.frozen 1
         clear o9 hb9))
    · have hsz9 := hbl9.size
      have hge := GE.out
      have hsd : V5.drew.heap.size = V5.heap.size := rfl
      have hg9 : g9 < V9.heap.size := own_row_lt O9.out g9 rfl
      have BA := hbl9.alloc hbl9.size (.cells #[.int .i64 m, .slice (some ⟨g9, 0, none⟩) n c9] 71)
      go_wp2_with fail
      go_meet
      exact ⟨g9, c9, V9.heap.size, rfl, (B5.out.old hbl9).next 71 #[.int .i64 m, .slice (some ⟨g9, 0, none⟩) n c9], cap_le O9.out, own_.own_base (O9.out.alloc _) (by omega), R5.out.old BA, by omega, by omega⟩
    · have hsz9 := hbl9.size
      have hge := GE.out
      have hsu : (V5.alloc (.cells #[.int .i64 0, .slice none 0 0] 71)).drew.heap.size = V5.heap.size + 1 := World.size_alloc _ _
      have hq1 : V5.heap.size + 1 ≤ g9 := Nat.le_trans (Nat.le_of_eq hsu.symm) (own_.row_ge O9.out g9 rfl)
      have hne9 : g9 ≠ V5.heap.size := by omega
      have BA := (hbl9.setCell (p := ⟨V5.heap.size, 0, none⟩) (Nat.le_refl _) (.int .i64 m)).setCell (p := ⟨V5.heap.size, 1, none⟩) (Nat.le_refl _) (.slice (some ⟨g9, 0, none⟩) n c9)
      have X9 := Lib.hid ((N9.out.set 0 (.int .i64 m)).set 1 (.slice (some ⟨g9, 0, none⟩) n c9))
      have hcc9 := cap_le O9.out
      have OA := own_.own_base (rcvr.own_away (rcvr.own_away O9.out hne9 0 (.int .i64 m)) hne9 1 (.slice (some ⟨g9, 0, none⟩) n c9)) (show w.heap.size + 1 + 1 ≤ _ by omega)
      go_wp2_with fail
      go_meet
      exact ⟨g9, c9, V5.heap.size, rfl, X9.out, hcc9, OA, R5.out.old BA, hne9, by omega⟩
  case rest =>
    obtain ⟨g, cc, p, rfl, hq, hcc, ho, hz, hne, hp⟩ := hcut
    have P0 := Lib.hid (show Got (raK t m hs xs 0) p w wc by
      rw [R00.out]
      exact ⟨g, cc, by rw [HN.out]; exact hq, by rw [HN.out]; exact ho, hz, hne, hp⟩)
    clear hq ho hz B5 R5 CH
    go_wp2_with fail
    go_loopw [10, 33] (fun cn i wr => ∃ k : Nat, k ≤ nx ∧ i = .int .i64 (k : Nat) ∧ cn = .int .i64 (raK t m hs xs k).2.2 ∧ Got (raK t m hs xs k) p w wr) (fun _ i _ => nx - (intOf i).toNat)
    case atStart => exact ⟨0, Nat.zero_le _, rfl, by rw [R00.out], P0.out⟩
    case round =>
      obtain ⟨k, hk, rfl, rfl, g2, c6, hq, ho, hz, hne, hp⟩ := hrel
      clear P0
      by_cases hlt : k < nx
      · obtain ⟨b1, o1, s, rfl, hbl, hsx, e1⟩ := (HX.out.below hq.1 (Nat.le_refl _)).at_ hlt
        have HS := Lib.hid (RS.out k s hsx)
        obtain ⟨v1, v2, v3⟩ := RK.out k hk
        generalize raK t m hs xs k = q at *
        have q0 : wr.cell? ⟨p, 0, none⟩ = some (.int .i64 q.1) := hq.cell 0
        have q1 : wr.cell? ⟨p, 1, none⟩ = some (.slice (some ⟨g2, 0, none⟩) q.2.1.length c6) := hq.cell 1
        have PLT := Lib.hid (show p < wr.heap.size from hq.2.2.1)
        have SPW := Lib.hid (SPR.out q v1 s g2 c6 wr (cap_le ho) (RdH.of_own ho rfl))
        have hltI : (k : Int) < (nx : Int) := by omega
        have WR1 : IntKind.i64.wrap (q.2.2 + 1) = q.2.2 + 1 := IntWalk.i64_in _ (by omega)
        have HQ := Lib.hid hq
        have HO := Lib.hid ho
        have HZ := Lib.hid hz
        have RP := Lib.hid (fun (h : rcB q.1 q.2.1 s t = true) => rc_pos h)
        clear hq ho hz v1 hsx hbl RS RK SPR HX YE
        go_wp2_with fail
        refine SPW.out.mono ?_
        rintro e V9 ⟨v9, rfl, o9, hb9⟩
        cases hb : rcB q.1 q.2.1 s t
        · have HB0 := Lib.hid hb
          obtain ⟨A9, c9, rfl⟩ := own_sliceZ o9
          have BX := Lib.hid (hb9.alloc hb9.size (.cells #[.int .i64 (rcM q.1 q.2.1 s t), .slice A9 (rcL q.1 q.2.1 s t).length c9] 71))
          have QA := Lib.hid (HQ.out.old BX.out)
          have ZA := Lib.hid (HZ.out.old BX.out)
          have OQ := Lib.hid (own_.own_below HO.out BX.out)
          clear o9 hb9 HQ HO HZ SPW q0 q1 e1 hb RP
          go_wp2_with fail
          go_roundw
          case rel => exact ⟨k + 1, by omega, by go_num, by rw [HS.out, stp_no HB0.out], by rw [HS.out, stp_no HB0.out]; exact ⟨g2, c6, QA.out, OQ.out, ZA.out, hne, hp⟩⟩
          case measure => simp [intOf]; omega
        · have HB0 := Lib.hid hb
          obtain ⟨g9, c9, rfl, hg9⟩ := own_pos o9 (RP.out hb)
          have hplt := PLT.out
          have G9 := own_row_lt o9 g9 rfl
          have hq1 : wr.heap.size ≤ g9 := own_.row_ge o9 g9 rfl
          have hsz9 := hb9.size
          have BX := Lib.hid (hb9.alloc hb9.size (.cells #[.int .i64 (rcM q.1 q.2.1 s t), .slice (some ⟨g9, 0, none⟩) (rcL q.1 q.2.1 s t).length c9] 71))
          have QA := Lib.hid (HQ.out.old BX.out)
          have ZA := Lib.hid (HZ.out.old BX.out)
          have OQ := Lib.hid (own_.own_below HO.out BX.out)
          have NA := Lib.hid ((HQ.out.old hb9).next 71 #[.int .i64 (rcM q.1 q.2.1 s t), .slice (some ⟨g9, 0, none⟩) (rcL q.1 q.2.1 s t).length c9])
          have OA := Lib.hid (own_.own_base (own_.own_below o9 ((Below.refl _ _).alloc (Nat.le_refl _) (.cells #[.int .i64 (rcM q.1 q.2.1 s t), .slice (some ⟨g9, 0, none⟩) (rcL q.1 q.2.1 s t).length c9] 71))) (show w.heap.size + 1 + 1 ≤ wr.heap.size by omega))
          clear o9 hb9 HQ HO HZ SPW q0 q1 e1 hb RP
          go_upto_region 10 with fail
          generalize V9.alloc (.cells #[.int .i64 (rcM q.1 q.2.1 s t), .slice (some ⟨g9, 0, none⟩) (rcL q.1 q.2.1 s t).length c9] 71) = VA at *
          have x0 : VA.cell? ⟨p, 0, none⟩ = some (.int .i64 q.1) := QA.out.cell 0
          have x1 : VA.cell? ⟨p, 1, none⟩ = some (.slice (some ⟨g2, 0, none⟩) q.2.1.length c6) := QA.out.cell 1
          have xf0 := QA.out.frozen 0
          have xf1 := QA.out.frozen 1
          have y0 := NA.out.cell 0
          have y1 := NA.out.cell 1
          have Q2 := Lib.hid ((QA.out.set 0 (.int .i64 (rcM q.1 q.2.1 s t))).set 1 (.slice (some ⟨g9, 0, none⟩) (rcL q.1 q.2.1 s t).length c9))
          have Z2 := Lib.hid ((ZA.out.other (b' := p) (by omega) (by omega) 0 (.int .i64 (rcM q.1 q.2.1 s t))).other (b' := p) (by omega) (by omega) 1 (.slice (some ⟨g9, 0, none⟩) (rcL q.1 q.2.1 s t).length c9))
          have O2 := Lib.hid (rcvr.own_away (rcvr.own_away OA.out (show g9 ≠ p by omega) 0 (.int .i64 (rcM q.1 q.2.1 s t))) (show g9 ≠ p by omega) 1 (.slice (some ⟨g9, 0, none⟩) (rcL q.1 q.2.1 s t).length c9))
          clear QA ZA NA OA OQ
          go_wp2_with fail
          go_roundw
          case rel => exact ⟨k + 1, by omega, by go_num, by rw [HS.out, stp_yes HB0.out], by rw [HS.out, stp_yes HB0.out]; exact ⟨g9, c9, Q2.out, O2.out, Z2.out, by omega, hp⟩⟩
          case measure => simp [intOf]; omega
      · have hkn : k = nx := by omega
        have HV := Lib.hid (show raV m hs xs t = raK t m hs xs k by rw [HP.out, hkn])
        have d1 : decide (k < nx) = false := decide_eq_false hlt
        have d2 : decide ((k : Int) < (nx : Int)) = false := decide_eq_false (by omega)
        clear HP RS RK SPR HX YE hkn
        generalize raK t m hs xs k = q at *
        have q0 : wr.cell? ⟨p, 0, none⟩ = some (.int .i64 q.1) := hq.cell 0
        have q1 : wr.cell? ⟨p, 1, none⟩ = some (.slice (some ⟨g2, 0, none⟩) q.2.1.length c6) := hq.cell 1
        have r0 : wr.cell? ⟨w.heap.size + 1, 0, none⟩ = some (.int .i64 0) := hz.cell 0
        have r1 : wr.cell? ⟨w.heap.size + 1, 1, none⟩ = some (.slice none 0 0) := hz.cell 1
        have rf0 := hz.frozen 0
        have rf1 := hz.frozen 1
        have HE := Lib.hid ((hz.set 0 (.int .i64 q.1)).set 1 (.slice (some ⟨g2, 0, none⟩) q.2.1.length c6))
        have O9 := Lib.hid (own_setbox (own_setbox ho (Nat.lt_succ_self _) 0 (.int .i64 q.1)) (Nat.lt_succ_self _) 1 (.slice (some ⟨g2, 0, none⟩) q.2.1.length c6))
        clear hq ho hz
        go_wp2_with fail
        have hl := HE.out.load Try.underlying71 rfl (by kernel_rfl)
        refine bodyPost_ret (v := .tuple #[.agg #[.int .i64 q.1, .slice (some ⟨g2, 0, none⟩) q.2.1.length c6], .int .i64 q.2.2, .bool true]) ?_ rfl ⟨_, by rw [HV.out, HB.out], by rw [HV.out]; exact own_.own_base O9.out (by omega), HE.out.1⟩
        rw [results_ctt rfl]
        simp [asAddr, Result.andThen, hl]
end Go.Proofs.Ytdjcbfeilkepmaa.rcvv
