/- spec's ReceiveAll. -/
import Derived.Test.YtdjcbfeilkepmaaRcvT
import Derived.Test.YtdjcbfeilkepmaaStrs
import Derived.Test.YtdjcbfeilkepmaaPosX
namespace Go.Proofs.Ytdjcbfeilkepmaa.rcvu
open Go.RowKit Go.Proofs.Ytdjcbfeilkepmaa.pos Go.Proofs.Ytdjcbfeilkepmaa.in_ Go.Proofs.Ytdjcbfeilkepmaa.rcv Go.Proofs.Ytdjcbfeilkepmaa.rcvm Go.Proofs.Ytdjcbfeilkepmaa.ats Go.Proofs.Ytdjcbfeilkepmaa.lst Go.Proofs.Ytdjcbfeilkepmaa.rcvg Go.Proofs.Ytdjcbfeilkepmaa.rcvk Go.Proofs.Ytdjcbfeilkepmaa.rcvp Go.Proofs.Ytdjcbfeilkepmaa.rcvt Go.Proofs.Ytdjcbfeilkepmaa.rcvr

theorem rc_pos {m : Int} {hs : List Hd} {s : ByteArray} {t : Int} (h : rcB m hs s t = true) : 0 < (rcL m hs s t).length := by
  rw [(rc_yes h).2]
  unfold rL
  split <;> simp <;> omega
theorem results_ctt {fn : Func} {p u v : Tmp} {ty : TypeId} (h : fn.results = #[.cell p ty, .tmp u, .tmp v]) (tmps : Array Value) (P : Program) (w : World) :
    (results fn tmps).run P w = ((asAddr (tmps.getD p undef)).run P w).andThen fun a w₁ => ((loadVar ty a).run P w₁).andThen fun x w₂ => .ok (.tuple #[x, tmps.getD u undef, tmps.getD v undef]) w₂ := by
  simp only [results, h]
  simp [Sem.run_bind, Result.andThen]

/-- The list that is being made, in the box p. -/
def Got (q : Int × List Hd × Int) (p : Nat) (w wz : World) : Prop := ∃ g c, AtS 71 #[.int .i64 q.1, .slice (some ⟨g, 0, none⟩) q.2.1.length c] w wz p ∧ wz.ownsRow (w.heap.size + 1 + 1) 137 10 (.slice (some ⟨g, 0, none⟩) q.2.1.length c) q.2.1.length (rows q.2.1) ∧ AtS 71 #[.int .i64 0, .slice none 0 0] w wz (w.heap.size + 1) ∧ g ≠ p ∧ w.heap.size + 1 + 1 ≤ p

set_option maxRecDepth 100000 in
set_option maxHeartbeats 8000000 in
theorem receiveAll (m : Int) (hs : List Hd) (xs : List ByteArray) (t : Int) (b o c k0 : Nat) (A : Option Addr) (w : World) (hn : hs.length ≤ 1048576) (hsz : ∀ (k : Nat) (s : ByteArray), xs[k]? = some s → s.size ≤ maxLen) (h : RdH w w.heap.size (some ⟨b, o, none⟩) hs) (hx : strs.Rd w w.heap.size A xs.length xs) :
    Calls Try.prog 39 #[.agg #[.int .i64 m, .slice (some ⟨b, o, none⟩) hs.length c], .slice A xs.length k0, .int .i64 t] w
      fun e w' => ∃ v, e = .returned (.tuple #[.agg #[.int .i64 (raV m hs xs t).1, v], .int .i64 (raV m hs xs t).2.2, .bool (raB m hs xs.length t)]) ∧ w'.ownsRow w.heap.size 137 10 v (raV m hs xs t).2.1.length (rows (raV m hs xs t).2.1) ∧ Below w.heap.size w w' := by
  have B0 := Lib.hid ((newS 71 #[.int .i64 m, .slice (some ⟨b, o, none⟩) hs.length c] w).alloc (.cells #[.int .i64 0, .slice none 0 0] 71))
  have R0 := Lib.hid ((newS 71 #[.int .i64 m, .slice (some ⟨b, o, none⟩) hs.length c] w).next 71 #[.int .i64 0, .slice none 0 0])
  rw [World.size_alloc] at R0
  have GV := Lib.hid (fun W (hb : Below w.heap.size w W) => rcva.good9 m hs (some ⟨b, o, none⟩) c W (by omega) (h.next hb))
  have MI := Lib.hid (fun W => rcva.minute9 t W)
  have OW := Lib.hid (fun W (hb : Below w.heap.size w W) => rcvr.own9 m hs m b o c W hn (h.next hb))
  have RK := Lib.hid (fun (hv : vB m hs = true) => raK_ok t xs hv)
  have SPR := Lib.hid (fun (q : Int × List Hd × Int) (hq : vB q.1 q.2.1 = true) (s : ByteArray) (hs : s.size ≤ maxLen) g c W (h : RdH W W.heap.size (some ⟨g, 0, none⟩) q.2.1) => rcvs.receive q.1 q.2.1 s t g 0 c W (Nat.le_trans (v_parts hq).2.1 (by omega)) hs h)
  have RS := Lib.hid (fun k s (h : xs[k]? = some s) => raK_succ t m hs h)
  have R00 := Lib.hid (raK_zero t m hs xs)
  have HX := Lib.hid hx
  have SZ := Lib.hid hsz
  have NO := Lib.hid (fun h => ra_no (m := m) (hs := hs) (xs := xs) (t := t) h)
  have YE := Lib.hid (fun h => ra_yes (m := m) (hs := hs) (xs := xs) (t := t) h)
  have GB := Lib.hid (show raB m hs xs.length t = ((vB m hs && (isIn t 0 9999 && decide (m ≤ t))) && decide (xs.length ≤ 20)) from rfl)
  clear h hn hsz hx
  generalize hN : hs.length = n at *
  have HN := Lib.hid hN
  clear hN
  generalize hNX : xs.length = nx at *
  have HNX := Lib.hid hNX
  clear hNX
  generalize hbv : vB m hs = bv at *
  generalize isIn t 0 9999 = bt at *
  clear hbv
  go_enter Try.func39, Try.ntmps39
  go_upto_region 1 with fail
  generalize (w.alloc (.cells #[.int .i64 m, .slice (some ⟨b, o, none⟩) n c] 71)).alloc (.cells #[.int .i64 0, .slice none 0 0] 71) = V4 at *
  have B4 := B0
  have R4 := R0
  clear B0 R0
  have b0 : V4.cell? ⟨w.heap.size, 0, none⟩ = some (.int .i64 m) := B4.out.cell 0
  have b1 : V4.cell? ⟨w.heap.size, 1, none⟩ = some (.slice (some ⟨b, o, none⟩) n c) := B4.out.cell 1
  go_cut [32] from 14 to 32 (fun s wx => (∃ bb, s = .bool bb ∧ bb = !(bv && (decide (nx ≤ 20) && (bt && decide (m ≤ t))))) ∧ AtS 71 #[.int .i64 m, .slice (some ⟨b, o, none⟩) n c] w wx w.heap.size ∧ AtS 71 #[.int .i64 0, .slice none 0 0] w wx (w.heap.size + 1))
  case first =>
    clear OW RK SPR RS R00 HX SZ NO YE GB
    cases bv
    · go_wp2_with fail
      refine (GV.out _ B4.out.1).mono ?_
      rintro e V5 ⟨rfl, hb5⟩
      have PL := Lib.hid (show AtS 71 #[.int .i64 m, .slice (some ⟨b, o, none⟩) n c] w V5 w.heap.size ∧ AtS 71 #[.int .i64 0, .slice none 0 0] w V5 (w.heap.size + 1) from ⟨B4.out.old hb5, R4.out.old hb5⟩)
      have e0 : V5.cell? ⟨w.heap.size, 0, none⟩ = some (.int .i64 m) := PL.out.1.cell 0
      clear b0 b1 GV B4 R4 hb5
      go_wp2_with fail
      go_meet
      exact ⟨⟨_, rfl, rfl⟩, PL.out⟩
    · by_cases h20 : nx ≤ 20
      · have z3 : decide ((20 : Int) < (nx : Int)) = false := decide_eq_false (by omega)
        have d3 : decide (nx ≤ 20) = true := decide_eq_true h20
        clear h20
        cases bt
        · go_wp2_with fail
          refine (GV.out _ B4.out.1).mono ?_
          rintro e V5 ⟨rfl, hb5⟩
          have PL := Lib.hid (show AtS 71 #[.int .i64 m, .slice (some ⟨b, o, none⟩) n c] w V5 w.heap.size ∧ AtS 71 #[.int .i64 0, .slice none 0 0] w V5 (w.heap.size + 1) from ⟨B4.out.old hb5, R4.out.old hb5⟩)
          have e0 : V5.cell? ⟨w.heap.size, 0, none⟩ = some (.int .i64 m) := PL.out.1.cell 0
          clear b0 b1 GV B4 R4 hb5
          go_wp2_with fail
          refine (MI.out _).mono ?_
          rintro e w' ⟨rfl, rfl⟩
          go_wp2_with fail
          go_meet
          exact ⟨⟨_, rfl, by rw [d3]; rfl⟩, PL.out⟩
        · by_cases htm : t < m
          · have z1 : decide (t < m) = true := decide_eq_true htm
            have z2 : decide (m ≤ t) = false := decide_eq_false (by omega)
            clear htm
            go_wp2_with fail
            refine (GV.out _ B4.out.1).mono ?_
            rintro e V5 ⟨rfl, hb5⟩
            have PL := Lib.hid (show AtS 71 #[.int .i64 m, .slice (some ⟨b, o, none⟩) n c] w V5 w.heap.size ∧ AtS 71 #[.int .i64 0, .slice none 0 0] w V5 (w.heap.size + 1) from ⟨B4.out.old hb5, R4.out.old hb5⟩)
            have e0 : V5.cell? ⟨w.heap.size, 0, none⟩ = some (.int .i64 m) := PL.out.1.cell 0
            clear b0 b1 GV B4 R4 hb5
            go_wp2_with fail
            refine (MI.out _).mono ?_
            rintro e w' ⟨rfl, rfl⟩
            go_wp2_with fail
            go_meet
            exact ⟨⟨_, rfl, by rw [d3, z2]; first | rfl | (rw [z1]; rfl)⟩, PL.out⟩
          · have z1 : decide (t < m) = false := decide_eq_false htm
            have z2 : decide (m ≤ t) = true := decide_eq_true (by omega)
            clear htm
            go_wp2_with fail
            refine (GV.out _ B4.out.1).mono ?_
            rintro e V5 ⟨rfl, hb5⟩
            have PL := Lib.hid (show AtS 71 #[.int .i64 m, .slice (some ⟨b, o, none⟩) n c] w V5 w.heap.size ∧ AtS 71 #[.int .i64 0, .slice none 0 0] w V5 (w.heap.size + 1) from ⟨B4.out.old hb5, R4.out.old hb5⟩)
            have e0 : V5.cell? ⟨w.heap.size, 0, none⟩ = some (.int .i64 m) := PL.out.1.cell 0
            clear b0 b1 GV B4 R4 hb5
            go_wp2_with fail
            refine (MI.out _).mono ?_
            rintro e w' ⟨rfl, rfl⟩
            go_wp2_with fail
            go_meet
            exact ⟨⟨_, rfl, by rw [d3, z2]; first | rfl | (rw [z1]; rfl)⟩, PL.out⟩
      · have z3 : decide ((20 : Int) < (nx : Int)) = true := decide_eq_true (by omega)
        have d3 : decide (nx ≤ 20) = false := decide_eq_false h20
        clear h20
        go_wp2_with fail
        refine (GV.out _ B4.out.1).mono ?_
        rintro e V5 ⟨rfl, hb5⟩
        have PL := Lib.hid (show AtS 71 #[.int .i64 m, .slice (some ⟨b, o, none⟩) n c] w V5 w.heap.size ∧ AtS 71 #[.int .i64 0, .slice none 0 0] w V5 (w.heap.size + 1) from ⟨B4.out.old hb5, R4.out.old hb5⟩)
        have e0 : V5.cell? ⟨w.heap.size, 0, none⟩ = some (.int .i64 m) := PL.out.1.cell 0
        clear b0 b1 GV B4 R4 hb5
        go_wp2_with fail
        go_meet
        exact ⟨⟨_, rfl, by rw [d3]; first | rfl | (rw [z3]; rfl)⟩, PL.out⟩
  case rest =>
    obtain ⟨⟨bb, rfl, hbb⟩, hB, hR⟩ := hcut
    clear B4 R4 b0 b1 GV MI
    cases bb
    · have hall : (bv && (decide (nx ≤ 20) && (bt && decide (m ≤ t)))) = true := by
        have e := hbb.symm
        rwa [Bool.not_eq_false'] at e
      have hv : bv = true := by revert hall; cases bv <;> simp
      have hn20 : nx ≤ 20 := by
        have e := hall
        rw [Bool.and_eq_true, Bool.and_eq_true] at e
        exact of_decide_eq_true e.2.1
      have HB := Lib.hid (show raB m hs nx t = true by
        rw [GB.out]
        revert hall
        generalize decide (m ≤ t) = d
        generalize decide (nx ≤ 20) = d2
        intro e
        cases bv <;> cases bt <;> cases d <;> cases d2 <;> first | rfl | cases e)
      have RK := Lib.hid (RK.out hv)
      have HP := Lib.hid (YE.out HB.out)
      clear hall hbb NO GB hv
      have b0 : wc.cell? ⟨w.heap.size, 0, none⟩ = some (.int .i64 m) := hB.cell 0
      have b1 : wc.cell? ⟨w.heap.size, 1, none⟩ = some (.slice (some ⟨b, o, none⟩) n c) := hB.cell 1
      have LR := Lib.hid (show w.heap.size + 1 < wc.heap.size from hR.2.2.1)
      go_wp2_with fail
      refine (OW.out _ hB.1).mono ?_
      rintro e V5 ⟨g, c5, rfl, o5, hb5⟩
      have Q5 := Lib.hid ((hB.old hb5).next 71 #[.int .i64 m, .slice (some ⟨g, 0, none⟩) n c5])
      have R5 := Lib.hid ((hR.old hb5).alloc (.cells #[.int .i64 m, .slice (some ⟨g, 0, none⟩) n c5] 71))
      have GP := Lib.hid (own_row_lt o5 g rfl)
      have PB := Lib.hid (show w.heap.size + 1 + 1 ≤ V5.heap.size by have := LR.out; have := hb5.size; omega)
      have O5 := Lib.hid (own_.own_base (own_.own_below o5 ((Below.refl _ _).alloc (Nat.le_refl _) (.cells #[.int .i64 m, .slice (some ⟨g, 0, none⟩) n c5] 71))) (show w.heap.size + 1 + 1 ≤ wc.heap.size by have := LR.out; omega))
      clear hB hR hb5 o5 b0 b1 OW
      go_upto_region 4 with fail
      generalize V5.alloc (.cells #[.int .i64 m, .slice (some ⟨g, 0, none⟩) n c5] 71) = V6 at *
      generalize V5.heap.size = p at *
      have P0 := Lib.hid (show Got (raK t m hs xs 0) p w V6 by
        rw [R00.out]
        exact ⟨g, c5, by rw [HN.out]; exact Q5.out, by rw [HN.out]; exact O5.out, R5.out, by have := GP.out; omega, PB.out⟩)
      clear Q5 R5 O5 GP PB
      go_wp2_with fail
      go_loopw [10, 11] (fun cn i wr => ∃ k : Nat, k ≤ nx ∧ i = .int .i64 (k : Nat) ∧ cn = .int .i64 (raK t m hs xs k).2.2 ∧ Got (raK t m hs xs k) p w wr) (fun _ i _ => nx - (intOf i).toNat)
      case atStart => exact ⟨0, Nat.zero_le _, rfl, by rw [R00.out], P0.out⟩
      case round =>
        obtain ⟨k, hk, rfl, rfl, g2, c6, hq, ho, hz, hne, hp⟩ := hrel
        clear P0
        by_cases hlt : k < nx
        · obtain ⟨b1, o1, s, rfl, hbl, hsx, e1⟩ := (HX.out.below hq.1 (Nat.le_refl _)).at_ hlt
          have HS := Lib.hid (RS.out k s hsx)
          obtain ⟨v1, v2, v3⟩ := RK.out k hk
          have hszs := SZ.out k s hsx
          generalize raK t m hs xs k = q at *
          have q0 : wr.cell? ⟨p, 0, none⟩ = some (.int .i64 q.1) := hq.cell 0
          have q1 : wr.cell? ⟨p, 1, none⟩ = some (.slice (some ⟨g2, 0, none⟩) q.2.1.length c6) := hq.cell 1
          have PLT := Lib.hid (show p < wr.heap.size from hq.2.2.1)
          have BLT := Lib.hid (show b1 < wr.heap.size from Nat.lt_of_lt_of_le hbl hq.1.size)
          have CS := Lib.hid (show ∀ WZ : World, Below wr.heap.size wr WZ → WZ.cell? ⟨p, 0, none⟩ = some (.int .i64 q.1) ∧ WZ.cell? ⟨p, 1, none⟩ = some (.slice (some ⟨g2, 0, none⟩) q.2.1.length c6) ∧ WZ.cell? ⟨b1, o1 + k, none⟩ = some (.string s) from fun WZ hz =>
            ⟨(hz.cell (p := ⟨p, 0, none⟩) PLT.out).trans q0, (hz.cell (p := ⟨p, 1, none⟩) PLT.out).trans q1, (hz.cell (p := ⟨b1, o1 + k, none⟩) BLT.out).trans e1⟩)
          have SPW := Lib.hid (fun W (hb : Below wr.heap.size wr W) => SPR.out q v1 s hszs g2 c6 W (RdH.of_own (own_.own_below ho hb) rfl))
          have hltI : (k : Int) < (nx : Int) := by omega
          have WR1 : IntKind.i64.wrap (q.2.2 + 1) = q.2.2 + 1 := IntWalk.i64_in _ (by omega)
          have HQ := Lib.hid hq
          have HO := Lib.hid ho
          have HZ := Lib.hid hz
          clear hq ho hz hszs v1 hsx hbl RS RK SPR SZ HX YE
          cases hb : rcB q.1 q.2.1 s t
          · have GE2 := Lib.hid (show w.heap.size + 1 + 1 ≤ wr.heap.size by have := PLT.out; omega)
            have NZ := Lib.hid (HQ.out.next 71 #[.int .i64 0, .slice none 0 0]).drew
            go_upto_region 8 with fail
            go_region_held3 (fun w' => w'.cell? ⟨p, 0, none⟩ = some (.int .i64 q.1) ∧ w'.cell? ⟨p, 1, none⟩ = some (.slice (some ⟨g2, 0, none⟩) q.2.1.length c6) ∧ w'.cell? ⟨b1, o1 + k, none⟩ = some (.string s)) (first
              | exact CS.out _ (Below.refl wr.heap.size wr).drew
              | exact CS.out _ (by assumption)
              | exact CS.out _ (Below.alloc (by assumption) (Below.size (by assumption)) _)
              | exact CS.out _ (((by assumption : Below wr.heap.size wr _).setCell (p := ⟨wr.heap.size, 0, none⟩) (Nat.le_refl _) _).setCell (p := ⟨wr.heap.size, 1, none⟩) (Nat.le_refl _) _)
              | exact CS.out _ ((Below.refl wr.heap.size wr).alloc (Nat.le_refl _) _).drew) (first
              | (go_at_call 103; (with_reducible refine (SPW.out _ ((Below.refl wr.heap.size wr).drew)).mono ?_); rintro e V9 ⟨v9, rfl, o9, hb9⟩
                 obtain ⟨A9, c9, rfl⟩ := own_sliceZ o9
                 have hbl9 : Below wr.heap.size wr V9 := posx.bl_next (V := wr) ((Below.refl wr.heap.size wr).drew) hb9
                 have O9 := Lib.hid o9
                 clear o9 hb9)
              | (go_at_call 103; (with_reducible refine (SPW.out _ (((Below.refl wr.heap.size wr).alloc (Nat.le_refl _) _).drew)).mono ?_); rintro e V9 ⟨v9, rfl, o9, hb9⟩
                 obtain ⟨A9, c9, rfl⟩ := own_sliceZ o9
                 have hbl9 : Below wr.heap.size wr V9 := posx.bl_next (V := wr) (((Below.refl wr.heap.size wr).alloc (Nat.le_refl _) _).drew) hb9
                 have O9 := Lib.hid o9
                 have N9 := Lib.hid (NZ.out.old hb9)
                 have n0 : V9.cell? ⟨wr.heap.size, 0, none⟩ = some (.int .i64 0) := N9.out.cell 0
                 have n1 : V9.cell? ⟨wr.heap.size, 1, none⟩ = some (.slice none 0 0) := N9.out.cell 1
                 have nf0 := N9.out.frozen 0
                 have nf1 := N9.out.frozen 1
                 clear o9 hb9))
            · have hplt := PLT.out
              have hge := GE2.out
              have BA := Lib.hid (hbl9.alloc hbl9.size (.cells #[.int .i64 (rcM q.1 q.2.1 s t), .slice A9 (rcL q.1 q.2.1 s t).length c9] 71))
              have hsz9 := hbl9.size
              have QA := Lib.hid (HQ.out.old BA.out)
              have ZA := Lib.hid (HZ.out.old BA.out)
              have OQ := Lib.hid (own_.own_below HO.out BA.out)
              have OA := OQ
              go_wp2_with fail
              go_roundw
              case rel => exact ⟨k + 1, by omega, by go_num, by rw [HS.out, stp_no hb], by rw [HS.out, stp_no hb]; exact ⟨g2, c6, QA.out, OA.out, ZA.out, hne, hp⟩⟩
              case measure => simp [intOf]; omega
            · have hplt := PLT.out
              have hge := GE2.out
              have BA := Lib.hid ((hbl9.setCell (p := ⟨wr.heap.size, 0, none⟩) (Nat.le_refl _) (.int .i64 (rcM q.1 q.2.1 s t))).setCell (p := ⟨wr.heap.size, 1, none⟩) (Nat.le_refl _) (.slice A9 (rcL q.1 q.2.1 s t).length c9))
              have QA := Lib.hid (HQ.out.old BA.out)
              have ZA := Lib.hid (HZ.out.old BA.out)
              have OQ := Lib.hid (own_.own_below HO.out BA.out)
              have OA := OQ
              go_wp2_with fail
              go_roundw
              case rel => exact ⟨k + 1, by omega, by go_num, by rw [HS.out, stp_no hb], by rw [HS.out, stp_no hb]; exact ⟨g2, c6, QA.out, OA.out, ZA.out, hne, hp⟩⟩
              case measure => simp [intOf]; omega
          · have LP := Lib.hid (rc_pos hb)
            have GE2 := Lib.hid (show w.heap.size + 1 + 1 ≤ wr.heap.size by have := PLT.out; omega)
            have NZ := Lib.hid (HQ.out.next 71 #[.int .i64 0, .slice none 0 0]).drew
            go_upto_region 8 with fail
            go_region_held3 (fun w' => w'.cell? ⟨p, 0, none⟩ = some (.int .i64 q.1) ∧ w'.cell? ⟨p, 1, none⟩ = some (.slice (some ⟨g2, 0, none⟩) q.2.1.length c6) ∧ w'.cell? ⟨b1, o1 + k, none⟩ = some (.string s)) (first
              | exact CS.out _ (Below.refl wr.heap.size wr).drew
              | exact CS.out _ (by assumption)
              | exact CS.out _ (Below.alloc (by assumption) (Below.size (by assumption)) _)
              | exact CS.out _ (((by assumption : Below wr.heap.size wr _).setCell (p := ⟨wr.heap.size, 0, none⟩) (Nat.le_refl _) _).setCell (p := ⟨wr.heap.size, 1, none⟩) (Nat.le_refl _) _)
              | exact CS.out _ ((Below.refl wr.heap.size wr).alloc (Nat.le_refl _) _).drew) (first
              | (go_at_call 103; (with_reducible refine (SPW.out _ ((Below.refl wr.heap.size wr).drew)).mono ?_); rintro e V9 ⟨v9, rfl, o9, hb9⟩
                 obtain ⟨g9, c9, rfl, hg9⟩ := own_pos o9 LP.out
                 have hbl9 : Below wr.heap.size wr V9 := posx.bl_next (V := wr) ((Below.refl wr.heap.size wr).drew) hb9
                 have G9 := Lib.hid (own_row_lt o9 g9 rfl)
                 have O9 := Lib.hid o9
                 clear o9 hb9)
              | (go_at_call 103; (with_reducible refine (SPW.out _ (((Below.refl wr.heap.size wr).alloc (Nat.le_refl _) _).drew)).mono ?_); rintro e V9 ⟨v9, rfl, o9, hb9⟩
                 obtain ⟨g9, c9, rfl, hg9⟩ := own_pos o9 LP.out
                 have hbl9 : Below wr.heap.size wr V9 := posx.bl_next (V := wr) (((Below.refl wr.heap.size wr).alloc (Nat.le_refl _) _).drew) hb9
                 have G9 := Lib.hid (own_row_lt o9 g9 rfl)
                 have O9 := Lib.hid o9
                 have N9 := Lib.hid (NZ.out.old hb9)
                 have n0 : V9.cell? ⟨wr.heap.size, 0, none⟩ = some (.int .i64 0) := N9.out.cell 0
                 have n1 : V9.cell? ⟨wr.heap.size, 1, none⟩ = some (.slice none 0 0) := N9.out.cell 1
                 have nf0 := N9.out.frozen 0
                 have nf1 := N9.out.frozen 1
                 clear o9 hb9))
            · have hplt := PLT.out
              have hge := GE2.out
              have hg9' := G9.out
              have hq1 : wr.heap.size ≤ g9 := own_.row_ge O9.out g9 rfl
              have BA := Lib.hid (hbl9.alloc hbl9.size (.cells #[.int .i64 (rcM q.1 q.2.1 s t), .slice (some ⟨g9, 0, none⟩) (rcL q.1 q.2.1 s t).length c9] 71))
              have hsz9 := hbl9.size
              have QA := Lib.hid (HQ.out.old BA.out)
              have ZA := Lib.hid (HZ.out.old BA.out)
              have OQ := Lib.hid (own_.own_below HO.out BA.out)
              have NA := Lib.hid ((HQ.out.old hbl9).next 71 #[.int .i64 (rcM q.1 q.2.1 s t), .slice (some ⟨g9, 0, none⟩) (rcL q.1 q.2.1 s t).length c9])
              have OA := Lib.hid (own_.own_base (own_.own_below O9.out ((Below.refl _ _).alloc (Nat.le_refl _) (.cells #[.int .i64 (rcM q.1 q.2.1 s t), .slice (some ⟨g9, 0, none⟩) (rcL q.1 q.2.1 s t).length c9] 71))) (show w.heap.size + 1 + 1 ≤ wr.heap.size by omega))
              go_upto_region 9 with fail
              generalize V9.alloc (.cells #[.int .i64 (rcM q.1 q.2.1 s t), .slice (some ⟨g9, 0, none⟩) (rcL q.1 q.2.1 s t).length c9] 71) = VA at *
              have x0 : VA.cell? ⟨p, 0, none⟩ = some (.int .i64 q.1) := QA.out.cell 0
              have x1 : VA.cell? ⟨p, 1, none⟩ = some (.slice (some ⟨g2, 0, none⟩) q.2.1.length c6) := QA.out.cell 1
              have xf0 := QA.out.frozen 0
              have xf1 := QA.out.frozen 1
              have y0 := NA.out.cell 0
              have y1 := NA.out.cell 1
              have Q2 := Lib.hid ((QA.out.set 0 (.int .i64 (rcM q.1 q.2.1 s t))).set 1 (.slice (some ⟨g9, 0, none⟩) (rcL q.1 q.2.1 s t).length c9))
              have Z2 := Lib.hid ((ZA.out.other (b' := p) (by omega) (by omega) 0 (.int .i64 (rcM q.1 q.2.1 s t))).other (b' := p) (by omega) (by omega) 1 (.slice (some ⟨g9, 0, none⟩) (rcL q.1 q.2.1 s t).length c9))
              have O2 := Lib.hid (rcvr.own_away (rcvr.own_away OA.out (show g9 ≠ p by omega) 0 (.int .i64 (rcM q.1 q.2.1 s t))) (show g9 ≠ p by omega) 1 (.slice (some ⟨g9, 0, none⟩) (rcL q.1 q.2.1 s t).length c9))
              clear QA ZA NA OA
              go_wp2_with fail
              go_roundw
              case rel => exact ⟨k + 1, by omega, by go_num, by rw [HS.out, stp_yes hb], by rw [HS.out, stp_yes hb]; exact ⟨g9, c9, Q2.out, O2.out, Z2.out, by omega, hp⟩⟩
              case measure => simp [intOf]; omega
            · have hplt := PLT.out
              have hge := GE2.out
              have hg9' := G9.out
              have hsu : (wr.alloc (.cells #[.int .i64 0, .slice none 0 0] 71)).drew.heap.size = wr.heap.size + 1 := World.size_alloc _ _
              have hq1 : wr.heap.size + 1 ≤ g9 := Nat.le_trans (Nat.le_of_eq hsu.symm) (own_.row_ge O9.out g9 rfl)
              have BA := Lib.hid ((hbl9.setCell (p := ⟨wr.heap.size, 0, none⟩) (Nat.le_refl _) (.int .i64 (rcM q.1 q.2.1 s t))).setCell (p := ⟨wr.heap.size, 1, none⟩) (Nat.le_refl _) (.slice (some ⟨g9, 0, none⟩) (rcL q.1 q.2.1 s t).length c9))
              have QA := Lib.hid (HQ.out.old BA.out)
              have ZA := Lib.hid (HZ.out.old BA.out)
              have OQ := Lib.hid (own_.own_below HO.out BA.out)
              have NA := Lib.hid ((N9.out.set 0 (.int .i64 (rcM q.1 q.2.1 s t))).set 1 (.slice (some ⟨g9, 0, none⟩) (rcL q.1 q.2.1 s t).length c9))
              have OA := Lib.hid (own_.own_base (rcvr.own_away (rcvr.own_away O9.out (show g9 ≠ wr.heap.size by omega) 0 (.int .i64 (rcM q.1 q.2.1 s t))) (show g9 ≠ wr.heap.size by omega) 1 (.slice (some ⟨g9, 0, none⟩) (rcL q.1 q.2.1 s t).length c9)) (show w.heap.size + 1 + 1 ≤ _ by omega))
              go_upto_region 9 with fail
              generalize (V9.setCell ⟨wr.heap.size, 0, none⟩ (.int .i64 (rcM q.1 q.2.1 s t))).setCell ⟨wr.heap.size, 1, none⟩ (.slice (some ⟨g9, 0, none⟩) (rcL q.1 q.2.1 s t).length c9) = VA at *
              have x0 : VA.cell? ⟨p, 0, none⟩ = some (.int .i64 q.1) := QA.out.cell 0
              have x1 : VA.cell? ⟨p, 1, none⟩ = some (.slice (some ⟨g2, 0, none⟩) q.2.1.length c6) := QA.out.cell 1
              have xf0 := QA.out.frozen 0
              have xf1 := QA.out.frozen 1
              have y0 := NA.out.cell 0
              have y1 := NA.out.cell 1
              have Q2 := Lib.hid ((QA.out.set 0 (.int .i64 (rcM q.1 q.2.1 s t))).set 1 (.slice (some ⟨g9, 0, none⟩) (rcL q.1 q.2.1 s t).length c9))
              have Z2 := Lib.hid ((ZA.out.other (b' := p) (by omega) (by omega) 0 (.int .i64 (rcM q.1 q.2.1 s t))).other (b' := p) (by omega) (by omega) 1 (.slice (some ⟨g9, 0, none⟩) (rcL q.1 q.2.1 s t).length c9))
              have O2 := Lib.hid (rcvr.own_away (rcvr.own_away OA.out (show g9 ≠ p by omega) 0 (.int .i64 (rcM q.1 q.2.1 s t))) (show g9 ≠ p by omega) 1 (.slice (some ⟨g9, 0, none⟩) (rcL q.1 q.2.1 s t).length c9))
              clear QA ZA NA OA
              go_wp2_with fail
              go_roundw
              case rel => exact ⟨k + 1, by omega, by go_num, by rw [HS.out, stp_yes hb], by rw [HS.out, stp_yes hb]; exact ⟨g9, c9, Q2.out, O2.out, Z2.out, by omega, hp⟩⟩
              case measure => simp [intOf]; omega
        · have hkn : k = nx := by omega
          have HV := Lib.hid (show raV m hs xs t = raK t m hs xs k by rw [HP.out, hkn])
          have d1 : decide (k < nx) = false := decide_eq_false hlt
          have d2 : decide ((k : Int) < (nx : Int)) = false := decide_eq_false (by omega)
          clear HP RS RK SPR SZ HX YE hkn
          generalize raK t m hs xs k = q at *
          have q0 : wr.cell? ⟨p, 0, none⟩ = some (.int .i64 q.1) := hq.cell 0
          have q1 : wr.cell? ⟨p, 1, none⟩ = some (.slice (some ⟨g2, 0, none⟩) q.2.1.length c6) := hq.cell 1
          have r0 : wr.cell? ⟨w.heap.size + 1, 0, none⟩ = some (.int .i64 0) := hz.cell 0
          have r1 : wr.cell? ⟨w.heap.size + 1, 1, none⟩ = some (.slice none 0 0) := hz.cell 1
          have rf0 := hz.frozen 0
          have rf1 := hz.frozen 1
          have HE := Lib.hid ((hz.set 0 (.int .i64 q.1)).set 1 (.slice (some ⟨g2, 0, none⟩) q.2.1.length c6))
          have O9 := Lib.hid (own_setbox (own_setbox ho (Nat.lt_succ_self _) 0 (.int .i64 q.1)) (Nat.lt_succ_self _) 1 (.slice (some ⟨g2, 0, none⟩) q.2.1.length c6))
          clear hq ho hz
          go_wp2_with fail
          have hl := HE.out.load Try.underlying71 rfl (by kernel_rfl)
          refine bodyPost_ret (v := .tuple #[.agg #[.int .i64 q.1, .slice (some ⟨g2, 0, none⟩) q.2.1.length c6], .int .i64 q.2.2, .bool true]) ?_ rfl ⟨_, by rw [HV.out, HB.out], by rw [HV.out]; exact own_.own_base O9.out (by omega), HE.out.1⟩
          rw [results_ctt rfl]
          simp [asAddr, Result.andThen, hl]
    · have HB := Lib.hid (show raB m hs nx t = false by
        rw [GB.out]
        have e := hbb.symm
        rw [Bool.not_eq_true'] at e
        revert e
        generalize decide (m ≤ t) = d
        generalize decide (nx ≤ 20) = d2
        intro e
        cases bv <;> cases bt <;> cases d <;> cases d2 <;> first | rfl | cases e)
      have HP := Lib.hid (NO.out HB.out)
      have r0 : wc.cell? ⟨w.heap.size + 1, 0, none⟩ = some (.int .i64 0) := hR.cell 0
      have r1 : wc.cell? ⟨w.heap.size + 1, 1, none⟩ = some (.slice none 0 0) := hR.cell 1
      have rf0 := hR.frozen 0
      have rf1 := hR.frozen 1
      have HE := Lib.hid ((hR.set 0 (.int .i64 0)).set 1 (.slice none 0 0))
      clear hR hB NO YE GB hbb OW RK SPR RS R00 HX SZ
      go_wp2_with fail
      have hl := HE.out.load Try.underlying71 rfl (by kernel_rfl)
      refine bodyPost_ret (v := .tuple #[.agg #[.int .i64 0, .slice none 0 0], .int .i64 0, .bool false]) ?_ rfl ⟨_, by rw [HP.out, HB.out], by rw [HP.out]; exact own_nil _ _ _ _, HE.out.1⟩
      rw [results_ctt rfl]
      simp [asAddr, Result.andThen, hl]
end Go.Proofs.Ytdjcbfeilkepmaa.rcvu
