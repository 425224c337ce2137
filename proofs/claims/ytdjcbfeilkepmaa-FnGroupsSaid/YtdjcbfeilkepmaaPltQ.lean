/- impl's plotOf. -/
import Derived.Test.YtdjcbfeilkepmaaPltX
import Derived.Test.YtdjcbfeilkepmaaSortI
import Derived.Deep.RegionHeld3
namespace Go.Proofs.Ytdjcbfeilkepmaa.pltq
open Go.RowKit Go.Proofs.Ytdjcbfeilkepmaa.ints Go.Proofs.Ytdjcbfeilkepmaa.lst Go.Proofs.Ytdjcbfeilkepmaa.in_ Go.Proofs.Ytdjcbfeilkepmaa.ats Go.Proofs.Ytdjcbfeilkepmaa.pos Go.Proofs.Ytdjcbfeilkepmaa.plt Go.Proofs.Ytdjcbfeilkepmaa.pltm Go.Proofs.Ytdjcbfeilkepmaa.plte Go.Proofs.Ytdjcbfeilkepmaa.plti Go.Proofs.Ytdjcbfeilkepmaa.pltj Go.Proofs.Ytdjcbfeilkepmaa.pltk Go.Proofs.Ytdjcbfeilkepmaa.pltp Go.Proofs.Ytdjcbfeilkepmaa.pltx Go.Proofs.Ytdjcbfeilkepmaa.rws

set_option maxRecDepth 100000 in
set_option maxHeartbeats 4000000 in
theorem plotOf (zs : List Int) (N : Nat) (q : List Nat) (A : Option Addr) (n c : Nat) (w : World) (hq : q.length = n) (h0 : 0 < n) (hn : n ≤ 20) (hs : svB zs N = true) (hm : ∀ i ∈ q, i < N) (h1 : RdZ 5 w w.heap.size A n (flatI zs q)) :
    Calls Try.prog 87 #[.slice A n c] w fun e w' => ∃ v, e = .returned (.agg #[.int .i64 (plS zs q), .int .i64 (plA zs q), .int .i64 (plX zs q), .int .i64 (plY zs q), v]) ∧ w'.ownsRow w.heap.size 3 1 v n (cellsI (plL zs q)) ∧ Below w.heap.size w w' := by
  obtain ⟨iI, hiI, hzI0, hzI1, hzI2⟩ := info_parts infoI
  have hq0 : q[0]? = some (q.headD 0) := by cases q with
    | nil => simp at hq; omega
    | cons a l => rfl
  have CI := Lib.hid (cx_in (b := 9899) (j := 3) (fun i hi => (sv_at hs hi).2.2.2.1) hm)
  have CJ := Lib.hid (cx_in (b := 9899) (j := 4) (fun i hi => (sv_at hs hi).2.2.2.2) hm)
  have HR := Lib.hid h1
  have C0 := Lib.hid (newS 50 #[.int .i64 0, .int .i64 0, .int .i64 0, .int .i64 0, .slice none 0 0] w)
  have HQL := Lib.hid hq
  obtain ⟨b1, o1, eA, lb, p0, -, p2, -, -⟩ := cellsE h1 (show 0 < n by omega)
  rw [flat_fld hq0 (by decide), Nat.zero_mul, Nat.add_zero] at p0 p2
  subst eA
  have CS := Lib.hid (show ∀ WZ : World, Below w.heap.size w WZ → World.cell? WZ ⟨b1, o1, none⟩ = some (.int .i64 (plS zs q)) ∧ World.cell? WZ ⟨b1, o1 + 2, none⟩ = some (.int .i64 (plA zs q)) from fun WZ hz => ⟨(hz.cell (p := ⟨b1, o1, none⟩) lb).trans p0, (hz.cell (p := ⟨b1, o1 + 2, none⟩) lb).trans p2⟩)
  clear h1 hs hm hq0 p0 p2
  go_enter Try.func87, Try.ntmps87
  go_wp2_with fail
  generalize w.alloc (.cells #[.int .i64 0, .int .i64 0, .int .i64 0, .int .i64 0, .slice none 0 0] 50) = W0 at *
  go_loopw [3, 10] (fun v i wr => ∃ k : Nat, k ≤ n ∧ i = .int .i64 k ∧ wr.ownsRow W0.heap.size 3 1 v k (cellsI (cx zs 1 (q.take k))) ∧ Below W0.heap.size W0 wr) (fun _ i _ => n - (intOf i).toNat)
  case atStart => exact ⟨0, Nat.zero_le _, rfl, World.ownsRow_nil .., Below.refl _ _⟩
  case round =>
    obtain ⟨k, hk, rfl, hO, hb⟩ := hrel
    by_cases hlt : k < n
    · obtain ⟨m, hm⟩ : ∃ m, q[k]? = some m := ⟨_, List.getElem?_eq_getElem (by rw [HQL.out]; exact hlt)⟩
      obtain ⟨b2, o2, eA, -, p0, p1, p2, p3, p4⟩ := cellsE (HR.out.below (C0.out.1.trans (hb.mono C0.out.1.size)) (Nat.le_refl _)) hlt
      obtain ⟨rfl, rfl⟩ : b1 = b2 ∧ o1 = o2 := by injection eA with e; injection e with e1 e2; exact ⟨e1, e2⟩
      rw [flat_fld hm (by decide)] at p0 p1 p2 p3 p4
      obtain ⟨A5, c5, rfl⟩ := own_sliceZ hO
      have HX := Lib.hid (cx_take (zs := zs) (j := 1) hm)
      have hlt2 : (k : Int) < (n : Int) := by omega
      have hbs := hb.size
      clear eA hm hq
      generalize cx zs 1 (q.take k) = xs at *
      generalize fld 5 zs m 0 = u0 at *
      generalize fld 5 zs m 1 = u1 at *
      generalize fld 5 zs m 2 = u2 at *
      generalize fld 5 zs m 3 = u3 at *
      generalize fld 5 zs m 4 = u4 at *
      go_upto_region 5 with fail
      have NX := newS 53 #[.int .i64 u0, .int .i64 u1, .int .i64 u2, .int .i64 u3, .int .i64 u4] wr
      have OX := Lib.hid (hO.alloc (.cells #[.int .i64 u0, .int .i64 u1, .int .i64 u2, .int .i64 u3, .int .i64 u4] 53))
      have BX := Lib.hid (hb.trans (NX.1.mono hbs))
      have c1 : (wr.alloc (.cells #[.int .i64 u0, .int .i64 u1, .int .i64 u2, .int .i64 u3, .int .i64 u4] 53)).cell? ⟨wr.heap.size, 1, none⟩ = some (.int .i64 u1) := NX.cell 1
      clear NX hO hb p0 p1 p2 p3 p4
      generalize hbx : wr.heap.size = bx at *
      generalize wr.alloc (.cells #[.int .i64 u0, .int .i64 u1, .int .i64 u2, .int .i64 u3, .int .i64 u4] 53) = W1 at *
      have h1s := BX.out.size
      have O5 := Lib.hid (OX.out.alloc (.cells #[.int .i64 u1] 3))
      go_wp2_with (at_builtin; refine wpList_append_any rfl (.tmp 14) (.tmp 17) 28 rfl W0.heap.size 3 iI (.int .i64 0) 1 8 Try.underlying28 hiI hzI0 hzI1 hzI2 rfl (by decide) _ k (cellsI xs) rfl O5.out ⟨W1.heap.size, 0, none⟩ 1 1 [.int .i64 u1] rfl rfl (cell_one_new _ _ _) (own_.one_cell _ rfl) (by unfold maxLen; omega) (by omega) (by rw [World.size_alloc]; omega) ?_; intro v6 w6 o6 g6 n6; obtain ⟨A6, c6, rfl⟩ := own_sliceZ o6)
      have O6 := Lib.hid (show w6.ownsRow W0.heap.size 3 1 (.slice A6 (k + 1) c6) (k + 1) (cellsI (cx zs 1 (q.take (k + 1)))) by rw [HX.out]; unfold cellsI; rw [List.map_append]; exact o6)
      have B6 := Lib.hid ((BX.out.alloc h1s (.cells #[.int .i64 u1] 3)).grown g6 (by rw [World.size_alloc]; omega) (own_.row_ge O5.out))
      clear o6 g6 n6 O5 c1
      go_wp2_with fail
      go_roundw
      case rel => exact ⟨k + 1, by omega, by go_num, O6.out, B6.out⟩
      case measure => simp [intOf]; omega
    · obtain rfl : n = k := by omega
      rw [← hq, List.take_length] at hO
      obtain ⟨A5, c5, rfl⟩ := own_sliceZ hO
      have OS := Lib.hid (sorti.sort W0.heap.size (.slice A5 q.length c5) (cx zs 1 q) wr (by rw [cx_length]; omega) hb.size (by rw [cx_length]; exact hO))
      have HBr := Lib.hid hb
      have HC := Lib.hid (fun (W : World) (h : Below w.heap.size w W) => coordinatesOf zs q (some ⟨b1, o1, none⟩) n c W hq hn (HR.out.next h))
      clear hO hb
      rw [hq] at OS
      go_wp2_with fail
      refine OS.out.mono ?_
      rintro e w3 ⟨rfl, ho3, hb3⟩
      have B3 := Lib.hid (hb3 W0 HBr.out)
      have O3 := Lib.hid (show w3.ownsRow W0.heap.size 3 1 (.slice A5 n c5) n (cellsI (plL zs q)) from by rw [cx_length, hq] at ho3; exact ho3)
      clear ho3 hb3 OS
      go_wp2_with fail
      refine (HC.out w3 (C0.out.1.trans (B3.out.mono C0.out.1.size))).mono ?_
      rintro e w4 ⟨v4, v5, rfl, hT, hb4⟩
      obtain ⟨A4, c4, rfl⟩ := own_sliceZ hT.1
      obtain ⟨A6, c6, rfl⟩ := own_sliceZ hT.2.1
      have B4 := Lib.hid (B3.out.trans (hb4.mono B3.out.size))
      have O4 := own_.own_below O3.out hb4
      have R3 := Lib.hid (intc.rd_of_own hT.1 (by rw [cx_length, HQL.out]))
      have R4 := Lib.hid (intc.rd_of_own hT.2.1 (by rw [cx_length, HQL.out]))
      have M1 := Lib.hid (fun (W : World) (h : Below w4.heap.size w4 W) => nearestMean (cx zs 3 q) A4 n c4 W h0 hn (by rw [← HQL.out]; exact CI.out) (R3.out.next h))
      have M2 := Lib.hid (fun (W : World) (h : Below w4.heap.size w4 W) => nearestMean (cx zs 4 q) A6 n c6 W h0 hn (by rw [← HQL.out]; exact CJ.out) (R4.out.next h))
      have HPX := Lib.hid (show plX zs q = mean (cx zs 3 q) n by unfold plX; rw [HQL.out])
      have HPY := Lib.hid (show plY zs q = mean (cx zs 4 q) n by unfold plY; rw [HQL.out])
      clear hT hb4 O3 hq
      go_upto_region 9 with fail
      generalize w4 = W5 at *
      have CV := Lib.hid (C0.out.old B4.out)
      have BV := Lib.hid CV.out.1
      have OVD : W5.drew.ownsRow W0.heap.size 3 1 (.slice A5 n c5) n (cellsI (plL zs q)) := own_.own_below O4 (Below.refl W5.heap.size W5).drew
      have hW0 := C0.out.2.2.1
      have hn0 : (0 : Int) < (n : Int) := by omega
      have hn1 : 0 < n := h0
      generalize hps : plS zs q = ps at *
      generalize hpa : plA zs q = pa at *
      generalize hpx : plX zs q = px at *
      generalize hpy : plY zs q = py at *
      have H4 := Lib.hid (show plS zs q = ps ∧ plA zs q = pa ∧ plX zs q = px ∧ plY zs q = py from ⟨hps, hpa, hpx, hpy⟩)
      clear hps hpa hpx hpy
      generalize mean (cx zs 3 q) n = m3 at *
      generalize mean (cx zs 4 q) n = m4 at *
      obtain rfl : px = m3 := HPX.out
      obtain rfl : py = m4 := HPY.out
      generalize hAv : A5 = Av at *
      generalize hcv : c5 = cv at *
      have CD := Lib.hid CV.out.drew
      have z0 : W5.cell? ⟨w.heap.size, 0, none⟩ = some (.int .i64 0) := CV.out.cell 0
      have r0 := CV.out.frozen 0
      have z1 : W5.cell? ⟨w.heap.size, 1, none⟩ = some (.int .i64 0) := CV.out.cell 1
      have r1 := CV.out.frozen 1
      have z2 : W5.cell? ⟨w.heap.size, 2, none⟩ = some (.int .i64 0) := CV.out.cell 2
      have r2 := CV.out.frozen 2
      have z3 : W5.cell? ⟨w.heap.size, 3, none⟩ = some (.int .i64 0) := CV.out.cell 3
      have r3 := CV.out.frozen 3
      have z4 : W5.cell? ⟨w.heap.size, 4, none⟩ = some (.slice none 0 0) := CV.out.cell 4
      have r4 := CV.out.frozen 4
      have KS := Lib.hid (CS.out _ (((((BV.out.setCell (p := ⟨w.heap.size, 0, none⟩) (Nat.le_refl _) (.int .i64 ps)).setCell (p := ⟨w.heap.size, 1, none⟩) (Nat.le_refl _) (.int .i64 pa)).setCell (p := ⟨w.heap.size, 2, none⟩) (Nat.le_refl _) (.int .i64 px)).setCell (p := ⟨w.heap.size, 3, none⟩) (Nat.le_refl _) (.int .i64 py)).setCell (p := ⟨w.heap.size, 4, none⟩) (Nat.le_refl _) (.slice Av n cv)).drew)
      have HE := Lib.hid ((((((CV.out.set 0 (.int .i64 ps)).set 1 (.int .i64 pa)).set 2 (.int .i64 px)).set 3 (.int .i64 py)).set 4 (.slice Av n cv)).drew)
      have HO := Lib.hid (own_.own_below (own_kept (own_kept (own_kept (own_kept (own_kept O4 (grown_set (grown_refl W5 (some w.heap.size)) 0 (.int .i64 ps)) (fun q e => by injection e with e; omega)) (grown_set (grown_refl _ (some w.heap.size)) 1 (.int .i64 pa)) (fun q e => by injection e with e; omega)) (grown_set (grown_refl _ (some w.heap.size)) 2 (.int .i64 px)) (fun q e => by injection e with e; omega)) (grown_set (grown_refl _ (some w.heap.size)) 3 (.int .i64 py)) (fun q e => by injection e with e; omega)) (grown_set (grown_refl _ (some w.heap.size)) 4 (.slice Av n cv)) (fun q e => by injection e with e; omega)) (Below.refl _ _).drew)
      clear OVD O4 HPX HPY hAv hcv
      go_region_held3 (fun w' => World.cell? w' ⟨b1, o1, none⟩ = some (.int .i64 ps) ∧ World.cell? w' ⟨b1, o1 + 2, none⟩ = some (.int .i64 pa)) (first
        | with_reducible exact CS.out _ BV.out.drew
        | (have qk := KS.out; with_reducible exact qk)
        | go_keep) (first
        | (go_at_call 131; (with_reducible refine (M1.out _ (Below.refl W5.heap.size W5).drew).mono ?_); rintro e w' ⟨rfl, rfl⟩)
        | (go_at_call 131; (with_reducible refine (M2.out _ (Below.refl W5.heap.size W5).drew).mono ?_); rintro e w' ⟨rfl, rfl⟩))
      all_goals (
        go_wp2_with fail
        have hl := HE.out.load Try.underlying50 rfl (by kernel_rfl)
        refine bodyPost_ret (v := .agg #[.int .i64 ps, .int .i64 pa, .int .i64 px, .int .i64 py, .slice Av n cv]) ?_ rfl ⟨_, by rw [H4.out.1, H4.out.2.1, H4.out.2.2.1, H4.out.2.2.2], own_.own_base HO.out (Nat.le_of_lt hW0), HE.out.1⟩
        rw [results_cell1 rfl]
        simp [asAddr, Result.andThen, hl])
end Go.Proofs.Ytdjcbfeilkepmaa.pltq
