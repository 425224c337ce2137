/- impl's offsetsFrom: the clocks that are connected with one, and what they show more. -/
import Derived.Test.YtndogafihaooiaaLnkIa
import Derived.Test.YtndogafihaooiaaLnkIm
import Derived.Laws.OwnMore
import Derived.Laws.MakeOwn
import Derived.Deep.QuietTactic
import Derived.Deep.RegionHeld3
import Derived.Deep.CutBlock
import Derived.Deep.CutRange
namespace Go.Proofs.Ytndogafihaooiaa.lnki
open Go.RowKit Go.Proofs.Ytndogafihaooiaa.ints Go.Proofs.Ytndogafihaooiaa.lst Go.Proofs.Ytndogafihaooiaa.in_ Go.Proofs.Ytndogafihaooiaa.ats Go.Proofs.Ytndogafihaooiaa.lnk Go.Proofs.Ytndogafihaooiaa.lnks Go.Proofs.Ytndogafihaooiaa.lnkw Go.Proofs.Ytndogafihaooiaa.lnkp Go.Proofs.Ytndogafihaooiaa.lnkim Go.Proofs.Ytndogafihaooiaa.que

theorem own_slice {w : World} {B e s n : Nat} {v : Value} {xs : List Value} (h : w.ownsRow B e s v n xs) : ∃ A c, v = .slice A n c := own_sliceZ h
set_option maxRecDepth 100000 in
set_option maxHeartbeats 16000000 in
theorem offsetsFrom (ls : List Int) (A : Option Addr) (n m c s : Nat) (w : World) (hn6 : n ≤ 6) (hm : m ≤ 12) (hs : s < n) (hv : lkT ls (n : Int) m = true) (h1 : RdZ 3 w w.heap.size A m ls) :
    Calls Try.prog 78 #[.int .i64 (s : Int), .int .i64 (n : Int), .slice A m c] w fun e w' => ∃ (g1 g2 : Nat) (sn : Nat → Bool) (of : Nat → Int), e = .returned (.tuple #[.slice (some ⟨g2, 0, none⟩) n n, .slice (some ⟨g1, 0, none⟩) n n]) ∧ Srch ls n m s sn of ∧ Closed ls m sn ∧ w'.ownsRow w.heap.size 4 1 (.slice (some ⟨g1, 0, none⟩) n n) n (bls sn n) ∧ w'.ownsRow w.heap.size 3 1 (.slice (some ⟨g2, 0, none⟩) n n) n (its of n) ∧ Below w.heap.size w w' := by
  obtain ⟨M, hM⟩ : ∃ M, M = 2 * m := ⟨_, rfl⟩
  have HM := Lib.hid hM
  have hM24 : M ≤ 24 := by omega
  have HWN := Lib.hid (fun i (hi : i < M) => way_nat hv (show i < 2 * m by omega))
  have HNEW := Lib.hid (fun (d q i k o o' : Nat) (sn : Nat → Bool) (of : Nat → Int) (Q : List Nat) (h : Inr ls n m s d q i k o sn of Q) (hi : i < M) hF hT ho => Inr.new (o' := o') hv h (show i < 2 * m by omega) hF hT ho)
  have HDN := Lib.hid (fun (d q k o o' : Nat) (sn : Nat → Bool) (of : Nat → Int) (Q : List Nat) (h : Inr ls n m s d q M k o sn of Q) (ho : o' ≤ o + 1) => Inr.done (o' := o') (show Inr ls n m s d q (2 * m) k o sn of Q by rw [← hM]; exact h) ho)
  have HBW := Lib.hid (fun W (hW : Below w.heap.size w W) => bothWays ls (n : Int) A m c W hm hv (h1.next hW))
  have HWL := Lib.hid (show (wys ls m).length = M * 3 by rw [wys_length, hM])
  obtain ⟨ib, hib, hb0, hb1, hb2⟩ := info_parts infoB
  obtain ⟨ii, hii, hi0, hi1, hi2⟩ := info_parts infoI
  have hsi : (s : Int) < (n : Int) := by omega
  have hs0 : (0 : Int) ≤ (s : Int) := Int.natCast_nonneg _
  obtain ⟨ZB, hZB⟩ : ∃ Z, Z = madeCells (Value.cells (.bool false)) (n * 1) := ⟨_, rfl⟩
  obtain ⟨ZI, hZI⟩ : ∃ Z, Z = madeCells (Value.cells (.int .i64 0)) (n * 1) := ⟨_, rfl⟩
  have MB : ∀ W : World, (Instr.makeSlice 91 (.int .i64 (n : Int)) (.int .i64 (n : Int))).run Try.prog W = .ok (.slice (some ⟨W.heap.size, 0, none⟩) n n) (W.alloc (.cells ZB 4)) := fun W => by
    have := run_makeSlice (P := Try.prog) W 91 4 ib (.bool false) Try.underlying91 hib hb0 .i64 .i64 (n : Int) (n : Int) (by omega) (Int.le_refl _) (by rw [hb1]; omega) (by rw [hb2]; omega) (by omega)
    rw [Int.toNat_natCast, hb1] at this
    rw [hZB]; exact this
  have MI : ∀ W : World, (Instr.makeSlice 38 (.int .i64 (n : Int)) (.int .i64 (n : Int))).run Try.prog W = .ok (.slice (some ⟨W.heap.size, 0, none⟩) n n) (W.alloc (.cells ZI 3)) := fun W => by
    have := run_makeSlice (P := Try.prog) W 38 3 ii (.int .i64 0) Try.underlying38 hii hi0 .i64 .i64 (n : Int) (n : Int) (by omega) (Int.le_refl _) (by rw [hi1]; omega) (by rw [hi2]; omega) (by omega)
    rw [Int.toNat_natCast, hi1] at this
    rw [hZI]; exact this
  have LB1 := Lib.hid (show ZB.toList = bls (fun _ => false) n by rw [hZB]; exact made_list (.bool false) rfl n)
  have LI1 := Lib.hid (show ZI.toList = its (fun _ => 0) n by rw [hZI]; exact made_list (.int .i64 0) rfl n)
  have SB := Lib.hid (show ZB.size = n by rw [hZB, size_madeCells]; omega)
  have SI := Lib.hid (show ZI.size = n by rw [hZI, size_madeCells]; omega)
  have hnl : n ≤ maxLen := by unfold maxLen; omega
  have OB1 := Lib.hid (fun (W : World) => show (W.alloc (.cells ZB 4)).ownsRow W.heap.size 4 1 (.slice (some ⟨W.heap.size, 0, none⟩) n n) n (bls (fun _ => false) n) from by rw [← LB1.out]; exact own_alloc W 4 ZB n SB.out hnl)
  have OI1 := Lib.hid (fun (W : World) => show (W.alloc (.cells ZI 3)).ownsRow W.heap.size 3 1 (.slice (some ⟨W.heap.size, 0, none⟩) n n) n (its (fun _ => 0) n) from by rw [← LI1.out]; exact own_alloc W 3 ZI n SI.out hnl)
  have XA := Lib.hid ((OB1.out w).alloc (.cells ZI 3))
  have XB := OI1.out (w.alloc (.cells ZB 4))
  have YB := Lib.hid ((OI1.out w).alloc (.cells ZB 4))
  have YA := OB1.out (w.alloc (.cells ZI 3))
  rw [World.size_alloc] at XB YA
  have XB := Lib.hid (own_.own_base XB (Nat.le_succ _))
  have YA := Lib.hid (own_.own_base YA (Nat.le_succ _))
  have BA := Lib.hid ((((Below.refl w.heap.size w).alloc (Nat.le_refl _) (.cells ZB 4)).alloc (by rw [World.size_alloc]; omega) (.cells ZI 3)).drew)
  have BB := Lib.hid ((((Below.refl w.heap.size w).alloc (Nat.le_refl _) (.cells ZI 3)).alloc (by rw [World.size_alloc]; omega) (.cells ZB 4)).drew)
  have HBEG := Lib.hid (Otr.begin (ls := ls) (m := m) hs)
  clear hv h1 LB1 LI1 SB SI OB1 OI1 hZB hZI hib hb0 hb1 hb2 hM hm
  go_enter Try.func78, Try.ntmps78
  go_upto_region 1 with fail
  go_cut [8, 9] from 15 to 18 (fun p q wz => ∃ g1 g2 : Nat, p = .slice (some ⟨g2, 0, none⟩) n n ∧ q = .slice (some ⟨g1, 0, none⟩) n n ∧ g1 ≠ g2 ∧ wz.ownsRow w.heap.size 4 1 (.slice (some ⟨g1, 0, none⟩) n n) n (bls (fun _ => false) n) ∧ wz.ownsRow w.heap.size 3 1 (.slice (some ⟨g2, 0, none⟩) n n) n (its (fun _ => 0) n) ∧ Below w.heap.size w wz)
  case first =>
    go_region
    all_goals (try go_wp2)
    all_goals (
      go_meet
      first
      | exact ⟨_, _, rfl, rfl, by omega, XA.out.drew, XB.out.drew, BA.out⟩
      | exact ⟨_, _, rfl, rfl, by omega, YA.out.drew, YB.out.drew, BB.out⟩)
  case rest =>
    obtain ⟨g1, g2, rfl, rfl, hne, ho1, ho2, hb⟩ := hcut
    have hne2 : g2 ≠ g1 := fun h => hne h.symm
    have s0_ := (ho1.cellAt s (by omega)).trans (bls_at hs)
    have sf_ := ho1.frozenAt s
    have st := (ho1.stored s (.bool true)).1
    rw [bls_set] at st
    have O1 := Lib.hid st
    have O2 := Lib.hid (own_away ho2 hne2 s (.bool true))
    have HB0 := Lib.hid (hb.setCell (p := ⟨g1, s, none⟩) (own_.row_ge ho1 g1 rfl) (.bool true))
    clear st ho1 ho2 hb XA XB YA YB BA BB MB MI
    go_upto_region 3 with fail
    clear s0_ sf_
    generalize wc.setCell ⟨g1, s, none⟩ (.bool true) = W0 at *
    go_wp2_with fail
    refine (HBW.out W0 HB0.out).mono ?_
    rintro e W1 ⟨v4, rfl, ho4, hb⟩
    rw [← HM.out] at ho4
    obtain ⟨D, cw, rfl⟩ := own_slice ho4
    have hbs := HB0.out.size
    have P1 := own_.own_below O1.out hb
    have P2 := own_.own_below O2.out hb
    have l1 := own_lt O1.out
    have l2 := own_lt O2.out
    have hW1 := hb.size
    have hge4 := own_.row_ge ho4
    have hlt4 := own_row_lt ho4
    have P4 := own_.own_base ho4 hbs
    have BX := HB0.out.trans (hb.mono hbs)
    have T0 : S3 w.heap.size n M (wys ls m) (W1.alloc (.cells #[.int .i64 (s : Int)] 3)) g1 g2 (.slice D M cw) (upd (fun _ => false) s true) (fun _ => 0) := S3.alloc ⟨P1, P2, P4, hne, fun x hx => by have := hge4 x hx; omega⟩ _
    have T0 := Lib.hid T0
    have Q0 : Qu w.heap.size (W1.alloc (.cells #[.int .i64 (s : Int)] 3)) W1.heap.size 0 1 1 [s] := ⟨_, own_.own_base (own_alloc W1 3 #[.int .i64 (s : Int)] 1 rfl (by unfold maxLen; omega)) (by omega), rfl⟩
    have Q0 := Lib.hid Q0
    have B0 := Lib.hid (BX.alloc (by omega) (.cells #[.int .i64 (s : Int)] 3))
    have N1 := Lib.hid (show W1.heap.size ≠ g1 by omega)
    have N2 := Lib.hid (show W1.heap.size ≠ g2 by omega)
    have N4 := Lib.hid (fun x (hx : (Value.slice D M cw).ownBlock = some x) => show some W1.heap.size ≠ some x from fun e => by injection e with e; have := hlt4 x hx; omega)
    clear ho4 hb P1 P2 P4 BX hge4 hlt4 O1 O2 HB0 HBW l1 l2 hbs hW1 hne hne2
    go_wp2_with fail
    generalize hq0 : W1.heap.size = qb at *
    generalize W1.alloc (.cells #[.int .i64 (s : Int)] 3) = W2 at *
    go_loopw [11] (fun wv wr => ∃ (g o k c : Nat) (Q : List Nat) (sn : Nat → Bool) (of : Nat → Int), wv = .slice (some ⟨g, o, none⟩) k c ∧ Otr ls n m s k o sn of Q ∧ S3 w.heap.size n M (wys ls m) wr g1 g2 (.slice D M cw) sn of ∧ (0 < k → Qu w.heap.size wr g o k c Q ∧ g ≠ g1 ∧ g ≠ g2 ∧ (∀ x, (Value.slice D M cw).ownBlock = some x → some g ≠ some x)) ∧ Below w.heap.size w wr) (fun wv wr => lenV wv + (n - cnW wr g1 n))
    case atStart => exact ⟨_, _, _, _, [s], _, _, rfl, HBEG.out, T0.out, fun _ => ⟨Q0.out, N1.out, N2.out, N4.out⟩, B0.out⟩
    case round =>
      obtain ⟨g, o, k, c, Q, sn, of, rfl, hot, h3, hq, hb⟩ := hrel
      clear T0 Q0 N1 N2 N4 B0 HBEG
      generalize hwr0 : wr = wr0 at *
      clear hwr0
      cases Q with
      | nil =>
        obtain rfl : k = 0 := hot.len
        have HC := Lib.hid (walked_closed hot.wal)
        have HS := Lib.hid hot.srch
        have T := Lib.hid h3
        have HB := Lib.hid hb
        clear hot h3 hq hb
        go_wp2_with fail
        go_ret2
        exact ⟨g1, g2, sn, of, rfl, HS.out, HC.out, T.out.1, T.out.2.1, HB.out⟩
      | cons q Q =>
        have hk : 0 < k := by rw [hot.len]; exact Nat.succ_pos _
        obtain ⟨hqu, n1, n2, n4⟩ := hq hk
        have hki : (0 : Int) < (k : Int) := by omega
        have HCW := Lib.hid (cnW_is h3.1 n (Nat.le_refl n))
        obtain ⟨hd0, -⟩ := hqu.head
        have hgl := hqu.lt
        have HIN := hot.enter
        obtain ⟨d, hd⟩ : ∃ d, d = k + (n - cnT sn n) := ⟨_, rfl⟩
        rw [← hd] at HIN
        have HD := Lib.hid (show d = k + (n - cnW wr0 g1 n) by rw [HCW.out]; exact hd)
        have hqn : q < n := (hot.srch.conn q (hot.mem q List.mem_cons_self)).1
        have HIN := Lib.hid HIN
        have T := Lib.hid h3
        have HQ := Lib.hid hqu
        have N1 := Lib.hid n1
        have N2 := Lib.hid n2
        have N4 := Lib.hid n4
        have HB := Lib.hid hb
        clear hot h3 hq hqu n1 n2 n4 hb hd HCW
        go_upto_region 8 with fail
        clear hd0
        go_wp2_with fail
        go_loopw [11, 36] (fun qv iv wz => ∃ (i g o k c : Nat) (Q : List Nat) (sn' : Nat → Bool) (of' : Nat → Int), i ≤ M ∧ iv = .int .i64 i ∧ qv = .slice (some ⟨g, o, none⟩) k c ∧ Inr ls n m s d q i k o sn' of' Q ∧ S3 w.heap.size n M (wys ls m) wz g1 g2 (.slice D M cw) sn' of' ∧ Qu w.heap.size wz g o k c (q :: Q) ∧ g ≠ g1 ∧ g ≠ g2 ∧ (∀ x, (Value.slice D M cw).ownBlock = some x → some g ≠ some x) ∧ Below w.heap.size w wz) (fun _ iv _ => M - (intOf iv).toNat)
        case atStart => exact ⟨0, g, o, k, c, Q, sn, of, Nat.zero_le _, rfl, rfl, HIN.out, T.out, HQ.out, N1.out, N2.out, N4.out, HB.out⟩
        case round =>
          obtain ⟨i, g', o', k', c', Q', sn', of', hi, rfl, rfl, hin, h3, hqu, n1, n2, n4, hb⟩ := hrel
          clear HIN T HQ N1 N2 N4 HB
          have HIN := Lib.hid hin
          have T := Lib.hid h3
          have HQ := Lib.hid hqu
          have N1 := Lib.hid n1
          have N2 := Lib.hid n2
          have N4 := Lib.hid n4
          have HB := Lib.hid hb
          clear hin h3 hqu n1 n2 n4 hb
          by_cases hlt : i < M
          · have hlt2 : (i : Int) < (M : Int) := by omega
            obtain ⟨b1, o1, rfl, l1, p0, p1, p2⟩ := cells3 (RdZ.of_own T.out.2.2.1 HWL.out) hlt
            obtain ⟨e0, e1, e2, f0, f1, f2, f3⟩ := HWN.out i hlt
            rw [e0] at p0
            rw [e1] at p1
            rw [e2] at p2
            have SM := HIN.out.srch.small q
            have SC := cnT_le sn' n
            have e9 : IntKind.i64.wrap (of' q + wO ls i) = of' q + wO ls i := IntWalk.i64_in _ (by omega)
            have HSK := Lib.hid (fun h => HIN.out.skip (i := i) h)
            have HOL := Lib.hid (fun h => HIN.out.old (i := i) h)
            have HNW := Lib.hid (fun (o2 : Nat) h1 h2 h3 => HNEW.out _ _ _ _ _ o2 _ _ _ HIN.out hlt h1 h2 h3)
            have HSML := Lib.hid HIN.out.small
            clear e0 e1 e2 SM SC f0 HWN HNEW HDN HIN
            generalize wF ls i = a at *
            generalize wT ls i = b at *
            generalize wO ls i = z at *
            have f1i : (b : Int) < (n : Int) := by omega
            have b0i : (0 : Int) ≤ (b : Int) := Int.natCast_nonneg _
            have q0i : (0 : Int) ≤ (q : Int) := Int.natCast_nonneg _
            have qni : (q : Int) < (n : Int) := by omega
            have T1 := Lib.hid (S3.alloc T.out (.cells #[.int .i64 (a : Int), .int .i64 (b : Int), .int .i64 z] 50))
            have Q1 := Lib.hid (Qu.alloc HQ.out (.cells #[.int .i64 (a : Int), .int .i64 (b : Int), .int .i64 z] 50))
            have HB1 := Lib.hid (HB.out.alloc HB.out.size (.cells #[.int .i64 (a : Int), .int .i64 (b : Int), .int .i64 z] 50))
            have BXX := Lib.hid (newS 50 #[.int .i64 (a : Int), .int .i64 (b : Int), .int .i64 z] wr)
            have hgw := HQ.out.lt
            have hg1 := own_lt T.out.1
            have hg2 := own_lt T.out.2.1
            clear T HQ HB
            go_upto_region 11 with fail
            clear p0 p1 p2
            generalize hwr : wr.heap.size = bx at *
            have hsz : (wr.alloc (.cells #[.int .i64 (a : Int), .int .i64 (b : Int), .int .i64 z] 50)).heap.size = bx + 1 := by rw [World.size_alloc, hwr]
            clear hwr
            generalize wr.alloc (.cells #[.int .i64 (a : Int), .int .i64 (b : Int), .int .i64 z] 50) = W3 at *
            have x0 : W3.cell? ⟨bx, 0, none⟩ = some (.int .i64 (a : Int)) := BXX.out.cell 0
            have x1 : W3.cell? ⟨bx, 1, none⟩ = some (.int .i64 (b : Int)) := BXX.out.cell 1
            have x2 : W3.cell? ⟨bx, 2, none⟩ = some (.int .i64 z) := BXX.out.cell 2
            by_cases haq : a = q
            · subst haq
              have q1 := (T1.out.1.cellAt b (by omega)).trans (bls_at f1)
              cases hsb : sn' b
              · rw [hsb] at q1
                have q2 := (T1.out.2.1.cellAt a (by omega)).trans (its_at hqn)
                have q3 := (T1.out.2.1.cellAt b (by omega)).trans (its_at f1)
                have r1 := T1.out.1.frozenAt b
                have r2 := T1.out.2.1.frozenAt b
                have n1 : g1 ≠ bx := by omega
                have n2 : g2 ≠ bx := by omega
                have n3 : bx ≠ g1 := by omega
                have n4 : bx ≠ g2 := by omega
                have n5 := T1.out.2.2.2.1
                have n6 : g2 ≠ g1 := fun h => n5 h.symm
                have l6 := own_.row_ge T1.out.1 g1 rfl
                have l7 := own_.row_ge T1.out.2.1 g2 rfl
                have TT := Lib.hid ((T1.out.drewN 1).set (t := b) (of' a + z))
                have QT := Lib.hid ((Q1.out.drewN 1).set (t := b) N1.out N2.out (of' a + z))
                have BT := Lib.hid ((HB1.out.drew.setCell (p := ⟨g2, b, none⟩) l7 (.int .i64 (of' a + z))).setCell (p := ⟨g1, b, none⟩) l6 (.bool true))
                have XT := Lib.hid (show ((W3.drew.setCell ⟨g2, b, none⟩ (.int .i64 (of' a + z))).setCell ⟨g1, b, none⟩ (.bool true)).cell? ⟨bx, 1, none⟩ = some (.int .i64 (b : Int)) from
                  (grown_set (grown_refl _ (some g1)) b (.bool true)).cell ((grown_set (grown_refl W3.drew (some g2)) b (.int .i64 (of' a + z))).cell (show W3.drew.cell? ⟨bx, 1, none⟩ = _ from x1) (fun e => by injection e with e; exact n4 e)) (fun e => by injection e with e; exact n3 e))
                have HNW2 := Lib.hid (fun o2 h => HNW.out o2 rfl hsb h)
                clear HOL HNW HSK hsb l6 l7 T1 Q1 HB1
                generalize hsum : of' a + z = sum at *
                generalize upd of' b sum = ofu at *
                generalize upd sn' b true = snu at *
                go_upto_region 12 with fail
                go_cut [11] from 52 to 66 (fun qv wz => qv = .slice (some ⟨g', o', none⟩) k' c' ∧ S3 w.heap.size n M (wys ls m) wz g1 g2 (.slice (some ⟨b1, o1, none⟩) M cw) snu ofu ∧ Qu w.heap.size wz g' o' k' c' (a :: Q') ∧ Below w.heap.size w wz ∧ wz.cell? ⟨bx, 1, none⟩ = some (.int .i64 (b : Int)))
                case first =>
                  go_region
                  all_goals (try go_wp2)
                  all_goals (
                    go_meet
                    exact ⟨rfl, TT.out, QT.out, BT.out, XT.out⟩)
                case rest =>
                  obtain ⟨rfl, h3, hqu, hb, x1'⟩ := hcut
                  clear q1 q2 q3 r1 r2 x0 x1 x2 TT QT BT XT
                  obtain ⟨ys, hy1, hy2⟩ := hqu
                  have hys := hy1.alloc (.cells #[.int .i64 (b : Int)] 3)
                  have hu := (newS 3 #[.int .i64 (b : Int)] wc).cell 0
                  have hbb : w.heap.size ≤ (wc.alloc (.cells #[.int .i64 (b : Int)] 3)).heap.size := by have := hb.size; rw [World.size_alloc]; omega
                  have hok : o' + k' ≤ 1048576 := by have := HSML.out; have := cnT_le sn' n; omega
                  have T2 := Lib.hid (S3.alloc h3 (.cells #[.int .i64 (b : Int)] 3))
                  have HY2 := Lib.hid hy2
                  have HB2 := Lib.hid (hb.alloc hb.size (.cells #[.int .i64 (b : Int)] 3))
                  have G1 := Lib.hid (own_lt (h3.alloc (.cells #[.int .i64 (b : Int)] 3)).1)
                  have G2 := Lib.hid (own_lt (h3.alloc (.cells #[.int .i64 (b : Int)] 3)).2.1)
                  have G4 := Lib.hid (own_row_lt (h3.alloc (.cells #[.int .i64 (b : Int)] 3)).2.2.1)
                  have GG := Lib.hid (own_.row_ge hy1 g' rfl)
                  clear hy2 h3 hb hy1
                  go_wp2_with (at_builtin; refine wpList_append_off _ rfl (.tmp 67) (.tmp 70) 38 rfl w.heap.size 3 ii (.int .i64 0) Try.underlying38 hii hi0 hi1 hi2 rfl g' o' k' c' ys rfl hys ⟨wc.heap.size, 0, none⟩ 1 (.int .i64 (b : Int)) rfl hu rfl hok hbb ?_; intro g3 o3 c3 w4 zs a1 a2 a3 a4 a5 a6)
                  have HI := Lib.hid (HNW2.out o3 a3)
                  have T4 := Lib.hid (T2.out.keep a5 (fun e => by injection e with e; exact N1.out e) (fun e => by injection e with e; exact N2.out e) N4.out)
                  have Q4 := Lib.hid (show Qu w.heap.size w4 g3 o3 (k' + 1) c3 (a :: (Q' ++ [b])) from ⟨zs, a1, by rw [a2, HY2.out, ← List.cons_append, nats_app]⟩)
                  have M1 := Lib.hid (show g3 ≠ g1 from fun e => by
                    rcases a6 with h | h
                    · exact N1.out (by omega)
                    · have := G1.out; omega)
                  have M2 := Lib.hid (show g3 ≠ g2 from fun e => by
                    rcases a6 with h | h
                    · exact N2.out (by omega)
                    · have := G2.out; omega)
                  have M4 := Lib.hid (fun x (hx : Value.ownBlock (.slice (some ⟨b1, o1, none⟩) M cw) = some x) => show some g3 ≠ some x from fun e => by
                    injection e with e
                    rcases a6 with h | h
                    · exact N4.out x hx (by rw [← h, e])
                    · have := G4.out x hx; omega)
                  have HB4 := Lib.hid (HB2.out.grown a5 hbb (fun g e => by injection e with e; have := GG.out; omega))
                  clear a1 a2 a3 a4 a5 a6 T2 HB2 hys hu hok hbb x1' G1 G2 G4 GG HNW2 HSML
                  go_roundw
                  case rel => exact ⟨i + 1, g3, o3, k' + 1, c3, Q' ++ [b], snu, ofu, by omega, by go_num, rfl, HI.out, T4.out, Q4.out, M1.out, M2.out, M4.out, HB4.out⟩
                  case measure => simp [intOf]; omega
              · rw [hsb] at q1
                have HI := Lib.hid (HOL.out hsb)
                clear HOL HNW HSK hsb
                go_wp2_with fail
                go_roundw
                case rel => exact ⟨i + 1, g', o', k', c', Q', sn', of', by omega, by go_num, rfl, HI.out, T1.out, Q1.out, N1.out, N2.out, N4.out, HB1.out⟩
                case measure => simp [intOf]; omega
            · have HI := Lib.hid (HSK.out haq)
              have haq2 : ((a : Int) == (q : Int)) = false := beq_eq_false_iff_ne.mpr (by omega)
              clear HOL HNW HSK
              go_wp2_with fail
              go_roundw
              case rel => exact ⟨i + 1, g', o', k', c', Q', sn', of', by omega, by go_num, rfl, HI.out, T1.out, Q1.out, N1.out, N2.out, N4.out, HB1.out⟩
              case measure => simp [intOf]; omega
          · obtain rfl : i = M := by omega
            have HC2 := Lib.hid (cnW_is T.out.1 n (Nat.le_refl n))
            have k1 : (1 : Int) ≤ (k' : Int) := by have := HIN.out.len; omega
            have kc : (k' : Int) ≤ (c' : Int) := by have := HQ.out.le; omega
            have HMS := Lib.hid (show k' - 1 + (n - cnW wr g1 n) < k + (n - cnW wr0 g1 n) by
              have h1 := HIN.out.cnt
              have h2 := HD.out
              rw [HC2.out]
              omega)
            go_wp2_with fail
            go_roundw
            case rel =>
              by_cases hc1 : c' = 1
              · exact ⟨g', o', k' - 1, c' - 1, Q', sn', of', by rw [if_pos hc1], HDN.out _ _ _ _ _ _ _ _ HIN.out (by omega), T.out, fun h => absurd h (by omega), HB.out⟩
              · exact ⟨g', o' + 1, k' - 1, c' - 1, Q', sn', of', by rw [if_neg hc1], HDN.out _ _ _ _ _ _ _ _ HIN.out (by omega), T.out, fun _ => ⟨HQ.out.pop, N1.out, N2.out, N4.out⟩, HB.out⟩
            case measure => exact HMS.out
end Go.Proofs.Ytndogafihaooiaa.lnki
