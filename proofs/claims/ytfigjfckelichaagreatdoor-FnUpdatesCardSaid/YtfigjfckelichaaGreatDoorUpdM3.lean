/- For every code of at most 65536 bytes (and trivially for a longer one) the law FnUpdates returns true: updates, exchanges and distances are those of the model; an updated list is valid, and a track whose Id had a plot lies at that plot and has missed nothing. The two variables of the card hold what the program lays there. -/
import Derived.Test.YtfigjfckelichaaGreatDoorUpdM2
import Derived.Test.YtfigjfckelichaaGreatDoorTrkG
import Derived.Test.YtfigjfckelichaaGreatDoorTrkZ
import Derived.Test.YtfigjfckelichaaGreatDoorAsgU
import Derived.Test.YtfigjfckelichaaGreatDoorRws
import Derived.OwnWalk
import Derived.Test.YtfigjfckelichaaGreatDoorAsgX
import Derived.Test.YtfigjfckelichaaGreatDoorTrkX
import Derived.Test.YtfigjfckelichaaGreatDoorTrkE
import Derived.BigQuiet
import Derived.WalkKit
import Derived.Test.YtfigjfckelichaaGreatDoorCards
import Derived.Test.YtfigjfckelichaaGreatDoorTie
import Derived.Test.YtfigjfckelichaaGreatDoorErL
import Derived.Test.YtfigjfckelichaaGreatDoorUpdM1
import Derived.Test.YtfigjfckelichaaGreatDoorPlcE
import Derived.Test.YtfigjfckelichaaGreatDoorIntC
import Derived.Test.YtfigjfckelichaaGreatDoorCode
import Derived.ProofKit
import Derived.OpenShut
import Derived.ShutString
import Derived.ChangeOld
import Derived.Below
import Derived.Deep.QuietTactic
import Derived.Deep.RegionHeld3
import Derived.Deep.CutRange
import Derived.Deep.CutBlock
import Derived.Stop.LaidErr
import Derived.Deep.DeepHandedRow
import Derived.Lib.LaidTab
import Derived.OpenVars

/- impl's UpdateTracks. -/
namespace Go.Proofs.YtfigjfckelichaaGreatDoor.asgm
open Go.RowKit Go.Proofs.YtfigjfckelichaaGreatDoor.ints Go.Proofs.YtfigjfckelichaaGreatDoor.lst Go.Proofs.YtfigjfckelichaaGreatDoor.in_ Go.Proofs.YtfigjfckelichaaGreatDoor.ats Go.Proofs.YtfigjfckelichaaGreatDoor.pos Go.Proofs.YtfigjfckelichaaGreatDoor.trk Go.Proofs.YtfigjfckelichaaGreatDoor.trkm Go.Proofs.YtfigjfckelichaaGreatDoor.trke Go.Proofs.YtfigjfckelichaaGreatDoor.intc Go.Proofs.YtfigjfckelichaaGreatDoor.asg Go.Proofs.YtfigjfckelichaaGreatDoor.asgb Go.Proofs.YtfigjfckelichaaGreatDoor.asgk Go.Proofs.YtfigjfckelichaaGreatDoor.asgl Go.Proofs.YtfigjfckelichaaGreatDoor.trkw Go.Proofs.YtfigjfckelichaaGreatDoor.era

theorem drop_at {xs : List Int} {k : Nat} {x : Int} (h : xs[k]? = some x) : xs.drop k = x :: xs.drop (k + 1) := by
  have hl := (List.getElem?_eq_some_iff.1 h).1
  have hx := (List.getElem?_eq_some_iff.1 h).2
  rw [List.drop_eq_getElem_cons hl, hx]
set_option maxRecDepth 100000 in
set_option maxHeartbeats 8000000 in
theorem updateTracks (zs ps : List Int) (g : Int) (A C : Option Addr) (n c m cq : Nat) (w : World) (hn : n ≤ 1048577) (hm : m ≤ 1048577) (h1 : RdZ 6 w w.heap.size A n zs) (h2 : RdZ 2 w w.heap.size C m ps) (heh : Eh w) (hx : Ex w) :
    Calls Tryz.prog 21 #[.slice A n c, .slice C m cq, .int .i64 g] w fun e w' => ∃ v, e = .returned (.tuple #[v, .bool (upB zs n ps m g)]) ∧ w'.ownsRow w.heap.size 25 6 v (upN zs n ps m g) (cellsI (upL zs n ps m g)) ∧ Below w.heap.size w w' := by
  have H1 := Lib.hid (asgi.bestAssignment zs ps g A C n c m cq w hn hm h1 h2)
  cases hq : akB zs n ps m g
  · have HE := Lib.hid (u_no (u_ask hq))
    have HUB := Lib.hid (u_ask hq)
    rw [hq] at H1
    clear hq h1 h2 heh hx
    go_enter Tryz.func21, Tryz.ntmps21
    go_wp2_with fail
    refine H1.out.mono ?_
    rintro e w1 ⟨v, rfl, ho, hb⟩
    obtain ⟨A1, c1, rfl⟩ := own_sliceZ ho
    have HB := Lib.hid hb
    clear ho hb
    go_wp2_with fail
    go_ret2
    exact ⟨_, by rw [HUB.out]; rfl, by rw [HE.out.1, HE.out.2]; exact World.ownsRow_nil .., HB.out⟩
  rw [hq] at H1
  have hm5 := (akB_yes hq).2.2.1
  have hn6 := (tvB_yes (akB_yes hq).1).2
  have HPR := Lib.hid (agB_yes (be_asg hq).1).2.2
  have HLV := Lib.hid (beV_length hq)
  have HUB := Lib.hid (show upB zs n ps m g = scB zs n (idT zs (beV zs n ps m g) n) (idT zs (beV zs n ps m g) n).length (plL ps (beV zs n ps m g) n) (idT zs (beV zs n ps m g) n).length by unfold upB upQ; rw [hq]; rfl)
  have HUP := Lib.hid (show upP zs n ps m g = upT ps (unT (beV zs n ps m g) m) (scL zs n (idT zs (beV zs n ps m g) n) (idT zs (beV zs n ps m g) n).length (plL ps (beV zs n ps m g) n) (idT zs (beV zs n ps m g) n).length) (scN zs n (idT zs (beV zs n ps m g) n) (idT zs (beV zs n ps m g) n).length (plL ps (beV zs n ps m g) n) (idT zs (beV zs n ps m g) n).length) from rfl)
  have HNO := Lib.hid (fun h => u_no (zs := zs) (n := n) (ps := ps) (m := m) (g := g) h)
  have HYE := Lib.hid (fun h => u_yes (zs := zs) (n := n) (ps := ps) (m := m) (g := g) h)
  have HSN := Lib.hid (scN_le zs n (idT zs (beV zs n ps m g) n) (idT zs (beV zs n ps m g) n).length (plL ps (beV zs n ps m g) n) (idT zs (beV zs n ps m g) n).length)
  have HSL := Lib.hid (scL_length zs n (idT zs (beV zs n ps m g) n) (idT zs (beV zs n ps m g) n).length (plL ps (beV zs n ps m g) n) (idT zs (beV zs n ps m g) n).length)
  have HIL := Lib.hid (idT_le zs (beV zs n ps m g) n)
  have HPL := Lib.hid (plL_length zs ps (beV zs n ps m g) n)
  have HUN := Lib.hid (fun (j : Nat) (x : Int) (h : (unT (beV zs n ps m g) m)[j]? = some x) => un_at h)
  have HUL := Lib.hid (unT_le (beV zs n ps m g) m)
  have HR2 := Lib.hid h2
  have HHI := Lib.hid (fun (E : Option Addr) (ce : Nat) (W : World) (hb : Below w.heap.size w W) (h3 : RdI W W.heap.size E n (beV zs n ps m g)) => hitsOf zs ps (beV zs n ps m g) A C E n c m cq n ce W hn6 HPR.out (Nat.le_refl _) (h1.next hb) (h2.next hb) h3)
  have HSC := Lib.hid (fun (A8 A9 : Option Addr) (c8 c9 : Nat) (W : World) (hb : Below w.heap.size w W) (h3 : RdI W W.heap.size A8 (idT zs (beV zs n ps m g) n).length (idT zs (beV zs n ps m g) n)) (h4 : RdZ 2 W W.heap.size A9 (idT zs (beV zs n ps m g) n).length (plL ps (beV zs n ps m g) n)) => trkg.scanTracks zs (idT zs (beV zs n ps m g) n) (plL ps (beV zs n ps m g) n) A A8 A9 n c (idT zs (beV zs n ps m g) n).length c8 (idT zs (beV zs n ps m g) n).length c9 W hn (by have := HIL.out; omega) (by have := HIL.out; omega) (h1.next hb) h3 h4 (trkf.eh_on heh hb) (trkw.ex_on hx hb))
  have HUF := Lib.hid (fun (E : Option Addr) (ce : Nat) (W : World) (h3 : RdI W W.heap.size E n (beV zs n ps m g)) => asgg.unpaired (beV zs n ps m g) C E m cq n ce W hm (by omega) h3)
  clear hq h1 h2 heh hx
  generalize upP zs n ps m g = UP at *
  generalize scL zs n (idT zs (beV zs n ps m g) n) (idT zs (beV zs n ps m g) n).length (plL ps (beV zs n ps m g) n) (idT zs (beV zs n ps m g) n).length = sl at *
  generalize scN zs n (idT zs (beV zs n ps m g) n) (idT zs (beV zs n ps m g) n).length (plL ps (beV zs n ps m g) n) (idT zs (beV zs n ps m g) n).length = sn at *
  generalize scD zs n (idT zs (beV zs n ps m g) n) (idT zs (beV zs n ps m g) n).length (plL ps (beV zs n ps m g) n) (idT zs (beV zs n ps m g) n).length = sd at *
  generalize scB zs n (idT zs (beV zs n ps m g) n) (idT zs (beV zs n ps m g) n).length (plL ps (beV zs n ps m g) n) (idT zs (beV zs n ps m g) n).length = sb at *
  generalize unT (beV zs n ps m g) m = fr at *
  generalize (plL ps (beV zs n ps m g) n) = pls at *
  generalize (idT zs (beV zs n ps m g) n) = ids at *
  generalize (beV zs n ps m g) = bv at *
  go_enter Tryz.func21, Tryz.ntmps21
  go_wp2_with fail
  refine H1.out.mono ?_
  rintro e w1 ⟨v, rfl, ho, hb⟩
  rw [HLV.out] at ho
  obtain ⟨A1, c1, rfl⟩ := own_sliceZ ho
  have HB1 := Lib.hid hb
  have O1 := Lib.hid ho
  clear ho hb H1
  go_wp2_with fail
  refine (HHI.out A1 c1 w1 HB1.out (intc.rd_of_own O1.out HLV.out)).mono ?_
  rintro e w2 ⟨v8, v9, rfl, hT, hb⟩
  obtain ⟨A8, c8, rfl⟩ := own_sliceZ hT.1
  obtain ⟨A9, c9, rfl⟩ := own_sliceZ hT.2
  have R8 := Lib.hid (intc.rd_of_own hT.1 rfl)
  have R9 := Lib.hid (RdZ.of_own hT.2 HPL.out)
  have HB2 := Lib.hid (HB1.out.trans (hb.mono HB1.out.size))
  have O2 := Lib.hid (own_.own_below O1.out hb)
  clear hT hb HHI HB1 O1
  go_wp2_with fail
  refine (HSC.out A8 A9 c8 c9 w2 HB2.out R8.out R9.out).mono ?_
  rintro e w3 ⟨v3, rfl, ho, hb⟩
  obtain ⟨A3, c3, rfl⟩ := own_sliceZ ho
  have O3 := Lib.hid (own_.own_below O2.out hb)
  have OS := Lib.hid (own_.own_base ho HB2.out.size)
  have HB3 := Lib.hid (HB2.out.trans (hb.mono HB2.out.size))
  clear ho hb HSC HB2 O2 R8 R9
  have hsn6 : sn ≤ 6 := Nat.le_trans HSN.out hn6
  cases sb
  · have HE := Lib.hid (HNO.out HUB.out)
    go_wp2_with fail
    go_ret2
    exact ⟨_, by rw [HUB.out]; rfl, by rw [HE.out.1, HE.out.2]; exact World.ownsRow_nil .., HB3.out⟩
  have HYES := Lib.hid (HYE.out HUB.out)
  clear HNO HYE
  go_wp2_with fail
  refine (HUF.out A1 c1 w3 (intc.rd_of_own O3.out HLV.out)).mono ?_
  rintro e w4 ⟨v4, rfl, ho, hb⟩
  obtain ⟨A4, c4, rfl⟩ := own_sliceZ ho
  have RF := Lib.hid (intc.rd_of_own ho rfl)
  have O4 := Lib.hid (own_.own_below OS.out hb)
  have HB4 := Lib.hid (HB3.out.trans (hb.mono HB3.out.size))
  clear ho hb HUF HB3 O3 OS
  go_wp2_with fail
  go_loopw [13, 51] (fun v q wr => ∃ (k : Nat) (t zz : List Int) (nn : Nat), k ≤ fr.length ∧ q = .int .i64 k ∧ fr.drop k = t ∧ upT ps t zz nn = UP ∧ zz.length = nn * 6 ∧ nn ≤ 6 ∧ wr.ownsRow w.heap.size 25 6 v nn (cellsI zz) ∧ Below w4.heap.size w4 wr) (fun _ q _ => fr.length - (intOf q).toNat)
  case atStart => exact ⟨0, fr, sl, sn, Nat.zero_le _, rfl, rfl, HUP.out.symm, HSL.out, hsn6, O4.out, Below.refl _ _⟩
  case round =>
    obtain ⟨k, t, zz, nn, hk, rfl, hdr, hup, hzl, hnn, hO, hb⟩ := hrel
    obtain ⟨Az, cz, rfl⟩ := own_sliceZ hO
    have HO := Lib.hid hO
    have HB := Lib.hid (HB4.out.trans (hb.mono HB4.out.size))
    have HUPK := Lib.hid hup
    have hcap := own_cap hO
    have HRD := Lib.hid (RdZ.of_own hO hzl)
    have HZL := Lib.hid hzl
    have HDR := Lib.hid hdr
    have HB5 := Lib.hid hb
    clear hO hup hzl hdr
    by_cases hlt : k < fr.length
    · obtain ⟨bf, of, x, rfl, lf, hx, fc⟩ := (RF.out.next hb).at_ hlt
      obtain ⟨j, rfl, hjm⟩ := HUN.out k x hx
      have hlt2 : (k : Int) < (fr.length : Int) := by omega
      have hk0 : (0 : Int) ≤ (k : Int) := Int.natCast_nonneg _
      have hj0 : (0 : Int) ≤ (j : Int) := Int.natCast_nonneg _
      have hjm2 : (j : Int) < (m : Int) := by omega
      obtain ⟨t', rfl⟩ : ∃ t', t = (j : Int) :: t' := ⟨fr.drop (k + 1), by rw [← HDR.out]; exact drop_at hx⟩
      have HDR2 := Lib.hid (show fr.drop (k + 1) = t' from by
        have h1 := HDR.out
        rw [drop_at hx] at h1
        injection h1)
      obtain ⟨bp, op, rfl, lp, p0, p1⟩ := asga.cells2 (HR2.out.next HB.out) hjm
      have HST := Lib.hid (trkz.startI zz (fld 2 ps j 0) (fld 2 ps j 1) Az nn cz wr hcap (by omega) HRD.out)
      have HUY := Lib.hid (fun h => up_yes (ps := ps) (zs := zz) (t := t') (n := nn) (k := j) h)
      have HUNo := Lib.hid (fun h => up_no (ps := ps) (zs := zz) (t := t') (n := nn) (k := j) h)
      have HSY := Lib.hid (fun h => st_yes (zs := zz) (n := nn) (x := fld 2 ps j 0) (y := fld 2 ps j 1) h)
      have HS6 := Lib.hid (fun (h : stB zz nn (fld 2 ps j 0) (fld 2 ps j 1) = true) => show (stR zz nn (fld 2 ps j 0) (fld 2 ps j 1)).length = (nn + 1) * 6 ∧ nn + 1 ≤ 6 from ⟨by unfold stR; rw [List.length_append, HZL.out, six_length]; omega, (tvB_yes h).2⟩)
      have hfl := HUL.out
      clear hx hcap hb
      generalize fld 2 ps j 0 = x0 at *
      generalize fld 2 ps j 1 = y0 at *
      cases hs : stB zz nn x0 y0
      · have HV := Lib.hid ((HUNo.out hs).symm.trans HUPK.out)
        rw [hs] at HST
        clear hs HUY HUNo HSY HS6 HUPK
        go_wp2_with fail
        refine HST.out.mono ?_
        rintro e W8 ⟨v8, rfl, ho, hb⟩
        obtain ⟨A8, c8, rfl⟩ := own_sliceZ ho
        have HO8 := Lib.hid (own_.own_below HO.out hb)
        have HB8 := Lib.hid (HB.out.trans (hb.mono HB.out.size))
        clear ho hb
        go_wp2_with fail
        go_ret2
        exact ⟨_, by rw [HUB.out]; rfl, by rw [HYES.out.1, HYES.out.2, ← HV.out]; exact HO8.out, HB8.out⟩
      · have HV := Lib.hid ((HUY.out hs).symm.trans HUPK.out)
        have HSV := Lib.hid (HSY.out hs)
        have HS7 := Lib.hid (HS6.out hs)
        rw [hs] at HST
        clear hs HUY HUNo HSY HS6 HUPK
        go_wp2_with fail
        refine HST.out.mono ?_
        rintro e W8 ⟨v8, rfl, ho, hb⟩
        rw [HSV.out.1, HSV.out.2.1] at ho
        obtain ⟨A8, c8, rfl⟩ := own_sliceZ ho
        have HO8 := Lib.hid (own_.own_base ho HB.out.size)
        have HB8 := Lib.hid (HB5.out.trans (hb.mono HB5.out.size))
        clear ho hb
        go_wp2_with fail
        go_roundw
        case rel => exact ⟨k + 1, t', stR zz nn x0 y0, nn + 1, by omega, by go_num, HDR2.out, HV.out, HS7.out.1, HS7.out.2, HO8.out, HB8.out⟩
        case measure => simp [intOf]; omega
    · obtain rfl : k = fr.length := by omega
      have HV := Lib.hid (show (zz, nn) = UP by
        have h1 := HDR.out
        rw [List.drop_length] at h1
        have h2 := HUPK.out
        rw [← h1] at h2
        exact h2)
      clear hb
      go_wp2_with fail
      go_ret2
      exact ⟨_, by rw [HUB.out]; rfl, by rw [HYES.out.1, HYES.out.2, ← HV.out]; exact HO.out, HB.out⟩

end Go.Proofs.YtfigjfckelichaaGreatDoor.asgm

/- spec's PlotDistance, l15Cost, AssignmentCost. -/
namespace Go.Proofs.YtfigjfckelichaaGreatDoor.asgv
open Go.RowKit Go.Proofs.YtfigjfckelichaaGreatDoor.ints Go.Proofs.YtfigjfckelichaaGreatDoor.lst Go.Proofs.YtfigjfckelichaaGreatDoor.in_ Go.Proofs.YtfigjfckelichaaGreatDoor.ats Go.Proofs.YtfigjfckelichaaGreatDoor.pos Go.Proofs.YtfigjfckelichaaGreatDoor.trk Go.Proofs.YtfigjfckelichaaGreatDoor.trkm Go.Proofs.YtfigjfckelichaaGreatDoor.trke Go.Proofs.YtfigjfckelichaaGreatDoor.intc Go.Proofs.YtfigjfckelichaaGreatDoor.asg

set_option maxRecDepth 100000 in
set_option maxHeartbeats 4000000 in
theorem plotDistance (i s x y h l u v : Int) (w : World) :
    Calls Tryz.prog 29 #[.agg #[.int .i64 i, .int .i64 s, .int .i64 x, .int .i64 y, .int .i64 h, .int .i64 l], .agg #[.int .i64 u, .int .i64 v]] w fun e w' => e = .returned (.tuple #[.int .i64 (pdV i s x y h l u v), .bool (pdB i s x y h l u v)]) ∧ Below w.heap.size w w' := by
  have S0 := Lib.hid ((newS 25 #[.int .i64 i, .int .i64 s, .int .i64 x, .int .i64 y, .int .i64 h, .int .i64 l] w).alloc (.cells #[.int .i64 u, .int .i64 v] 35))
  have S1 := Lib.hid ((newS 25 #[.int .i64 i, .int .i64 s, .int .i64 x, .int .i64 y, .int .i64 h, .int .i64 l] w).next 35 #[.int .i64 u, .int .i64 v])
  rw [World.size_alloc] at S1
  have H1 := Lib.hid (fun W => trks.good14 i s x y h l W)
  have H2 := Lib.hid (fun W => poss.good7 u v W)
  cases hp : tkB i s x y h l
  · have HV := Lib.hid (pd_no (i := i) (s := s) (x := x) (y := y) (h := h) (l := l) (u := u) (v := v) (by rw [hp]; rfl))
    rw [hp] at H1
    clear hp
    go_enter Tryz.func29, Tryz.ntmps29
    go_wp2_with fail
    generalize (w.alloc (.cells #[.int .i64 i, .int .i64 s, .int .i64 x, .int .i64 y, .int .i64 h, .int .i64 l] 25)).alloc (.cells #[.int .i64 u, .int .i64 v] 35) = W0 at *
    refine (H1.out W0).mono ?_
    rintro e W1 ⟨rfl, hb⟩
    have B1 := Lib.hid (S0.out.1.trans (hb.mono S0.out.1.size))
    clear hb
    go_wp2_with fail
    go_ret2
    exact ⟨by rw [HV.out.1, HV.out.2]; rfl, B1.out⟩
  rw [hp] at H1
  cases hq : pB u v
  · have HV := Lib.hid (pd_no (i := i) (s := s) (x := x) (y := y) (h := h) (l := l) (u := u) (v := v) (by rw [hp, hq]; rfl))
    rw [hq] at H2
    clear hp hq
    go_enter Tryz.func29, Tryz.ntmps29
    go_wp2_with fail
    generalize (w.alloc (.cells #[.int .i64 i, .int .i64 s, .int .i64 x, .int .i64 y, .int .i64 h, .int .i64 l] 25)).alloc (.cells #[.int .i64 u, .int .i64 v] 35) = W0 at *
    refine (H1.out W0).mono ?_
    rintro e W1 ⟨rfl, hb⟩
    have B1 := Lib.hid (S0.out.1.trans (hb.mono S0.out.1.size))
    have p0 : W1.cell? ⟨w.heap.size + 1, 0, none⟩ = some (.int .i64 u) := (S1.out.old hb).cell 0
    have p1 : W1.cell? ⟨w.heap.size + 1, 1, none⟩ = some (.int .i64 v) := (S1.out.old hb).cell 1
    have HB1 := Lib.hid hb
    clear hb
    go_wp2_with fail
    refine (H2.out W1).mono ?_
    rintro e W2 ⟨rfl, hb2⟩
    have HB2 := Lib.hid (HB1.out.trans (hb2.mono HB1.out.size))
    have B2 := Lib.hid (S0.out.1.trans (HB2.out.mono S0.out.1.size))
    clear p0 p1 hb2
    go_wp2_with fail
    go_ret2
    exact ⟨by rw [HV.out.1, HV.out.2]; rfl, B2.out⟩
  rw [hq] at H2
  have HV := Lib.hid (pd_yes hp hq)
  have H3 := Lib.hid (fun W => show Calls Tryz.prog 69 #[.agg #[.int .i64 i, .int .i64 s, .int .i64 x, .int .i64 y, .int .i64 h, .int .i64 l], .agg #[.int .i64 u, .int .i64 v]] W (fun e w' => e = .returned (.int .i64 (dst x y u v)) ∧ Below W.heap.size W w') from asgs.distance15 i s x y h l u v (tkB_yes hp).2.1 hq W)
  clear hp hq
  go_enter Tryz.func29, Tryz.ntmps29
  go_wp2_with fail
  generalize (w.alloc (.cells #[.int .i64 i, .int .i64 s, .int .i64 x, .int .i64 y, .int .i64 h, .int .i64 l] 25)).alloc (.cells #[.int .i64 u, .int .i64 v] 35) = W0 at *
  refine (H1.out W0).mono ?_
  rintro e W1 ⟨rfl, hb⟩
  have B1 := Lib.hid (S0.out.1.trans (hb.mono S0.out.1.size))
  have p0 : W1.cell? ⟨w.heap.size + 1, 0, none⟩ = some (.int .i64 u) := (S1.out.old hb).cell 0
  have p1 : W1.cell? ⟨w.heap.size + 1, 1, none⟩ = some (.int .i64 v) := (S1.out.old hb).cell 1
  have HB1 := Lib.hid hb
  clear hb
  go_wp2_with fail
  refine (H2.out W1).mono ?_
  rintro e W2 ⟨rfl, hb2⟩
  have HB2 := Lib.hid (HB1.out.trans (hb2.mono HB1.out.size))
  have B2 := Lib.hid (S0.out.1.trans (HB2.out.mono S0.out.1.size))
  clear p0 p1 hb2
  have t0 : W2.cell? ⟨w.heap.size, 0, none⟩ = some (.int .i64 i) := (S0.out.old HB2.out).cell 0
  have t1 : W2.cell? ⟨w.heap.size, 1, none⟩ = some (.int .i64 s) := (S0.out.old HB2.out).cell 1
  have t2 : W2.cell? ⟨w.heap.size, 2, none⟩ = some (.int .i64 x) := (S0.out.old HB2.out).cell 2
  have t3 : W2.cell? ⟨w.heap.size, 3, none⟩ = some (.int .i64 y) := (S0.out.old HB2.out).cell 3
  have t4 : W2.cell? ⟨w.heap.size, 4, none⟩ = some (.int .i64 h) := (S0.out.old HB2.out).cell 4
  have t5 : W2.cell? ⟨w.heap.size, 5, none⟩ = some (.int .i64 l) := (S0.out.old HB2.out).cell 5
  have p0 : W2.cell? ⟨w.heap.size + 1, 0, none⟩ = some (.int .i64 u) := (S1.out.old HB2.out).cell 0
  have p1 : W2.cell? ⟨w.heap.size + 1, 1, none⟩ = some (.int .i64 v) := (S1.out.old HB2.out).cell 1
  go_wp2_with fail
  refine (H3.out W2).mono ?_
  rintro e W3 ⟨rfl, hb3⟩
  have B3 := Lib.hid (B2.out.trans (hb3.mono B2.out.size))
  clear t0 t1 t2 t3 t4 t5 p0 p1 hb3
  go_wp2_with fail
  go_ret2
  exact ⟨by rw [HV.out.1, HV.out.2]; rfl, B3.out⟩

set_option maxRecDepth 100000 in
set_option maxHeartbeats 4000000 in
theorem cost15 (zs ps xs : List Int) (g : Int) (A C E : Option Addr) (c m cq e0 ce : Nat) (w : World) (hq : agB zs e0 ps m g xs e0 = true) (h1 : RdZ 6 w w.heap.size A e0 zs) (h2 : RdZ 2 w w.heap.size C m ps) (h3 : RdI w w.heap.size E e0 xs) :
    Calls Tryz.prog 91 #[.slice A e0 c, .slice C m cq, .int .i64 g, .slice E e0 ce] w fun e w' => e = .returned (.int .i64 (coT (pst zs ps) g (e0 + m) xs e0)) ∧ Below w.heap.size w w' := by
  obtain ⟨hak, -, hpr⟩ := agB_yes hq
  have HPT := Lib.hid (fun k hk => ak_track (i := k) hak hk)
  have HPP := Lib.hid (fun k hk => ak_plot (k := k) hak hk)
  have hm5 := (akB_yes hak).2.2.1
  have hg5 := (akB_yes hak).2.2.2
  have hn6 : e0 ≤ 6 := (tvB_yes (akB_yes hak).1).2
  have HPR := Lib.hid hpr
  have HR1 := Lib.hid h1
  have HR2 := Lib.hid h2
  have HR3 := Lib.hid h3
  have e1 : IntKind.i64.wrap (g + 1) = g + 1 := IntWalk.i64_in _ (by omega)
  have hml := mul_in (t := e0 + m) hg5 (show e0 + m ≤ 11 by omega)
  have HZ0 := (show coT (pst zs ps) g (e0 + m) xs 0 = (g + 1) * ((e0 + m : Nat) : Int) by unfold coT; rw [sdT, npT]; simp)
  have hcast : (e0 : Int) + (m : Int) = ((e0 + m : Nat) : Int) := by omega
  have e2 : IntKind.i64.wrap ((g + 1) * ((e0 + m : Nat) : Int)) = (g + 1) * ((e0 + m : Nat) : Int) := IntWalk.i64_in _ (by omega)
  rw [← hcast] at e2 HZ0 hml
  have HZ := Lib.hid HZ0
  clear hq hak hpr h1 h2 h3 hcast HZ0
  go_enter Tryz.func91, Tryz.ntmps91
  go_wp2_with fail
  go_loopw [9, 10] (fun s i wr => ∃ k : Nat, k ≤ e0 ∧ i = .int .i64 k ∧ s = .int .i64 (coT (pst zs ps) g (e0 + m) xs k) ∧ Below w.heap.size w wr) (fun _ i _ => e0 - (intOf i).toNat)
  case atStart => exact ⟨0, Nat.zero_le _, rfl, by rw [HZ.out], Below.refl _ _⟩
  case round =>
    obtain ⟨k, hk, rfl, rfl, hb⟩ := hrel
    have HB := Lib.hid hb
    by_cases hlt : k < e0
    · obtain ⟨b3, o3, x, rfl, l3, hx, p0⟩ := (HR3.out.next hb).at_ hlt
      have hlt2 : (k : Int) < (e0 : Int) := by omega
      have HGX := Lib.hid (getD_some hx)
      have HOK := Lib.hid (prB_at HPR.out hlt)
      have hk0 : (0 : Int) ≤ (k : Int) := Int.natCast_nonneg _
      have hin := coT_in (t := e0 + m) HPR.out (pst_nonneg zs ps) hg5 hk hn6 (by omega)
      have hnp := npT_le xs k
      clear hb hx
      rcases pairOk_yes HOK.out with hx1 | ⟨j, hj5, hx1, _, hd⟩
      · rw [HGX.out] at hx1
        have HT := Lib.hid (show coT (pst zs ps) g (e0 + m) xs (k + 1) = coT (pst zs ps) g (e0 + m) xs k from coT_none (by rw [HGX.out]; omega))
        generalize coT (pst zs ps) g (e0 + m) xs k = co at *
        have g1 : ¬ 0 ≤ x := by omega
        have g2 : decide (0 ≤ x) = false := decide_eq_false g1
        subst hx1
        clear HGX HOK
        go_wp2_with fail
        go_roundw
        case rel => exact ⟨k + 1, by omega, by go_num, by rw [HT.out], HB.out⟩
        case measure => simp [intOf]; omega
      · rw [HGX.out] at hx1
        subst hx1
        have hj0 : (0 : Int) ≤ (j : Int) := Int.natCast_nonneg _
        have hjm : (j : Int) < (m : Int) := by omega
        obtain ⟨b1, o1, rfl, l1, a0, a1, a2, a3, a4, a5⟩ := cellsE (HR1.out.next HB.out) hlt
        obtain ⟨b2, o2, rfl, l2, q0, q1⟩ := asgs.cells2 (HR2.out.next HB.out) hj5
        have TD := Lib.hid (fun w d0 os => Calls.regrown_of (show Calls Tryz.prog 69 #[.agg #[.int .i64 (fld 6 zs k 0), .int .i64 (fld 6 zs k 1), .int .i64 (fld 6 zs k 2), .int .i64 (fld 6 zs k 3), .int .i64 (fld 6 zs k 4), .int .i64 (fld 6 zs k 5)], .agg #[.int .i64 (fld 2 ps j 0), .int .i64 (fld 2 ps j 1)]] (Sort.grow (redrawn w d0) os) (fun e w' => e = .returned (.int .i64 (pst zs ps k j)) ∧ Below (Sort.grow (redrawn w d0) os).heap.size (Sort.grow (redrawn w d0) os) w') from asgs.distance15 (fld 6 zs k 0) (fld 6 zs k 1) (fld 6 zs k 2) (fld 6 zs k 3) (fld 6 zs k 4) (fld 6 zs k 5) (fld 2 ps j 0) (fld 2 ps j 1) (HPT.out k hlt) (HPP.out j hj5) (Sort.grow (redrawn w d0) os)))
        have HT := Lib.hid (show coT (pst zs ps) g (e0 + m) xs (k + 1) = coT (pst zs ps) g (e0 + m) xs k + pst zs ps k j - 2 * (g + 1) from co_some HGX.out)
        have hdd := pst_nonneg zs ps k j
        generalize coT (pst zs ps) g (e0 + m) xs k = co at *
        generalize fld 6 zs k 0 = u0 at *
        generalize fld 6 zs k 1 = u1 at *
        generalize fld 6 zs k 2 = u2 at *
        generalize fld 6 zs k 3 = u3 at *
        generalize fld 6 zs k 4 = u4 at *
        generalize fld 6 zs k 5 = u5 at *
        generalize fld 2 ps j 0 = v0 at *
        generalize fld 2 ps j 1 = v1 at *
        generalize pst zs ps k j = dd at *
        have e1 : IntKind.i64.wrap (co + dd) = co + dd := IntWalk.i64_in _ (by omega)
        have e2 : IntKind.i64.wrap (g + 1) = g + 1 := IntWalk.i64_in _ (by omega)
        have e3 : IntKind.i64.wrap (2 * (g + 1)) = 2 * (g + 1) := IntWalk.i64_in _ (by omega)
        have e4 : IntKind.i64.wrap (co + dd - 2 * (g + 1)) = co + dd - 2 * (g + 1) := IntWalk.i64_in _ (by omega)
        clear HGX HOK
        go_wp2_with fail
        have a0' := fun d0 os => cell_regrown a0 d0 os
        have a1' := fun d0 os => cell_regrown a1 d0 os
        have a2' := fun d0 os => cell_regrown a2 d0 os
        have a3' := fun d0 os => cell_regrown a3 d0 os
        have a4' := fun d0 os => cell_regrown a4 d0 os
        have a5' := fun d0 os => cell_regrown a5 d0 os
        have q0' := fun d0 os => cell_regrown q0 d0 os
        have q1' := fun d0 os => cell_regrown q1 d0 os
        clear a0 a1 a2 a3 a4 a5 q0 q1
        refine wp_region_quiet_below (by kernel_rfl) (by kernel_rfl) ?_
        repeat (
          with_reducible refine wpQuiet_step (fun K hK => ?_)
          go_simp
          first
            | (refine hK _ ?_; clear hK K)
            | (apply Exists.intro
               refine ⟨fun _ => ?_, hK _ ?_⟩
               (first
                 | (go_at_call 69; with_reducible exact TD.out _ _ _))
               clear hK K))
        with_reducible refine wpQuiet_nil ?_
        intro _ hw'
        obtain ⟨⟨dq, osq⟩, hw''⟩ := hw'
        subst hw''
        have hbl := (below_regrown wr dq osq)
        clear a0' a1' a2' a3' a4' a5' q0' q1'
        generalize Sort.grow (redrawn wr dq) osq = w3 at *
        have HBB := Lib.hid (HB.out.trans (hbl.mono HB.out.size))
        clear hbl HB TD
        go_wp2_with fail
        go_roundw
        case rel => exact ⟨k + 1, by omega, by go_num, by rw [HT.out], HBB.out⟩
        case measure => simp [intOf]; omega
    · obtain rfl : k = e0 := by omega
      go_wp2_with fail
      go_ret
      exact ⟨rfl, HB.out⟩

end Go.Proofs.YtfigjfckelichaaGreatDoor.asgv

/- spec's l1Own, l15Best, BestAssignment. -/
namespace Go.Proofs.YtfigjfckelichaaGreatDoor.asgy
open Go.RowKit Go.Proofs.YtfigjfckelichaaGreatDoor.ints Go.Proofs.YtfigjfckelichaaGreatDoor.lst Go.Proofs.YtfigjfckelichaaGreatDoor.in_ Go.Proofs.YtfigjfckelichaaGreatDoor.ats Go.Proofs.YtfigjfckelichaaGreatDoor.pos Go.Proofs.YtfigjfckelichaaGreatDoor.trk Go.Proofs.YtfigjfckelichaaGreatDoor.trkm Go.Proofs.YtfigjfckelichaaGreatDoor.trke Go.Proofs.YtfigjfckelichaaGreatDoor.intc Go.Proofs.YtfigjfckelichaaGreatDoor.asg Go.Proofs.YtfigjfckelichaaGreatDoor.asgb Go.Proofs.YtfigjfckelichaaGreatDoor.rws

theorem own_some {w : World} {B : Nat} {e : TypeId} {v : Value} {n : Nat} {xs : List Value} (h : w.ownsRow B e 1 v n xs) (h0 : 0 < n) : ∃ g c, v = .slice (some ⟨g, 0, none⟩) n c := by
  rcases h.2 with ⟨_, h1⟩ | ⟨g, cap, cur, rfl, _⟩
  · omega
  · exact ⟨g, cap, rfl⟩
theorem rd_cells {w : World} {B b o n : Nat} {P : List Int} (h : RdI w B (some ⟨b, o, none⟩) n P) : ∀ j u, (cellsI P)[j]? = some u → w.cell? ((⟨b, o, none⟩ : Addr).add j) = some u := by
  intro j u hu
  unfold cellsI at hu
  rw [List.getElem?_map] at hu
  cases hx : P[j]? with
  | none => rw [hx] at hu; cases hu
  | some x =>
    rw [hx] at hu
    have hj := (List.getElem?_eq_some_iff.1 hx).1
    obtain ⟨b', o', e, _, hc⟩ := h.2 (by have := h.1; omega)
    injection e with e
    injection e with e1 e2
    subst e1 e2
    rw [Addr.add_lit, hc j x hx]
    exact hu
theorem one_cells (P : List Int) : ∀ u ∈ cellsI P, u.oneCell' = true := by
  intro u hu
  unfold cellsI at hu
  rw [List.mem_map] at hu
  obtain ⟨x, _, rfl⟩ := hu
  rfl
theorem own1 (P : List Int) (b o n c : Nat) (w : World) (hn : n ≤ 1048576) (h : RdI w w.heap.size (some ⟨b, o, none⟩) n P) :
    Calls Tryz.prog 92 #[.slice (some ⟨b, o, none⟩) n c] w fun e w' => ∃ v, e = .returned v ∧ w'.ownsRow w.heap.size 3 1 v n (cellsI P) ∧ Below w.heap.size w w' := by
  obtain ⟨iI, hiI, hzI0, hzI1, hzI2⟩ := info_parts infoI
  have OE := Lib.hid (own_emptyZ w 3 1)
  have BE := Lib.hid ((Below.refl w.heap.size w).alloc (Nat.le_refl _) (.cells #[] 3))
  have HC := Lib.hid (rd_cells (h.next BE.out))
  have HL := Lib.hid (show (cellsI P).length = n * 1 by unfold cellsI; rw [List.length_map, h.1]; omega)
  have H1 := Lib.hid (one_cells P)
  clear h
  generalize cellsI P = Q at *
  go_enter Tryz.func92, Tryz.ntmps92
  go_wp2_with (at_builtin; refine wpList_append_any rfl (.tmp 3) (.tmp 4) 50 rfl w.heap.size 3 iI (.int .i64 0) 1 8 Tryz.underlying50 hiI hzI0 hzI1 hzI2 rfl (by decide) _ 0 [] rfl OE.out ⟨b, o, none⟩ n c Q rfl HL.out HC.out H1.out (by unfold maxLen; omega) (by omega) (by rw [World.size_alloc]; omega) ?_; intro v6 w6 o6 g6 n6)
  have O6 := Lib.hid (show w6.ownsRow w.heap.size 3 1 v6 n Q by rw [Nat.zero_add] at o6; exact o6)
  have B6 := Lib.hid (BE.out.grown g6 BE.out.size (own_.row_ge OE.out))
  obtain ⟨A6, c6, rfl⟩ := own_sliceZ O6.out
  clear o6 g6 n6
  go_wp2_with fail
  go_ret
  exact ⟨_, rfl, O6.out, B6.out⟩

set_option maxRecDepth 100000 in
set_option maxHeartbeats 4000000 in
theorem best15 {zs ps : List Int} {g : Int} {A C : Option Addr} {n c m cq : Nat} (hq : akB zs n ps m g = true) : ∀ (r : Nat) (P : List Int) (B g0 ce : Nat) (w : World), P.length + r = n → prB (pst zs ps) g m P P.length = true → B ≤ w.heap.size → RdZ 6 w w.heap.size A n zs → RdZ 2 w w.heap.size C m ps → w.ownsRow B 3 1 (.slice (some ⟨g0, 0, none⟩) P.length ce) P.length (cellsI P) →
    Calls Tryz.prog 60 #[.slice A n c, .slice C m cq, .int .i64 g, .slice (some ⟨g0, 0, none⟩) P.length ce] w fun e w' => ∃ v, e = .returned (.tuple #[v, .int .i64 (pcT (pst zs ps) g P P.length + (bst (pst zs ps) g m r P).2)]) ∧ w'.ownsRow B 3 1 v n (cellsI (P ++ (bst (pst zs ps) g m r P).1)) ∧ Below w.heap.size w w' := by
  intro r
  induction r with
  | zero =>
    intro P B g0 ce w hl hpr hB h1 h2 hO
    have hl' : P.length = n := hl
    have HRI := Lib.hid (intc.rd_of_own hO rfl)
    have hag : agB zs P.length ps m g P P.length = true := agB_of (by rw [hl']; exact hq) hpr
    have HC := Lib.hid (asgv.cost15 zs ps P g A C (some ⟨g0, 0, none⟩) c m cq P.length ce w hag (by rw [hl']; exact h1) h2 HRI.out)
    have HV := Lib.hid (show pcT (pst zs ps) g P P.length + (bst (pst zs ps) g m 0 P).2 = coT (pst zs ps) g (P.length + m) P P.length from (co_pc rfl hpr).symm)
    have HX := Lib.hid (show P ++ (bst (pst zs ps) g m 0 P).1 = P from List.append_nil P)
    have HO := Lib.hid hO
    rw [← hl']
    have g1 : ((P.length : Int) == (P.length : Int)) = true := by simp
    generalize (bst (pst zs ps) g m 0 P) = R at *
    generalize pcT (pst zs ps) g P P.length = pc at *
    clear hpr hag h1 h2 hO hl hl' HRI
    go_enter Tryz.func60, Tryz.ntmps60
    go_wp2_with fail
    refine HC.out.mono ?_
    rintro e w1 ⟨rfl, hb⟩
    have O1 := Lib.hid (own_.own_below HO.out hb)
    have HB1 := Lib.hid hb
    clear hb HC
    go_wp2_with fail
    go_ret2
    exact ⟨_, by rw [HV.out]; rfl, by rw [HX.out]; exact O1.out, HB1.out⟩
  | succ r ih =>
    intro P B g0 ce w hl hpr hB h1 h2 hO
    obtain ⟨iI, hiI, hzI0, hzI1, hzI2⟩ := info_parts infoI
    have hg := (akB_yes hq).2.2.2
    have hm := (akB_yes hq).2.2.1
    have hn6 := (tvB_yes (akB_yes hq).1).2
    have hi : P.length < n := by omega
    have IH1 := Lib.hid (fun (g0 ce : Nat) (W : World) (hw : w.heap.size ≤ W.heap.size) (hb : Below w.heap.size w W) (hO : W.ownsRow w.heap.size 3 1 (.slice (some ⟨g0, 0, none⟩) (P.length + 1) ce) (P.length + 1) (cellsI (P ++ [-1]))) => show Calls Tryz.prog 60 #[.slice A n c, .slice C m cq, .int .i64 g, .slice (some ⟨g0, 0, none⟩) (P.length + 1) ce] W (fun e w' => ∃ v, e = .returned (.tuple #[v, .int .i64 ((pcT (pst zs ps) g P P.length + (g + 1)) + (bst (pst zs ps) g m r (P ++ [-1])).2)]) ∧ w'.ownsRow w.heap.size 3 1 v n (cellsI ((P ++ [-1]) ++ (bst (pst zs ps) g m r (P ++ [-1])).1)) ∧ Below W.heap.size W w') from by
      have := ih (P ++ [-1]) w.heap.size g0 ce W (by rw [List.length_append]; show P.length + 1 + r = n; omega) (pr_none hpr) hw (h1.next hb) (h2.next hb) (by rw [List.length_append]; exact hO)
      rw [pc_none, List.length_append] at this
      exact this)
    have IH2 := Lib.hid (fun (k : Nat) (hk : k < m) (hc : P.contains (k : Int) = false) (hd : pst zs ps P.length k ≤ g) (g0 ce : Nat) (W : World) (hw : w.heap.size ≤ W.heap.size) (hb : Below w.heap.size w W) (hO : W.ownsRow w.heap.size 3 1 (.slice (some ⟨g0, 0, none⟩) (P.length + 1) ce) (P.length + 1) (cellsI (P ++ [(k : Int)]))) => show Calls Tryz.prog 60 #[.slice A n c, .slice C m cq, .int .i64 g, .slice (some ⟨g0, 0, none⟩) (P.length + 1) ce] W (fun e w' => ∃ v, e = .returned (.tuple #[v, .int .i64 ((pcT (pst zs ps) g P P.length + pst zs ps P.length k) + (bst (pst zs ps) g m r (P ++ [(k : Int)])).2)]) ∧ w'.ownsRow w.heap.size 3 1 v n (cellsI ((P ++ [(k : Int)]) ++ (bst (pst zs ps) g m r (P ++ [(k : Int)])).1)) ∧ Below W.heap.size W w') from by
      have := ih (P ++ [(k : Int)]) w.heap.size g0 ce W (by rw [List.length_append]; show P.length + 1 + r = n; omega) (pr_some hpr hk hc hd) hw (h1.next hb) (h2.next hb) (by rw [List.length_append]; exact hO)
      rw [pc_some, List.length_append] at this
      exact this)
    have HOW := Lib.hid (fun (W : World) (hb : Below w.heap.size w W) => own1 P g0 0 P.length ce W (by omega) ((intc.rd_of_own hO rfl).next hb))
    have HHAS := Lib.hid (fun (k : Nat) (W : World) (hb : Below w.heap.size w W) (d0 : Nat) (os : Array Obj) => Calls.regrown_of (asgu.to_below (asgs.has1 P (k : Int) (some ⟨g0, 0, none⟩) P.length ce (Sort.grow (redrawn W d0) os) (by omega) (((intc.rd_of_own hO rfl).next hb).next (below_regrown W d0 os)))))
    have HT := Lib.hid (fun (k : Nat) (hk : k < m) (W : World) (d0 : Nat) (os : Array Obj) => Calls.regrown_of (show Calls Tryz.prog 69 #[.agg #[.int .i64 (fld 6 zs P.length 0), .int .i64 (fld 6 zs P.length 1), .int .i64 (fld 6 zs P.length 2), .int .i64 (fld 6 zs P.length 3), .int .i64 (fld 6 zs P.length 4), .int .i64 (fld 6 zs P.length 5)], .agg #[.int .i64 (fld 2 ps k 0), .int .i64 (fld 2 ps k 1)]] (Sort.grow (redrawn W d0) os) (fun e w' => e = .returned (.int .i64 (pst zs ps P.length k)) ∧ Below (Sort.grow (redrawn W d0) os).heap.size (Sort.grow (redrawn W d0) os) w') from asgs.distance15 (fld 6 zs P.length 0) (fld 6 zs P.length 1) (fld 6 zs P.length 2) (fld 6 zs P.length 3) (fld 6 zs P.length 4) (fld 6 zs P.length 5) (fld 2 ps k 0) (fld 2 ps k 1) (ak_track hq hi) (ak_plot hq hk) (Sort.grow (redrawn W d0) os)))
    obtain ⟨S, hS⟩ : ∃ S : Nat → List Int × Int, S = stp P (pst zs ps P.length) g (fun k => (bst (pst zs ps) g m r (P ++ [(k : Int)]))) (-1 :: (bst (pst zs ps) g m r (P ++ [-1])).1, (bst (pst zs ps) g m r (P ++ [-1])).2 + (g + 1)) := ⟨_, rfl⟩
    have HEND := (show (bst (pst zs ps) g m (r + 1) P) = S m by rw [hS]; rfl)
    have H0 := Lib.hid (show (S 0).1 = -1 :: (bst (pst zs ps) g m r (P ++ [-1])).1 ∧ (S 0).2 = (bst (pst zs ps) g m r (P ++ [-1])).2 + (g + 1) by rw [hS]; exact ⟨rfl, rfl⟩)
    have HSK := Lib.hid (fun (k : Nat) (h : P.contains (k : Int) = true ∨ g < pst zs ps P.length k) => show S (k + 1) = S k by rw [hS]; exact stp_skip h)
    have HTK := Lib.hid (fun (k : Nat) (h1 : P.contains (k : Int) = false) (h2 : pst zs ps P.length k ≤ g) (h3 : (bst (pst zs ps) g m r (P ++ [(k : Int)])).2 + pst zs ps P.length k < (S k).2) => show (S (k + 1)).1 = (k : Int) :: (bst (pst zs ps) g m r (P ++ [(k : Int)])).1 ∧ (S (k + 1)).2 = (bst (pst zs ps) g m r (P ++ [(k : Int)])).2 + pst zs ps P.length k by
      have := stp_take (q := fun k : Nat => (bst (pst zs ps) g m r (P ++ [(k : Int)]))) (a := (-1 :: (bst (pst zs ps) g m r (P ++ [-1])).1, (bst (pst zs ps) g m r (P ++ [-1])).2 + (g + 1))) h1 (show ¬ g < pst zs ps P.length k by omega) (by rw [← hS]; exact h3)
      rw [hS, this]; exact ⟨rfl, rfl⟩)
    have HKP := Lib.hid (fun (k : Nat) (h1 : P.contains (k : Int) = false) (h2 : pst zs ps P.length k ≤ g) (h3 : (S k).2 ≤ (bst (pst zs ps) g m r (P ++ [(k : Int)])).2 + pst zs ps P.length k) => show S (k + 1) = S k by
      have := stp_keep (q := fun k : Nat => (bst (pst zs ps) g m r (P ++ [(k : Int)]))) (a := (-1 :: (bst (pst zs ps) g m r (P ++ [-1])).1, (bst (pst zs ps) g m r (P ++ [-1])).2 + (g + 1))) h1 (show ¬ g < pst zs ps P.length k by omega) (by rw [← hS]; show ¬ (bst (pst zs ps) g m r (P ++ [(k : Int)])).2 + pst zs ps P.length k < (S k).2; omega)
      rw [hS]; exact this)
    rw [HEND]
    have HR1 := Lib.hid h1
    have HR2 := Lib.hid h2
    have HCI := Lib.hid (fun x : Int => show cellsI P ++ [Value.int .i64 x] = cellsI (P ++ [x]) by unfold cellsI; rw [List.map_append]; rfl)
    have HSE := Lib.hid (fun (x : Int) (t : List Int) => (step_eq P x t).symm)
    have g1 : ((P.length : Int) == (n : Int)) = false := beq_eq_false_iff_ne.mpr (by omega)
    have hpl0 : (0 : Int) ≤ (P.length : Int) := Int.natCast_nonneg _
    have hpln : (P.length : Int) < (n : Int) := by omega
    have HIP := Lib.hid hi
    have HBB := Lib.hid hB
    have hpl6 : P.length ≤ 6 := by omega
    clear ih hq hl hS HEND hi hpr hB h1 h2 hO
    generalize (bst (pst zs ps) g m r (P ++ [-1])) = R1 at *
    obtain ⟨xs1, c1⟩ := R1
    generalize pcT (pst zs ps) g P P.length = pc at *
    go_enter Tryz.func60, Tryz.ntmps60
    go_wp2_with fail
    refine (HOW.out w (Below.refl _ _)).mono ?_
    rintro e W1 ⟨v1, rfl, ho, hb⟩
    obtain ⟨A1, c1', rfl⟩ := own_sliceZ ho
    have hbs := hb.size
    have O5 := Lib.hid (ho.alloc (.cells #[.int .i64 (-1)] 3))
    have B5 := Lib.hid (hb.alloc hb.size (.cells #[.int .i64 (-1)] 3))
    clear ho hb
    go_wp2_with (at_builtin; refine wpList_append_any rfl (.tmp 33) (.tmp 34) 50 rfl w.heap.size 3 iI (.int .i64 0) 1 8 Tryz.underlying50 hiI hzI0 hzI1 hzI2 rfl (by decide) _ P.length (cellsI P) rfl O5.out ⟨W1.heap.size, 0, none⟩ 1 1 [.int .i64 (-1)] rfl rfl (cell_one_new _ _ _) (own_.one_cell _ rfl) (by unfold maxLen; omega) (by omega) (by rw [World.size_alloc]; omega) ?_; intro v6 w6 o6 g6 n6)
    obtain ⟨g1', c6, rfl⟩ := own_some o6 (by omega)
    rw [HCI.out] at o6
    have B6 := Lib.hid (B5.out.grown g6 B5.out.size (own_.row_ge O5.out))
    refine (IH1.out g1' c6 w6 B6.out.size B6.out o6).mono ?_
    rintro e W2 ⟨v2, rfl, ho2, hb2⟩
    obtain ⟨A2, c2', rfl⟩ := own_sliceZ ho2
    have O7 := Lib.hid (show W2.ownsRow w.heap.size 3 1 (.slice A2 n c2') n (cellsI (P ++ (S 0).1)) by rw [H0.out.1, ← HSE.out]; exact ho2)
    have B7 := Lib.hid (B6.out.trans (hb2.mono B6.out.size))
    clear ho2 hb2 o6 g6 n6 O5 B5 B6 IH1 hbs
    go_wp2_with fail
    go_loopw [11, 12, 13] (fun b q j wr => ∃ k : Nat, k ≤ m ∧ j = .int .i64 k ∧ q = .int .i64 (pc + (S k).2) ∧ wr.ownsRow w.heap.size 3 1 b n (cellsI (P ++ (S k).1)) ∧ Below w.heap.size w wr) (fun _ _ j _ => m - (intOf j).toNat)
    case atStart => exact ⟨0, Nat.zero_le _, rfl, by rw [H0.out.2]; exact congrArg _ (by show pc + (g + 1) + c1 = pc + (c1 + (g + 1)); omega), O7.out, B7.out⟩
    case round =>
      obtain ⟨k, hk, rfl, rfl, hO, hb⟩ := hrel
      obtain ⟨Ab, cb, rfl⟩ := own_sliceZ hO
      have OB := Lib.hid hO
      have HB := Lib.hid hb
      clear O7 B7 hO hb
      by_cases hlt : k < m
      · obtain ⟨b2, o2, rfl, l2, q0, q1⟩ := asgs.cells2 (HR2.out.next HB.out) hlt
        obtain ⟨b1, o1, rfl, -, a0, a1, a2, a3, a4, a5⟩ := cellsE (HR1.out.next HB.out) HIP.out
        have hlt2 : (k : Int) < (m : Int) := by omega
        have hk0 : (0 : Int) ≤ (k : Int) := Int.natCast_nonneg _
        have TD := Lib.hid (HT.out k hlt)
        have TC := Lib.hid (HHAS.out k wr HB.out)
        have HSKk := Lib.hid (HSK.out k)
        have HTKk := Lib.hid (HTK.out k)
        have HKPk := Lib.hid (HKP.out k)
        have IHk := Lib.hid (IH2.out k hlt)
        generalize fld 6 zs P.length 0 = u0 at *
        generalize fld 6 zs P.length 1 = u1 at *
        generalize fld 6 zs P.length 2 = u2 at *
        generalize fld 6 zs P.length 3 = u3 at *
        generalize fld 6 zs P.length 4 = u4 at *
        generalize fld 6 zs P.length 5 = u5 at *
        generalize fld 2 ps k 0 = v0 at *
        generalize fld 2 ps k 1 = v1 at *
        generalize pst zs ps P.length k = dd at *
        cases hc : P.contains (k : Int)
        · by_cases hd : g < dd
          · have HV := Lib.hid (HSKk.out (Or.inr hd))
            rw [hc] at TC
            have g9 : decide (g < dd) = true := decide_eq_true hd
            clear hc HSKk HTKk HKPk IHk
            generalize S k = sk at *
            go_wp2_with fail
            have a0' := fun d0 os => cell_regrown a0 d0 os
            have a1' := fun d0 os => cell_regrown a1 d0 os
            have a2' := fun d0 os => cell_regrown a2 d0 os
            have a3' := fun d0 os => cell_regrown a3 d0 os
            have a4' := fun d0 os => cell_regrown a4 d0 os
            have a5' := fun d0 os => cell_regrown a5 d0 os
            have q0' := fun d0 os => cell_regrown q0 d0 os
            have q1' := fun d0 os => cell_regrown q1 d0 os
            clear a0 a1 a2 a3 a4 a5 q0 q1
            refine wp_region_quiet_below (by kernel_rfl) (by kernel_rfl) ?_
            repeat (
              with_reducible refine wpQuiet_step (fun K hK => ?_)
              go_simp
              first
                | (refine hK _ ?_; clear hK K)
                | (apply Exists.intro
                   refine ⟨fun _ => ?_, hK _ ?_⟩
                   (first
                     | (go_at_call 93; with_reducible exact TC.out _ _)
                     | (go_at_call 69; with_reducible exact TD.out _ _ _))
                   clear hK K))
            with_reducible refine wpQuiet_nil ?_
            intro _ hw'
            obtain ⟨⟨dq, osq⟩, hw''⟩ := hw'
            subst hw''
            have hbl := (below_regrown wr dq osq)
            clear a0' a1' a2' a3' a4' a5' q0' q1'
            generalize Sort.grow (redrawn wr dq) osq = w3 at *
            have HB3 := Lib.hid (HB.out.trans (hbl.mono HB.out.size))
            have OB3 := Lib.hid (own_.own_below OB.out hbl)
            clear hbl HB OB TC TD
            go_wp2_with fail
            go_roundw
            case rel => exact ⟨k + 1, by omega, by go_num, by rw [HV.out], by rw [HV.out]; exact OB3.out, HB3.out⟩
            case measure => simp [intOf]; omega
          · have hd2 : dd ≤ g := by omega
            have g9 : decide (g < dd) = false := decide_eq_false hd
            have IHc := Lib.hid (IHk.out hc hd2)
            have HTC := Lib.hid (HTKk.out hc hd2)
            have HKC := Lib.hid (HKPk.out hc hd2)
            rw [hc] at TC
            clear hc HSKk HTKk HKPk IHk HTK HKP IH2
            generalize (bst (pst zs ps) g m r (P ++ [(k : Int)])) = R2 at *
            obtain ⟨xs2, c2⟩ := R2
            go_wp2_with fail
            have a0' := fun d0 os => cell_regrown a0 d0 os
            have a1' := fun d0 os => cell_regrown a1 d0 os
            have a2' := fun d0 os => cell_regrown a2 d0 os
            have a3' := fun d0 os => cell_regrown a3 d0 os
            have a4' := fun d0 os => cell_regrown a4 d0 os
            have a5' := fun d0 os => cell_regrown a5 d0 os
            have q0' := fun d0 os => cell_regrown q0 d0 os
            have q1' := fun d0 os => cell_regrown q1 d0 os
            clear a0 a1 a2 a3 a4 a5 q0 q1
            refine wp_region_quiet_below (by kernel_rfl) (by kernel_rfl) ?_
            repeat (
              with_reducible refine wpQuiet_step (fun K hK => ?_)
              go_simp
              first
                | (refine hK _ ?_; clear hK K)
                | (apply Exists.intro
                   refine ⟨fun _ => ?_, hK _ ?_⟩
                   (first
                     | (go_at_call 93; with_reducible exact TC.out _ _)
                     | (go_at_call 69; with_reducible exact TD.out _ _ _))
                   clear hK K))
            with_reducible refine wpQuiet_nil ?_
            intro _ hw'
            obtain ⟨⟨dq, osq⟩, hw''⟩ := hw'
            subst hw''
            have hbl := (below_regrown wr dq osq)
            clear a0' a1' a2' a3' a4' a5' q0' q1'
            generalize Sort.grow (redrawn wr dq) osq = w3 at *
            have HB3 := Lib.hid (HB.out.trans (hbl.mono HB.out.size))
            have OB3 := Lib.hid (own_.own_below OB.out hbl)
            clear hbl HB OB TC TD
            go_wp2_with fail
            refine (HOW.out w3 HB3.out).mono ?_
            rintro e W1 ⟨v1, rfl, ho, hb⟩
            obtain ⟨A1, c1', rfl⟩ := own_sliceZ ho
            have HB4 := Lib.hid (HB3.out.trans (hb.mono HB3.out.size))
            have OB4 := Lib.hid (own_.own_below OB3.out hb)
            have hbs := HB4.out.size
            have O5 := Lib.hid ((own_.own_base ho HB3.out.size).alloc (.cells #[.int .i64 (k : Int)] 3))
            have B5 := Lib.hid (HB4.out.alloc hbs (.cells #[.int .i64 (k : Int)] 3))
            have P5 := Lib.hid (OB4.out.alloc (.cells #[.int .i64 (k : Int)] 3))
            have HAP := Lib.hid (show ∀ g, (Value.slice A1 P.length c1').ownBlock = some g → (Value.slice Ab n cb).ownBlock ≠ some g from fun gq e1 e2 => by
              have h3 := own_.row_ge ho gq e1
              have h4 := own_row_lt OB3.out gq e2
              omega)
            clear ho hb HB3 OB3
            go_wp2_with (at_builtin; refine wpList_append_any rfl (.tmp 66) (.tmp 68) 50 rfl w.heap.size 3 iI (.int .i64 0) 1 8 Tryz.underlying50 hiI hzI0 hzI1 hzI2 rfl (by decide) _ P.length (cellsI P) rfl O5.out ⟨W1.heap.size, 0, none⟩ 1 1 [.int .i64 (k : Int)] rfl rfl (cell_one_new _ _ _) (own_.one_cell _ rfl) (by unfold maxLen; omega) (by omega) (by rw [World.size_alloc]; omega) ?_; intro v6 w6 o6 g6 n6)
            obtain ⟨g1', c6, rfl⟩ := own_some o6 (by omega)
            rw [HCI.out] at o6
            have B6 := Lib.hid (B5.out.grown g6 B5.out.size (own_.row_ge O5.out))
            have P6 := Lib.hid (own_kept_at P5.out g6 (fun gq e1 e2 => HAP.out gq e2 e1))
            refine (IHc.out g1' c6 w6 B6.out.size B6.out o6).mono ?_
            rintro e W2 ⟨v2, rfl, ho2, hb2⟩
            obtain ⟨A2, c2', rfl⟩ := own_sliceZ ho2
            have B7 := Lib.hid (B6.out.trans (hb2.mono B6.out.size))
            have P7 := Lib.hid (own_.own_below P6.out hb2)
            have O7 := Lib.hid ho2
            clear ho2 hb2 o6 g6 n6 O5 B5 B6 P5 P6 HB4 OB4 HAP IHc hbs
            by_cases hless : c2 + dd < (S k).2
            · have HV := Lib.hid (HTC.out hless)
              have g8 : decide (pc + dd + c2 < pc + (S k).2) = true := decide_eq_true (by omega)
              have g8' : pc + dd + c2 < pc + (S k).2 := by omega
              have HO7 := Lib.hid (show W2.ownsRow w.heap.size 3 1 (.slice A2 n c2') n (cellsI (P ++ (S (k + 1)).1)) by rw [HV.out.1, ← HSE.out]; exact O7.out)
              have HV2 := Lib.hid (show pc + (S (k + 1)).2 = pc + dd + c2 by rw [HV.out.2]; show pc + (c2 + dd) = pc + dd + c2; omega)
              clear HTC HKC hless
              generalize S k = sk at *
              go_wp2_with fail
              go_roundw
              case rel => exact ⟨k + 1, by omega, by go_num, by rw [HV2.out], HO7.out, B7.out⟩
              case measure => simp [intOf]; omega
            · have HV := Lib.hid (HKC.out (by show (S k).2 ≤ c2 + dd; omega))
              have g8 : decide (pc + dd + c2 < pc + (S k).2) = false := decide_eq_false (by omega)
              have g8' : ¬ pc + dd + c2 < pc + (S k).2 := by omega
              clear HTC HKC hless
              generalize S k = sk at *
              go_wp2_with fail
              go_roundw
              case rel => exact ⟨k + 1, by omega, by go_num, by rw [HV.out], by rw [HV.out]; exact P7.out, B7.out⟩
              case measure => simp [intOf]; omega
        · have HV := Lib.hid (HSKk.out (Or.inl hc))
          rw [hc] at TC
          clear hc HSKk HTKk HKPk IHk a0 a1 a2 a3 a4 a5 q0 q1
          generalize S k = sk at *
          go_wp2_with fail
          refine wp_region_quiet_below (by kernel_rfl) (by kernel_rfl) ?_
          repeat (
            with_reducible refine wpQuiet_step (fun K hK => ?_)
            go_simp
            first
              | (refine hK _ ?_; clear hK K)
              | (apply Exists.intro
                 refine ⟨fun _ => ?_, hK _ ?_⟩
                 (first
                   | (go_at_call 93; with_reducible exact TC.out _ _))
                 clear hK K))
          with_reducible refine wpQuiet_nil ?_
          intro _ hw'
          obtain ⟨⟨dq, osq⟩, hw''⟩ := hw'
          subst hw''
          have hbl := (below_regrown wr dq osq)
          generalize Sort.grow (redrawn wr dq) osq = w3 at *
          have HB3 := Lib.hid (HB.out.trans (hbl.mono HB.out.size))
          have OB3 := Lib.hid (own_.own_below OB.out hbl)
          clear hbl HB OB TC TD
          go_wp2_with fail
          go_roundw
          case rel => exact ⟨k + 1, by omega, by go_num, by rw [HV.out], by rw [HV.out]; exact OB3.out, HB3.out⟩
          case measure => simp [intOf]; omega
      · obtain rfl : k = m := by omega
        go_wp2_with fail
        go_ret2
        exact ⟨_, rfl, own_.own_base OB.out HBB.out, HB.out⟩

end Go.Proofs.YtfigjfckelichaaGreatDoor.asgy

/- spec's UpdateTracks. -/
namespace Go.Proofs.YtfigjfckelichaaGreatDoor.asgn
open Go.RowKit Go.Proofs.YtfigjfckelichaaGreatDoor.ints Go.Proofs.YtfigjfckelichaaGreatDoor.lst Go.Proofs.YtfigjfckelichaaGreatDoor.in_ Go.Proofs.YtfigjfckelichaaGreatDoor.ats Go.Proofs.YtfigjfckelichaaGreatDoor.pos Go.Proofs.YtfigjfckelichaaGreatDoor.trk Go.Proofs.YtfigjfckelichaaGreatDoor.trkm Go.Proofs.YtfigjfckelichaaGreatDoor.trke Go.Proofs.YtfigjfckelichaaGreatDoor.intc Go.Proofs.YtfigjfckelichaaGreatDoor.asg Go.Proofs.YtfigjfckelichaaGreatDoor.asgb Go.Proofs.YtfigjfckelichaaGreatDoor.asgk Go.Proofs.YtfigjfckelichaaGreatDoor.rws

theorem own_cap {w : World} {B e s n c : Nat} {A : Option Addr} {xs : List Value} (h : w.ownsRow B e s (.slice A n c) n xs) : n ≤ c := by
  rcases h.2 with ⟨e1, _⟩ | ⟨g, cap, cur, e1, _, _, h1, _⟩
  · injection e1 with _ h2 h3; omega
  · injection e1 with _ h2 h3; omega
theorem drop_at {xs : List Int} {k : Nat} {x : Int} (h : xs[k]? = some x) : xs.drop k = x :: xs.drop (k + 1) := by
  have hl := (List.getElem?_eq_some_iff.1 h).1
  have hx := (List.getElem?_eq_some_iff.1 h).2
  rw [List.drop_eq_getElem_cons hl, hx]
/-- The Ids and the places of the hits: two rows of the call's own, of two types. -/
def Hits (B : Nat) (W : World) (v8 : Value) (n : Nat) (ids : List Int) (v9 : Value) (m : Nat) (pls : List Int) : Prop :=
  W.ownsRow B 3 1 v8 n (cellsI ids) ∧ W.ownsRow B 35 2 v9 m (cellsI pls)
section
variable {B : Nat} {W W' : World} {v8 v9 v' : Value} {n m : Nat} {ids pls : List Int} {d x y : Int}
theorem Hits.below (h : Hits B W v8 n ids v9 m pls) (hb : Below W.heap.size W W') : Hits B W' v8 n ids v9 m pls := ⟨own_.own_below h.1 hb, own_.own_below h.2 hb⟩
theorem Hits.left (h : Hits B W v8 n ids v9 m pls) (hg : W.grownBy W' v8.ownBlock) (ho : W'.ownsRow B 3 1 v' (n + 1) (cellsI ids ++ [.int .i64 d])) : Hits B W' v' (n + 1) (ids ++ [d]) v9 m pls :=
  ⟨by unfold cellsI at ho ⊢; rw [List.map_append]; exact ho, rws.kept_row h.2 h.1 (by decide) hg⟩
theorem Hits.right (h : Hits B W v8 n ids v9 m pls) (hg : W.grownBy W' v9.ownBlock) (ho : W'.ownsRow B 35 2 v' (m + 1) (cellsI pls ++ [.int .i64 x, .int .i64 y])) : Hits B W' v8 n ids v' (m + 1) (pls ++ [x, y]) :=
  ⟨rws.kept_row h.1 h.2 (by decide) hg, by unfold cellsI at ho ⊢; rw [List.map_append]; exact ho⟩
end
set_option maxRecDepth 100000 in
set_option maxHeartbeats 8000000 in
theorem updateTracks (zs ps : List Int) (g : Int) (A C : Option Addr) (n c m cq : Nat) (w : World) (hn : n ≤ 1048577) (hm : m ≤ 1048577) (h1 : RdZ 6 w w.heap.size A n zs) (h2 : RdZ 2 w w.heap.size C m ps) :
    Calls Tryz.prog 22 #[.slice A n c, .slice C m cq, .int .i64 g] w fun e w' => ∃ v, e = .returned (.tuple #[v, .bool (upB zs n ps m g)]) ∧ w'.ownsRow w.heap.size 25 6 v (upN zs n ps m g) (cellsI (upL zs n ps m g)) ∧ Below w.heap.size w w' := by
  obtain ⟨iI, hiI, hzI0, hzI1, hzI2⟩ := info_parts infoI
  obtain ⟨iP, hiP, hzP0, hzP1, hzP2⟩ := info_parts infoP
  have H1 := Lib.hid (asgs.asked15 zs ps g A C n c m cq w hn hm h1 h2)
  cases hq : akB zs n ps m g
  · have HE := Lib.hid (u_no (u_ask hq))
    have HUB := Lib.hid (u_ask hq)
    rw [hq] at H1
    clear hq h1 h2
    go_enter Tryz.func22, Tryz.ntmps22
    go_wp2_with fail
    refine H1.out.mono ?_
    rintro e w1 ⟨rfl, hb⟩
    have OE := Lib.hid (own_.own_base (own_emptyZ w1 25 6) hb.size)
    have BZ := Lib.hid (hb.alloc hb.size (.cells #[] 25))
    clear hb
    go_wp2_with fail
    go_ret2
    exact ⟨_, by rw [HUB.out]; rfl, by rw [HE.out.1, HE.out.2]; exact OE.out, BZ.out⟩
  rw [hq] at H1
  have hm5 := (akB_yes hq).2.2.1
  have hn6 := (tvB_yes (akB_yes hq).1).2
  have HPR := Lib.hid (agB_yes (be_asg hq).1).2.2
  have HLV := Lib.hid (beV_length hq)
  have HUB := Lib.hid (show upB zs n ps m g = scB zs n (idT zs (beV zs n ps m g) n) (idT zs (beV zs n ps m g) n).length (plL ps (beV zs n ps m g) n) (idT zs (beV zs n ps m g) n).length by unfold upB upQ; rw [hq]; rfl)
  have HUP := Lib.hid (show upP zs n ps m g = upT ps (unT (beV zs n ps m g) m) (scL zs n (idT zs (beV zs n ps m g) n) (idT zs (beV zs n ps m g) n).length (plL ps (beV zs n ps m g) n) (idT zs (beV zs n ps m g) n).length) (scN zs n (idT zs (beV zs n ps m g) n) (idT zs (beV zs n ps m g) n).length (plL ps (beV zs n ps m g) n) (idT zs (beV zs n ps m g) n).length) from rfl)
  have HNO := Lib.hid (fun h => u_no (zs := zs) (n := n) (ps := ps) (m := m) (g := g) h)
  have HYE := Lib.hid (fun h => u_yes (zs := zs) (n := n) (ps := ps) (m := m) (g := g) h)
  have HSN := Lib.hid (scN_le zs n (idT zs (beV zs n ps m g) n) (idT zs (beV zs n ps m g) n).length (plL ps (beV zs n ps m g) n) (idT zs (beV zs n ps m g) n).length)
  have HSL := Lib.hid (scL_length zs n (idT zs (beV zs n ps m g) n) (idT zs (beV zs n ps m g) n).length (plL ps (beV zs n ps m g) n) (idT zs (beV zs n ps m g) n).length)
  have HIL := Lib.hid (idT_le zs (beV zs n ps m g) n)
  have HPL := Lib.hid (plL_length zs ps (beV zs n ps m g) n)
  have HUN := Lib.hid (fun (j : Nat) (x : Int) (h : (unT (beV zs n ps m g) m)[j]? = some x) => un_at h)
  have HUL := Lib.hid (unT_le (beV zs n ps m g) m)
  have HR2 := Lib.hid h2
  have HR1 := Lib.hid h1
  have HB15 := Lib.hid (fun (w1 : World) (hb : Below w.heap.size w w1) => show Calls Tryz.prog 60 #[.slice A n c, .slice C m cq, .int .i64 g, .slice (some ⟨w1.heap.size, 0, none⟩) 0 0] (w1.alloc (.cells #[] 3)) (fun e w' => ∃ v, e = .returned (.tuple #[v, .int .i64 (0 + (bst (pst zs ps) g m n []).2)]) ∧ w'.ownsRow w.heap.size 3 1 v n (cellsI (beV zs n ps m g)) ∧ Below (w1.alloc (.cells #[] 3)).heap.size (w1.alloc (.cells #[] 3)) w') from by
    have hb2 := hb.alloc hb.size (.cells #[] 3)
    rw [(be_yes hq).1]
    exact asgy.best15 hq n [] w.heap.size w1.heap.size 0 (w1.alloc (.cells #[] 3)) (Nat.zero_add n) rfl hb2.size (h1.next hb2) (h2.next hb2) (own_.own_base (own_emptyZ w1 3 1) hb.size))
  have HSC := Lib.hid (fun (A8 A9 : Option Addr) (c8 c9 : Nat) (W : World) (hb : Below w.heap.size w W) (h3 : RdI W W.heap.size A8 (idT zs (beV zs n ps m g) n).length (idT zs (beV zs n ps m g) n)) (h4 : RdZ 2 W W.heap.size A9 (idT zs (beV zs n ps m g) n).length (plL ps (beV zs n ps m g) n)) => trkx.scanTracks zs (idT zs (beV zs n ps m g) n) (plL ps (beV zs n ps m g) n) A A8 A9 n c (idT zs (beV zs n ps m g) n).length c8 (idT zs (beV zs n ps m g) n).length c9 W hn (by have := HIL.out; omega) (by have := HIL.out; omega) (h1.next hb) h3 h4)
  have HUF := Lib.hid (fun (E : Option Addr) (ce : Nat) (W : World) (h3 : RdI W W.heap.size E n (beV zs n ps m g)) => asgx.unpaired (beV zs n ps m g) C E m cq n ce W hm (by omega) h3)
  have HIE := Lib.hid (fun (i : Nat) => idT_le zs (beV zs n ps m g) i)
  clear hq h1 h2
  generalize upP zs n ps m g = UP at *
  generalize scL zs n (idT zs (beV zs n ps m g) n) (idT zs (beV zs n ps m g) n).length (plL ps (beV zs n ps m g) n) (idT zs (beV zs n ps m g) n).length = sl at *
  generalize scN zs n (idT zs (beV zs n ps m g) n) (idT zs (beV zs n ps m g) n).length (plL ps (beV zs n ps m g) n) (idT zs (beV zs n ps m g) n).length = sn at *
  generalize scD zs n (idT zs (beV zs n ps m g) n) (idT zs (beV zs n ps m g) n).length (plL ps (beV zs n ps m g) n) (idT zs (beV zs n ps m g) n).length = sd at *
  generalize scB zs n (idT zs (beV zs n ps m g) n) (idT zs (beV zs n ps m g) n).length (plL ps (beV zs n ps m g) n) (idT zs (beV zs n ps m g) n).length = sb at *
  generalize unT (beV zs n ps m g) m = fr at *
  generalize hPLS : (plL ps (beV zs n ps m g) n) = pls at *
  generalize hIDS : (idT zs (beV zs n ps m g) n) = ids at *
  generalize (beV zs n ps m g) = bv at *
  have HPLS := Lib.hid hPLS
  have HIDS := Lib.hid hIDS
  clear hPLS hIDS
  generalize 0 + (bst (pst zs ps) g m n []).2 = cst at *
  go_enter Tryz.func22, Tryz.ntmps22
  go_wp2_with fail
  refine H1.out.mono ?_
  rintro e w1 ⟨rfl, hb⟩
  have HB1 := Lib.hid (hb.alloc hb.size (.cells #[] 3))
  have HX := Lib.hid (HB15.out w1 hb)
  clear hb HB15 H1
  go_wp2_with fail
  refine HX.out.mono ?_
  rintro e w2 ⟨v, rfl, ho, hb⟩
  obtain ⟨A1, c1, rfl⟩ := own_sliceZ ho
  have HB2 := Lib.hid (HB1.out.trans (hb.mono HB1.out.size))
  have O2 := Lib.hid ho
  have HHS := Lib.hid (show Hits w2.heap.size ((w2.alloc (.cells #[] 3)).alloc (.cells #[] 35)) (.slice (some ⟨w2.heap.size, 0, none⟩) 0 0) 0 [] (.slice (some ⟨w2.heap.size + 1, 0, none⟩) 0 0) 0 [] from by
    have h1 := own_emptyZ (w2.alloc (.cells #[] 3)) 35 2
    rw [World.size_alloc] at h1
    exact ⟨(own_emptyZ w2 3 1).alloc _, own_.own_base h1 (Nat.le_succ _)⟩)
  have HBS := Lib.hid (((Below.refl w2.heap.size w2).alloc (Nat.le_refl _) (.cells #[] 3)).alloc (by rw [World.size_alloc]; omega) (.cells #[] 35))
  clear ho hb HX HB1
  go_wp2_with fail
  go_loopw [10, 11, 12] (fun u10 u11 j wr => ∃ i : Nat, i ≤ n ∧ j = .int .i64 i ∧ Hits w2.heap.size wr u10 (idT zs bv i).length (idT zs bv i) u11 (idT zs bv i).length (plL ps bv i) ∧ Below w2.heap.size w2 wr) (fun _ _ j _ => n - (intOf j).toNat)
  case atStart => exact ⟨0, Nat.zero_le _, rfl, HHS.out, HBS.out⟩
  case round =>
    obtain ⟨i, hi, rfl, hT, hb⟩ := hrel
    obtain ⟨A8, c8, rfl⟩ := own_sliceZ hT.1
    obtain ⟨A9, c9, rfl⟩ := own_sliceZ hT.2
    have HT := Lib.hid hT
    have HB := Lib.hid hb
    have HBW := Lib.hid (HB2.out.trans (hb.mono HB2.out.size))
    have OB := Lib.hid (own_.own_below O2.out hb)
    clear hT hb HHS HBS
    by_cases hlt : i < n
    · obtain ⟨b3, o3, z, rfl, l3, hx, p0⟩ := (intc.rd_of_own OB.out HLV.out).at_ hlt
      have hlt2 : (i : Int) < (n : Int) := by omega
      have hi0 : (0 : Int) ≤ (i : Int) := Int.natCast_nonneg _
      have HGX := Lib.hid (getD_some hx)
      have HOX := Lib.hid (prB_at HPR.out hlt)
      have hle := HIE.out i
      rcases pairOk_yes HOX.out with hx1 | ⟨a, ha5, hx1, _, _⟩
      · rw [HGX.out] at hx1
        have HX := Lib.hid (hit_no (zs := zs) (ps := ps) (show bv.getD i 0 = -1 by rw [HGX.out, hx1]))
        have g1 : ¬ 0 ≤ z := by omega
        have g2 : decide (0 ≤ z) = false := decide_eq_false g1
        clear hx1 HGX HOX hx
        go_wp2_with fail
        go_roundw
        case rel => exact ⟨i + 1, by omega, by go_num, by rw [HX.out.1, HX.out.2]; exact HT.out, HB.out⟩
        case measure => simp [intOf]; omega
      · rw [HGX.out] at hx1
        subst hx1
        have HX := Lib.hid (hit_yes (zs := zs) (ps := ps) HGX.out)
        have ha0 : (0 : Int) ≤ (a : Int) := Int.natCast_nonneg _
        have ham : (a : Int) < (m : Int) := by omega
        obtain ⟨b1, o1, rfl, l1, a0, -⟩ := cellsE (HR1.out.next HBW.out) hlt
        have hwz := HB.out.size
        generalize hd : fld 6 zs i 0 = d at *
        have HD := Lib.hid hd
        clear hd
        have T5 := Lib.hid (HT.out.below ((Below.refl wr.heap.size wr).alloc (Nat.le_refl _) (.cells #[.int .i64 d] 3)))
        have B5 := Lib.hid (HB.out.alloc hwz (.cells #[.int .i64 d] 3))
        generalize hids : idT zs bv i = ids0 at *
        generalize plL ps bv i = pls0 at *
        clear HGX HOX hids
        have hq6 : ids0.length ≤ 6 := by omega
        generalize hq : ids0.length = q at *
        have HQ := Lib.hid hq
        clear hq
        have HNX := Lib.hid (fun (W : World) (hb : Below w2.heap.size w2 W) => show W.cell? ⟨b3, o3 + i, none⟩ = some (.int .i64 (a : Int)) from by
          obtain ⟨b3', o3', z', e, -, hx', p0'⟩ := (intc.rd_of_own (own_.own_below O2.out hb) HLV.out).at_ hlt
          obtain ⟨rfl, rfl⟩ : b3 = b3' ∧ o3 = o3' := by injection e with e; injection e with e1 e2; exact ⟨e1, e2⟩
          rw [hx] at hx'
          injection hx' with hx'
          rw [hx']
          exact p0')
        have HNP := Lib.hid (fun (W : World) (hb : Below w.heap.size w W) => asgs.cells2 (HR2.out.next hb) ha5)
        clear hx
        generalize fld 2 ps a 0 = x at *
        generalize fld 2 ps a 1 = y at *
        go_wp2_with (first
          | (at_builtin; refine wpList_append_any rfl (.tmp 48) (.tmp 54) 50 rfl w2.heap.size 3 iI (.int .i64 0) 1 8 Tryz.underlying50 hiI hzI0 hzI1 hzI2 rfl (by decide) _ q (cellsI ids0) rfl T5.out.1 ⟨wr.heap.size, 0, none⟩ 1 1 [.int .i64 d] rfl rfl (cell_one_new _ _ _) (own_.one_cell _ rfl) (by unfold maxLen; omega) (by omega) (by rw [World.size_alloc]; omega) ?_; intro v6 w6 o6 g6 n6; have T6 := Lib.hid (T5.out.left g6 o6); have B6 := Lib.hid (B5.out.grown g6 B5.out.size (own_.row_ge T5.out.1)); obtain ⟨A6, c6, rfl⟩ := own_sliceZ o6; have p0 := HNX.out w6 B6.out; obtain ⟨bq, oq, rfl, lq, q0, q1⟩ := HNP.out w6 (HB2.out.trans (B6.out.mono HB2.out.size)); have hw6 := B6.out.size; have T7 := Lib.hid (T6.out.below ((Below.refl w6.heap.size w6).alloc (Nat.le_refl _) (.cells #[.int .i64 x, .int .i64 y] 35))); have B7 := Lib.hid (B6.out.alloc hw6 (.cells #[.int .i64 x, .int .i64 y] 35)); clear o6 g6 n6 T5 B5)
          | (at_builtin; refine wpList_append_any rfl (.tmp 56) (.tmp 64) 46 rfl w2.heap.size 35 iP (.agg #[.int .i64 0, .int .i64 0]) 2 16 Tryz.underlying46 hiP hzP0 hzP1 hzP2 rfl (by decide) _ q (cellsI pls0) rfl T7.out.2 ⟨w6.heap.size, 0, none⟩ 1 1 [.int .i64 x, .int .i64 y] rfl rfl (cells_new _ _ _) (two_cells x y) (by unfold maxLen; omega) (by omega) (by rw [World.size_alloc]; omega) ?_; intro v8 w8 o8 g8 n8; have T8 := Lib.hid (T7.out.right g8 o8); have B8 := Lib.hid (B7.out.grown g8 B7.out.size (own_.row_ge T7.out.2)); obtain ⟨A8', c8', rfl⟩ := own_sliceZ o8; clear o8 g8 n8 T7 B7 T6 B6))
        go_wp2_with fail
        go_roundw
        case rel => exact ⟨i + 1, by omega, by go_num, by rw [HX.out.1, HX.out.2, List.length_append, HQ.out]; exact T8.out, B8.out⟩
        case measure => simp [intOf]; omega
    · obtain rfl : i = n := by omega
      generalize idT zs bv i = ids2 at *
      generalize plL ps bv i = pls2 at *
      have hids2 := HIDS.out
      have hpls2 := HPLS.out
      clear HIDS HPLS
      subst hids2
      subst hpls2
      have R8 := Lib.hid (intc.rd_of_own HT.out.1 rfl)
      have R9 := Lib.hid (RdZ.of_own HT.out.2 HPL.out)
      go_wp2_with fail
      refine (HSC.out A8 A9 c8 c9 wr HBW.out R8.out R9.out).mono ?_
      rintro e w3 ⟨v3, rfl, ho, hb⟩
      obtain ⟨A3, c3, rfl⟩ := own_sliceZ ho
      have O3 := Lib.hid (own_.own_below OB.out hb)
      have OS := Lib.hid (own_.own_base ho HBW.out.size)
      have HB3 := Lib.hid (HBW.out.trans (hb.mono HBW.out.size))
      clear ho hb HSC HT HB HBW OB R8 R9
      have hsn6 : sn ≤ 6 := Nat.le_trans HSN.out hn6
      cases sb
      · have HE := Lib.hid (HNO.out HUB.out)
        have OE := Lib.hid (own_.own_base (own_emptyZ w3 25 6) HB3.out.size)
        have BZ := Lib.hid (HB3.out.alloc HB3.out.size (.cells #[] 25))
        go_wp2_with fail
        go_ret2
        exact ⟨_, by rw [HUB.out]; rfl, by rw [HE.out.1, HE.out.2]; exact OE.out, BZ.out⟩
      have HYES := Lib.hid (HYE.out HUB.out)
      clear HNO HYE
      go_wp2_with fail
      refine (HUF.out A1 c1 w3 (intc.rd_of_own O3.out HLV.out)).mono ?_
      rintro e w4 ⟨v4, rfl, ho, hb⟩
      obtain ⟨A4, c4, rfl⟩ := own_sliceZ ho
      have RF := Lib.hid (intc.rd_of_own ho rfl)
      have O4 := Lib.hid (own_.own_below OS.out hb)
      have HB4 := Lib.hid (HB3.out.trans (hb.mono HB3.out.size))
      clear ho hb HUF HB3 O3 OS
      go_wp2_with fail
      go_loopw [13, 17] (fun v q wr => ∃ (k : Nat) (t zz : List Int) (nn : Nat), k ≤ fr.length ∧ q = .int .i64 k ∧ fr.drop k = t ∧ upT ps t zz nn = UP ∧ zz.length = nn * 6 ∧ nn ≤ 6 ∧ wr.ownsRow w.heap.size 25 6 v nn (cellsI zz) ∧ Below w4.heap.size w4 wr) (fun _ q _ => fr.length - (intOf q).toNat)
      case atStart => exact ⟨0, fr, sl, sn, Nat.zero_le _, rfl, rfl, HUP.out.symm, HSL.out, hsn6, O4.out, Below.refl _ _⟩
      case round =>
        obtain ⟨k, t, zz, nn, hk, rfl, hdr, hup, hzl, hnn, hO, hb⟩ := hrel
        obtain ⟨Az, cz, rfl⟩ := own_sliceZ hO
        have HO := Lib.hid hO
        have HB := Lib.hid (HB4.out.trans (hb.mono HB4.out.size))
        have HUPK := Lib.hid hup
        have hcap := own_cap hO
        have HRD := Lib.hid (RdZ.of_own hO hzl)
        have HZL := Lib.hid hzl
        have HDR := Lib.hid hdr
        have HB5 := Lib.hid hb
        clear hO hup hzl hdr
        by_cases hlt : k < fr.length
        · obtain ⟨bf, of, x, rfl, lf, hx, fc⟩ := (RF.out.next hb).at_ hlt
          obtain ⟨j, rfl, hjm⟩ := HUN.out k x hx
          have hlt2 : (k : Int) < (fr.length : Int) := by omega
          have hk0 : (0 : Int) ≤ (k : Int) := Int.natCast_nonneg _
          have hj0 : (0 : Int) ≤ (j : Int) := Int.natCast_nonneg _
          have hjm2 : (j : Int) < (m : Int) := by omega
          obtain ⟨t', rfl⟩ : ∃ t', t = (j : Int) :: t' := ⟨fr.drop (k + 1), by rw [← HDR.out]; exact drop_at hx⟩
          have HDR2 := Lib.hid (show fr.drop (k + 1) = t' from by
            have h1 := HDR.out
            rw [drop_at hx] at h1
            injection h1)
          obtain ⟨bp, op, rfl, lp, p0, p1⟩ := asgs.cells2 (HR2.out.next HB.out) hjm
          have HST := Lib.hid (trkz.startS zz (fld 2 ps j 0) (fld 2 ps j 1) Az nn cz wr hcap (by omega) HRD.out)
          have HUY := Lib.hid (fun h => up_yes (ps := ps) (zs := zz) (t := t') (n := nn) (k := j) h)
          have HUNo := Lib.hid (fun h => up_no (ps := ps) (zs := zz) (t := t') (n := nn) (k := j) h)
          have HSY := Lib.hid (fun h => st_yes (zs := zz) (n := nn) (x := fld 2 ps j 0) (y := fld 2 ps j 1) h)
          have HS6 := Lib.hid (fun (h : stB zz nn (fld 2 ps j 0) (fld 2 ps j 1) = true) => show (stR zz nn (fld 2 ps j 0) (fld 2 ps j 1)).length = (nn + 1) * 6 ∧ nn + 1 ≤ 6 from ⟨by unfold stR; rw [List.length_append, HZL.out, six_length]; omega, (tvB_yes h).2⟩)
          have hfl := HUL.out
          clear hx hcap hb
          generalize fld 2 ps j 0 = x0 at *
          generalize fld 2 ps j 1 = y0 at *
          cases hs : stB zz nn x0 y0
          · have HV := Lib.hid ((HUNo.out hs).symm.trans HUPK.out)
            rw [hs] at HST
            clear hs HUY HUNo HSY HS6 HUPK
            go_wp2_with fail
            refine HST.out.mono ?_
            rintro e W8 ⟨v8, rfl, ho, hb⟩
            obtain ⟨A8, c8, rfl⟩ := own_sliceZ ho
            have HO8 := Lib.hid (own_.own_below HO.out hb)
            have HB8 := Lib.hid (HB.out.trans (hb.mono HB.out.size))
            clear ho hb
            go_wp2_with fail
            go_ret2
            exact ⟨_, by rw [HUB.out]; rfl, by rw [HYES.out.1, HYES.out.2, ← HV.out]; exact HO8.out, HB8.out⟩
          · have HV := Lib.hid ((HUY.out hs).symm.trans HUPK.out)
            have HSV := Lib.hid (HSY.out hs)
            have HS7 := Lib.hid (HS6.out hs)
            rw [hs] at HST
            clear hs HUY HUNo HSY HS6 HUPK
            go_wp2_with fail
            refine HST.out.mono ?_
            rintro e W8 ⟨v8, rfl, ho, hb⟩
            rw [HSV.out.1, HSV.out.2.1] at ho
            obtain ⟨A8, c8, rfl⟩ := own_sliceZ ho
            have HO8 := Lib.hid (own_.own_base ho HB.out.size)
            have HB8 := Lib.hid (HB5.out.trans (hb.mono HB5.out.size))
            clear ho hb
            go_wp2_with fail
            go_roundw
            case rel => exact ⟨k + 1, t', stR zz nn x0 y0, nn + 1, by omega, by go_num, HDR2.out, HV.out, HS7.out.1, HS7.out.2, HO8.out, HB8.out⟩
            case measure => simp [intOf]; omega
        · obtain rfl : k = fr.length := by omega
          have HV := Lib.hid (show (zz, nn) = UP by
            have h1 := HDR.out
            rw [List.drop_length] at h1
            have h2 := HUPK.out
            rw [← h1] at h2
            exact h2)
          clear hb
          go_wp2_with fail
          go_ret2
          exact ⟨_, by rw [HUB.out]; rfl, by rw [HYES.out.1, HYES.out.2, ← HV.out]; exact HO.out, HB.out⟩

end Go.Proofs.YtfigjfckelichaaGreatDoor.asgn

/- impl's areSwapped, SwappedPairs. -/
namespace Go.Proofs.YtfigjfckelichaaGreatDoor.asgf
open Go.RowKit Go.Proofs.YtfigjfckelichaaGreatDoor.ints Go.Proofs.YtfigjfckelichaaGreatDoor.lst Go.Proofs.YtfigjfckelichaaGreatDoor.in_ Go.Proofs.YtfigjfckelichaaGreatDoor.ats Go.Proofs.YtfigjfckelichaaGreatDoor.pos Go.Proofs.YtfigjfckelichaaGreatDoor.trk Go.Proofs.YtfigjfckelichaaGreatDoor.trkm Go.Proofs.YtfigjfckelichaaGreatDoor.trke Go.Proofs.YtfigjfckelichaaGreatDoor.intc Go.Proofs.YtfigjfckelichaaGreatDoor.asg Go.Proofs.YtfigjfckelichaaGreatDoor.rws

set_option maxRecDepth 100000 in
set_option maxHeartbeats 4000000 in
theorem areSwapped (i s x y h l u v i2 s2 x2 y2 h2 l2 u2 v2 : Int) (hA : pB x y = true) (hP : pB u v = true) (hB : pB x2 y2 = true) (hQ : pB u2 v2 = true) (w : World) :
    Calls Tryz.prog 67 #[.agg #[.int .i64 i, .int .i64 s, .int .i64 x, .int .i64 y, .int .i64 h, .int .i64 l], .agg #[.int .i64 u, .int .i64 v], .agg #[.int .i64 i2, .int .i64 s2, .int .i64 x2, .int .i64 y2, .int .i64 h2, .int .i64 l2], .agg #[.int .i64 u2, .int .i64 v2]] w fun e w' => e = .returned (.bool (decide (dst x y u2 v2 + dst x2 y2 u v < dst x y u v + dst x2 y2 u2 v2))) ∧ Below w.heap.size w w' := by
  have S0 := Lib.hid ((((newS 25 #[.int .i64 i, .int .i64 s, .int .i64 x, .int .i64 y, .int .i64 h, .int .i64 l] w).alloc (.cells #[.int .i64 u, .int .i64 v] 35)).alloc (.cells #[.int .i64 i2, .int .i64 s2, .int .i64 x2, .int .i64 y2, .int .i64 h2, .int .i64 l2] 25)).alloc (.cells #[.int .i64 u2, .int .i64 v2] 35))
  have S1 := Lib.hid ((((newS 25 #[.int .i64 i, .int .i64 s, .int .i64 x, .int .i64 y, .int .i64 h, .int .i64 l] w).next 35 #[.int .i64 u, .int .i64 v]).alloc (.cells #[.int .i64 i2, .int .i64 s2, .int .i64 x2, .int .i64 y2, .int .i64 h2, .int .i64 l2] 25)).alloc (.cells #[.int .i64 u2, .int .i64 v2] 35))
  rw [World.size_alloc] at S1
  have S2 := Lib.hid ((((newS 25 #[.int .i64 i, .int .i64 s, .int .i64 x, .int .i64 y, .int .i64 h, .int .i64 l] w).alloc (.cells #[.int .i64 u, .int .i64 v] 35)).next 25 #[.int .i64 i2, .int .i64 s2, .int .i64 x2, .int .i64 y2, .int .i64 h2, .int .i64 l2]).alloc (.cells #[.int .i64 u2, .int .i64 v2] 35))
  rw [World.size_alloc, World.size_alloc] at S2
  have S3 := Lib.hid ((((newS 25 #[.int .i64 i, .int .i64 s, .int .i64 x, .int .i64 y, .int .i64 h, .int .i64 l] w).alloc (.cells #[.int .i64 u, .int .i64 v] 35)).alloc (.cells #[.int .i64 i2, .int .i64 s2, .int .i64 x2, .int .i64 y2, .int .i64 h2, .int .i64 l2] 25)).next 35 #[.int .i64 u2, .int .i64 v2])
  rw [World.size_alloc, World.size_alloc, World.size_alloc] at S3
  have D1 := Lib.hid (fun W d0 os => Calls.regrown_of (show Calls Tryz.prog 71 #[.agg #[.int .i64 i, .int .i64 s, .int .i64 x, .int .i64 y, .int .i64 h, .int .i64 l], .agg #[.int .i64 u2, .int .i64 v2]] (Sort.grow (redrawn W d0) os) (fun e w' => e = .returned (.int .i64 (dst x y u2 v2)) ∧ Below (Sort.grow (redrawn W d0) os).heap.size (Sort.grow (redrawn W d0) os) w') from asga.trackDistance i s x y h l u2 v2 hA hQ _))
  have bD1 := asga.ds_in hA hQ
  rw [show asga.ds x y u2 v2 = dst x y u2 v2 from rfl] at bD1
  have D2 := Lib.hid (fun W d0 os => Calls.regrown_of (show Calls Tryz.prog 71 #[.agg #[.int .i64 i2, .int .i64 s2, .int .i64 x2, .int .i64 y2, .int .i64 h2, .int .i64 l2], .agg #[.int .i64 u, .int .i64 v]] (Sort.grow (redrawn W d0) os) (fun e w' => e = .returned (.int .i64 (dst x2 y2 u v)) ∧ Below (Sort.grow (redrawn W d0) os).heap.size (Sort.grow (redrawn W d0) os) w') from asga.trackDistance i2 s2 x2 y2 h2 l2 u v hB hP _))
  have bD2 := asga.ds_in hB hP
  rw [show asga.ds x2 y2 u v = dst x2 y2 u v from rfl] at bD2
  have D3 := Lib.hid (fun W d0 os => Calls.regrown_of (show Calls Tryz.prog 71 #[.agg #[.int .i64 i, .int .i64 s, .int .i64 x, .int .i64 y, .int .i64 h, .int .i64 l], .agg #[.int .i64 u, .int .i64 v]] (Sort.grow (redrawn W d0) os) (fun e w' => e = .returned (.int .i64 (dst x y u v)) ∧ Below (Sort.grow (redrawn W d0) os).heap.size (Sort.grow (redrawn W d0) os) w') from asga.trackDistance i s x y h l u v hA hP _))
  have bD3 := asga.ds_in hA hP
  rw [show asga.ds x y u v = dst x y u v from rfl] at bD3
  have D4 := Lib.hid (fun W d0 os => Calls.regrown_of (show Calls Tryz.prog 71 #[.agg #[.int .i64 i2, .int .i64 s2, .int .i64 x2, .int .i64 y2, .int .i64 h2, .int .i64 l2], .agg #[.int .i64 u2, .int .i64 v2]] (Sort.grow (redrawn W d0) os) (fun e w' => e = .returned (.int .i64 (dst x2 y2 u2 v2)) ∧ Below (Sort.grow (redrawn W d0) os).heap.size (Sort.grow (redrawn W d0) os) w') from asga.trackDistance i2 s2 x2 y2 h2 l2 u2 v2 hB hQ _))
  have bD4 := asga.ds_in hB hQ
  rw [show asga.ds x2 y2 u2 v2 = dst x2 y2 u2 v2 from rfl] at bD4
  generalize dst x y u2 v2 = dD1 at *
  generalize dst x2 y2 u v = dD2 at *
  generalize dst x y u v = dD3 at *
  generalize dst x2 y2 u2 v2 = dD4 at *
  clear hA hP hB hQ
  have e1 : IntKind.i64.wrap (dD1 + dD2) = dD1 + dD2 := IntWalk.i64_in _ (by omega)
  have e2 : IntKind.i64.wrap (dD3 + dD4) = dD3 + dD4 := IntWalk.i64_in _ (by omega)
  go_enter Tryz.func67, Tryz.ntmps67
  go_upto_region 1 with fail
  generalize ((((w.alloc (.cells #[.int .i64 i, .int .i64 s, .int .i64 x, .int .i64 y, .int .i64 h, .int .i64 l] 25)).alloc (.cells #[.int .i64 u, .int .i64 v] 35)).alloc (.cells #[.int .i64 i2, .int .i64 s2, .int .i64 x2, .int .i64 y2, .int .i64 h2, .int .i64 l2] 25)).alloc (.cells #[.int .i64 u2, .int .i64 v2] 35)) = W0 at *
  have c00 : W0.cell? ⟨w.heap.size, 0, none⟩ = some (.int .i64 i) := S0.out.cell 0
  have c01 : W0.cell? ⟨w.heap.size, 1, none⟩ = some (.int .i64 s) := S0.out.cell 1
  have c02 : W0.cell? ⟨w.heap.size, 2, none⟩ = some (.int .i64 x) := S0.out.cell 2
  have c03 : W0.cell? ⟨w.heap.size, 3, none⟩ = some (.int .i64 y) := S0.out.cell 3
  have c04 : W0.cell? ⟨w.heap.size, 4, none⟩ = some (.int .i64 h) := S0.out.cell 4
  have c05 : W0.cell? ⟨w.heap.size, 5, none⟩ = some (.int .i64 l) := S0.out.cell 5
  have c10 : W0.cell? ⟨w.heap.size + 1, 0, none⟩ = some (.int .i64 u) := S1.out.cell 0
  have c11 : W0.cell? ⟨w.heap.size + 1, 1, none⟩ = some (.int .i64 v) := S1.out.cell 1
  have c20 : W0.cell? ⟨w.heap.size + 1 + 1, 0, none⟩ = some (.int .i64 i2) := S2.out.cell 0
  have c21 : W0.cell? ⟨w.heap.size + 1 + 1, 1, none⟩ = some (.int .i64 s2) := S2.out.cell 1
  have c22 : W0.cell? ⟨w.heap.size + 1 + 1, 2, none⟩ = some (.int .i64 x2) := S2.out.cell 2
  have c23 : W0.cell? ⟨w.heap.size + 1 + 1, 3, none⟩ = some (.int .i64 y2) := S2.out.cell 3
  have c24 : W0.cell? ⟨w.heap.size + 1 + 1, 4, none⟩ = some (.int .i64 h2) := S2.out.cell 4
  have c25 : W0.cell? ⟨w.heap.size + 1 + 1, 5, none⟩ = some (.int .i64 l2) := S2.out.cell 5
  have c30 : W0.cell? ⟨w.heap.size + 1 + 1 + 1, 0, none⟩ = some (.int .i64 u2) := S3.out.cell 0
  have c31 : W0.cell? ⟨w.heap.size + 1 + 1 + 1, 1, none⟩ = some (.int .i64 v2) := S3.out.cell 1
  have c00' := fun d0 os => cell_regrown c00 d0 os
  have c01' := fun d0 os => cell_regrown c01 d0 os
  have c02' := fun d0 os => cell_regrown c02 d0 os
  have c03' := fun d0 os => cell_regrown c03 d0 os
  have c04' := fun d0 os => cell_regrown c04 d0 os
  have c05' := fun d0 os => cell_regrown c05 d0 os
  have c10' := fun d0 os => cell_regrown c10 d0 os
  have c11' := fun d0 os => cell_regrown c11 d0 os
  have c20' := fun d0 os => cell_regrown c20 d0 os
  have c21' := fun d0 os => cell_regrown c21 d0 os
  have c22' := fun d0 os => cell_regrown c22 d0 os
  have c23' := fun d0 os => cell_regrown c23 d0 os
  have c24' := fun d0 os => cell_regrown c24 d0 os
  have c25' := fun d0 os => cell_regrown c25 d0 os
  have c30' := fun d0 os => cell_regrown c30 d0 os
  have c31' := fun d0 os => cell_regrown c31 d0 os
  clear c00 c01 c02 c03 c04 c05 c10 c11 c20 c21 c22 c23 c24 c25 c30 c31
  refine wp_region_quiet_below (by kernel_rfl) (by kernel_rfl) ?_
  repeat (
    with_reducible refine wpQuiet_step (fun K hK => ?_)
    go_simp
    first
      | (refine hK _ ?_; clear hK K)
      | (apply Exists.intro
         refine ⟨fun _ => ?_, hK _ ?_⟩
         (first
           | (go_at_call 71; with_reducible exact D1.out _ _ _)
           | (go_at_call 71; with_reducible exact D2.out _ _ _)
           | (go_at_call 71; with_reducible exact D3.out _ _ _)
           | (go_at_call 71; with_reducible exact D4.out _ _ _))
         clear hK K))
  with_reducible refine wpQuiet_nil ?_
  intro _ hw'
  obtain ⟨⟨dq, osq⟩, hw''⟩ := hw'
  subst hw''
  have hbl := (below_regrown W0 dq osq)
  clear c00' c01' c02' c03' c04' c05' c10' c11' c20' c21' c22' c23' c24' c25' c30' c31'
  generalize Sort.grow (redrawn W0 dq) osq = W3 at *
  have B3 := Lib.hid (S0.out.1.trans (hbl.mono S0.out.1.size))
  go_wp2_with fail
  go_ret
  exact ⟨rfl, B3.out⟩

set_option maxRecDepth 100000 in
set_option maxHeartbeats 4000000 in
theorem swappedPairs (zs ps xs : List Int) (g : Int) (A C E : Option Addr) (n c m cq e0 ce : Nat) (w : World) (hn : n ≤ 1048577) (hm : m ≤ 1048577) (he0 : e0 ≤ 1048577) (hce : e0 ≤ ce) (h1 : RdZ 6 w w.heap.size A n zs) (h2 : RdZ 2 w w.heap.size C m ps) (h3 : RdI w w.heap.size E e0 xs) :
    Calls Tryz.prog 25 #[.slice A n c, .slice C m cq, .int .i64 g, .slice E e0 ce] w fun e w' => e = .returned (.tuple #[.int .i64 (spV zs n ps m g xs e0), .bool (agB zs n ps m g xs e0)]) ∧ Below w.heap.size w w' := by
  have H1 := Lib.hid (asgc.isAssignment zs ps xs g A C E n c m cq e0 ce w hn hm he0 hce h1 h2 h3)
  cases hq : agB zs n ps m g xs e0
  · have HE := Lib.hid (spV_no hq)
    rw [hq] at H1
    clear hq h1 h2 h3
    go_enter Tryz.func25, Tryz.ntmps25
    go_wp2_with fail
    refine H1.out.mono ?_
    rintro e w1 ⟨rfl, hb⟩
    have HB := Lib.hid hb
    clear hb
    go_wp2_with fail
    go_ret2
    exact ⟨by rw [HE.out]; rfl, HB.out⟩
  rw [hq] at H1
  obtain ⟨hak, rfl, hpr⟩ := agB_yes hq
  have HPT := Lib.hid (fun k hk => ak_track (i := k) hak hk)
  have HPP := Lib.hid (fun k hk => ak_plot (k := k) hak hk)
  have hm5 := (akB_yes hak).2.2.1
  have hg5 := (akB_yes hak).2.2.2
  have hn6 : e0 ≤ 6 := (tvB_yes (akB_yes hak).1).2
  have HPR := Lib.hid hpr
  have HR1 := Lib.hid h1
  have HR2 := Lib.hid h2
  have HR3 := Lib.hid h3
  have HQ := Lib.hid hq
  have HV := Lib.hid (spV_yes hq)
  clear hq hak hpr h1 h2 h3
  go_enter Tryz.func25, Tryz.ntmps25
  go_wp2_with fail
  refine H1.out.mono ?_
  rintro e w1 ⟨rfl, hb⟩
  have HB1 := Lib.hid hb
  clear hb H1
  go_wp2_with fail
  go_loopw [10, 23] (fun s i wr => ∃ k : Nat, k ≤ e0 ∧ i = .int .i64 k ∧ s = .int .i64 ((swT (pst zs ps) xs k : Nat) : Int) ∧ Below w.heap.size w wr) (fun _ i _ => e0 - (intOf i).toNat)
  case atStart => exact ⟨0, Nat.zero_le _, rfl, rfl, HB1.out⟩
  case round =>
    obtain ⟨k, hk, rfl, rfl, hb⟩ := hrel
    have HBk := Lib.hid hb
    by_cases hlt : k < e0
    · obtain ⟨b3, o3, x, rfl, l3, hx, p0⟩ := (HR3.out.next hb).at_ hlt
      have hlt2 : (k : Int) < (e0 : Int) := by omega
      have HGX := Lib.hid (getD_some hx)
      have HOX := Lib.hid (prB_at HPR.out hlt)
      have hk0 : (0 : Int) ≤ (k : Int) := Int.natCast_nonneg _
      have hkc : (k : Int) ≤ (ce : Int) := by omega
      have HSW := Lib.hid (swT_le (pst zs ps) xs k)
      have HSZ := Lib.hid (show swT (pst zs ps) xs (k + 1) = swI (pst zs ps) xs k (swT (pst zs ps) xs k) k from rfl)
      clear hb
      go_wp2_with fail
      go_loopw [10, 32] (fun s i wr => ∃ j : Nat, j ≤ k ∧ i = .int .i64 j ∧ s = .int .i64 ((swI (pst zs ps) xs k (swT (pst zs ps) xs k) j : Nat) : Int) ∧ Below w.heap.size w wr) (fun _ i _ => k - (intOf i).toNat)
      case atStart => exact ⟨0, Nat.zero_le _, rfl, rfl, HBk.out⟩
      case round =>
        obtain ⟨j, hj, rfl, rfl, hb⟩ := hrel
        have HB := Lib.hid hb
        by_cases hjk : j < k
        · have hjlt : j < e0 := by omega
          obtain ⟨b4, o4, y, hA4, l4, hy, p1⟩ := (HR3.out.next hb).at_ hjlt
          obtain ⟨rfl, rfl⟩ : b3 = b4 ∧ o3 = o4 := by injection hA4 with e; injection e with e1 e2; exact ⟨e1, e2⟩
          obtain ⟨b5, o5, x5, hA5, l5, hx5, p0'⟩ := (HR3.out.next hb).at_ hlt
          obtain ⟨rfl, rfl⟩ : b3 = b5 ∧ o3 = o5 := by injection hA5 with e; injection e with e1 e2; exact ⟨e1, e2⟩
          obtain rfl : x5 = x := by rw [hx] at hx5; injection hx5 with e; exact e.symm
          have hjk2 : (j : Int) < (k : Int) := by omega
          have hjl2 : (j : Int) < (e0 : Int) := by omega
          have hj0 : (0 : Int) ≤ (j : Int) := Int.natCast_nonneg _
          have HGY := Lib.hid (getD_some hy)
          have HOY := Lib.hid (prB_at HPR.out hjlt)
          have hsn := swI_le (pst zs ps) xs k (swT (pst zs ps) xs k) j
          have hkk : k * k ≤ 36 := by
            have : k * k ≤ 6 * 6 := Nat.mul_le_mul (by omega) (by omega)
            omega
          have hsw := HSW.out
          clear hb hx5 hy hA4 hA5 p0
          rcases pairOk_yes HOX.out with hx1 | ⟨a, ha5, hx1, _, _⟩
          · rw [HGX.out] at hx1
            have HT := Lib.hid (show swI (pst zs ps) xs k (swT (pst zs ps) xs k) (j + 1) = swI (pst zs ps) xs k (swT (pst zs ps) xs k) j from sw_no (swB_no (by rw [HGX.out, HGY.out]; exact Or.inl hx1)))
            generalize swI (pst zs ps) xs k (swT (pst zs ps) xs k) j = sn at *
            have g1 : (x5 != -1) = false := by rw [hx1]; rfl
            clear hx1
            clear HGX HGY HOX HOY
            go_wp2_with fail
            refine wp_region_quiet_below (by kernel_rfl) (by kernel_rfl) ?_
            repeat (
              with_reducible refine wpQuiet_step (fun K hK => ?_)
              go_simp
              refine hK _ ?_; clear hK K)
            with_reducible refine wpQuiet_nil ?_
            intro _ hw'
            obtain ⟨⟨dq, osq⟩, hw''⟩ := hw'
            subst hw''
            have hbl := (below_regrown wr dq osq)
            generalize Sort.grow (redrawn wr dq) osq = w3 at *
            have HBB := Lib.hid (HB.out.trans (hbl.mono HB.out.size))
            clear hbl HB
            go_wp2_with fail
            go_roundw
            case rel => exact ⟨j + 1, by omega, by go_num, by rw [HT.out], HBB.out⟩
            case measure => simp [intOf]; omega
          rw [HGX.out] at hx1
          rcases pairOk_yes HOY.out with hy1 | ⟨d, hd5, hy1, _, _⟩
          · rw [HGY.out] at hy1
            have HT := Lib.hid (show swI (pst zs ps) xs k (swT (pst zs ps) xs k) (j + 1) = swI (pst zs ps) xs k (swT (pst zs ps) xs k) j from sw_no (swB_no (by rw [HGX.out, HGY.out]; exact Or.inr hy1)))
            generalize swI (pst zs ps) xs k (swT (pst zs ps) xs k) j = sn at *
            have g1 : (x5 != -1) = true := bne_iff_ne.mpr (by omega)
            have g2 : (y != -1) = false := by rw [hy1]; rfl
            clear hx1 hy1
            clear HGX HGY HOX HOY
            go_wp2_with fail
            refine wp_region_quiet_below (by kernel_rfl) (by kernel_rfl) ?_
            repeat (
              with_reducible refine wpQuiet_step (fun K hK => ?_)
              go_simp
              refine hK _ ?_; clear hK K)
            with_reducible refine wpQuiet_nil ?_
            intro _ hw'
            obtain ⟨⟨dq, osq⟩, hw''⟩ := hw'
            subst hw''
            have hbl := (below_regrown wr dq osq)
            generalize Sort.grow (redrawn wr dq) osq = w3 at *
            have HBB := Lib.hid (HB.out.trans (hbl.mono HB.out.size))
            clear hbl HB
            go_wp2_with fail
            go_roundw
            case rel => exact ⟨j + 1, by omega, by go_num, by rw [HT.out], HBB.out⟩
            case measure => simp [intOf]; omega
          rw [HGY.out] at hy1
          subst hx1
          subst hy1
          have ha0 : (0 : Int) ≤ (a : Int) := Int.natCast_nonneg _
          have hd0 : (0 : Int) ≤ (d : Int) := Int.natCast_nonneg _
          have ham : (a : Int) < (m : Int) := by omega
          have hdm : (d : Int) < (m : Int) := by omega
          have HIS := Lib.hid (swB_is (D := (pst zs ps)) HGX.out HGY.out)
          have HSY := Lib.hid (fun h => sw_yes (D := (pst zs ps)) (xs := xs) (i := k) (j := j) (s := swT (pst zs ps) xs k) h)
          have HSN := Lib.hid (fun h => sw_no (D := (pst zs ps)) (xs := xs) (i := k) (j := j) (s := swT (pst zs ps) xs k) h)
          obtain ⟨b1, o1, rfl, l1, a0, a1, a2, a3, a4, a5⟩ := cellsE (HR1.out.next HB.out) hlt
          obtain ⟨b1', o1', hA6, -, e0', e1', e2', e3', e4', e5'⟩ := cellsE (HR1.out.next HB.out) hjlt
          obtain ⟨rfl, rfl⟩ : b1 = b1' ∧ o1 = o1' := by injection hA6 with e; injection e with e1 e2; exact ⟨e1, e2⟩
          obtain ⟨b2, o2, rfl, l2, q0, q1⟩ := asga.cells2 (HR2.out.next HB.out) ha5
          obtain ⟨b2', o2', hA7, -, r0, r1⟩ := asga.cells2 (HR2.out.next HB.out) hd5
          obtain ⟨rfl, rfl⟩ : b2 = b2' ∧ o2 = o2' := by injection hA7 with e; injection e with e1 e2; exact ⟨e1, e2⟩
          have TD := Lib.hid (fun w d0 os => Calls.regrown_of (show Calls Tryz.prog 67 #[.agg #[.int .i64 (fld 6 zs k 0), .int .i64 (fld 6 zs k 1), .int .i64 (fld 6 zs k 2), .int .i64 (fld 6 zs k 3), .int .i64 (fld 6 zs k 4), .int .i64 (fld 6 zs k 5)], .agg #[.int .i64 (fld 2 ps a 0), .int .i64 (fld 2 ps a 1)], .agg #[.int .i64 (fld 6 zs j 0), .int .i64 (fld 6 zs j 1), .int .i64 (fld 6 zs j 2), .int .i64 (fld 6 zs j 3), .int .i64 (fld 6 zs j 4), .int .i64 (fld 6 zs j 5)], .agg #[.int .i64 (fld 2 ps d 0), .int .i64 (fld 2 ps d 1)]] (Sort.grow (redrawn w d0) os) (fun e w' => e = .returned (.bool (decide (pst zs ps k d + pst zs ps j a < pst zs ps k a + pst zs ps j d))) ∧ Below (Sort.grow (redrawn w d0) os).heap.size (Sort.grow (redrawn w d0) os) w') from areSwapped (fld 6 zs k 0) (fld 6 zs k 1) (fld 6 zs k 2) (fld 6 zs k 3) (fld 6 zs k 4) (fld 6 zs k 5) (fld 2 ps a 0) (fld 2 ps a 1) (fld 6 zs j 0) (fld 6 zs j 1) (fld 6 zs j 2) (fld 6 zs j 3) (fld 6 zs j 4) (fld 6 zs j 5) (fld 2 ps d 0) (fld 2 ps d 1) (HPT.out k hlt) (HPP.out a ha5) (HPT.out j hjlt) (HPP.out d hd5) (Sort.grow (redrawn w d0) os)))
          rw [← HIS.out] at TD
          generalize swI (pst zs ps) xs k (swT (pst zs ps) xs k) j = sn at *
          generalize fld 6 zs k 0 = u0 at *
          generalize fld 6 zs k 1 = u1 at *
          generalize fld 6 zs k 2 = u2 at *
          generalize fld 6 zs k 3 = u3 at *
          generalize fld 6 zs k 4 = u4 at *
          generalize fld 6 zs k 5 = u5 at *
          generalize fld 6 zs j 0 = t0 at *
          generalize fld 6 zs j 1 = t1 at *
          generalize fld 6 zs j 2 = t2 at *
          generalize fld 6 zs j 3 = t3 at *
          generalize fld 6 zs j 4 = t4 at *
          generalize fld 6 zs j 5 = t5 at *
          generalize fld 2 ps a 0 = v0 at *
          generalize fld 2 ps a 1 = v1 at *
          generalize fld 2 ps d 0 = r0 at *
          generalize fld 2 ps d 1 = r1 at *
          have g1 : ((a : Int) != -1) = true := bne_iff_ne.mpr (by omega)
          have g2 : ((d : Int) != -1) = true := bne_iff_ne.mpr (by omega)
          have e9 : IntKind.i64.wrap ((sn : Int) + 1) = (sn : Int) + 1 := IntWalk.i64_in _ (by omega)
          clear HGX HGY HOX HOY HIS hA6 hA7
          cases hsb : swB (pst zs ps) xs k j
          · have HT := Lib.hid (HSN.out hsb)
            rw [hsb] at TD
            clear hsb HSN HSY
            go_wp2_with fail
            have a0' := fun d0 os => cell_regrown a0 d0 os
            have a1' := fun d0 os => cell_regrown a1 d0 os
            have a2' := fun d0 os => cell_regrown a2 d0 os
            have a3' := fun d0 os => cell_regrown a3 d0 os
            have a4' := fun d0 os => cell_regrown a4 d0 os
            have a5' := fun d0 os => cell_regrown a5 d0 os
            have e0'' := fun d0 os => cell_regrown e0' d0 os
            have e1'' := fun d0 os => cell_regrown e1' d0 os
            have e2'' := fun d0 os => cell_regrown e2' d0 os
            have e3'' := fun d0 os => cell_regrown e3' d0 os
            have e4'' := fun d0 os => cell_regrown e4' d0 os
            have e5'' := fun d0 os => cell_regrown e5' d0 os
            have q0' := fun d0 os => cell_regrown q0 d0 os
            have q1' := fun d0 os => cell_regrown q1 d0 os
            have r0' := fun d0 os => cell_regrown r0 d0 os
            have r1' := fun d0 os => cell_regrown r1 d0 os
            clear a0 a1 a2 a3 a4 a5 e0' e1' e2' e3' e4' e5' q0 q1 r0 r1
            refine wp_region_quiet_below (by kernel_rfl) (by kernel_rfl) ?_
            repeat (
              with_reducible refine wpQuiet_step (fun K hK => ?_)
              go_simp
              first
                | (refine hK _ ?_; clear hK K)
                | (apply Exists.intro
                   refine ⟨fun _ => ?_, hK _ ?_⟩
                   (first
                     | (go_at_call 67; with_reducible exact TD.out _ _ _))
                   clear hK K))
            with_reducible refine wpQuiet_nil ?_
            intro _ hw'
            obtain ⟨⟨dq, osq⟩, hw''⟩ := hw'
            subst hw''
            have hbl := (below_regrown wr dq osq)
            clear a0' a1' a2' a3' a4' a5' e0'' e1'' e2'' e3'' e4'' e5'' q0' q1' r0' r1'
            generalize Sort.grow (redrawn wr dq) osq = w3 at *
            have HBB := Lib.hid (HB.out.trans (hbl.mono HB.out.size))
            clear hbl HB
            go_wp2_with fail
            go_roundw
            case rel => exact ⟨j + 1, by omega, by go_num, by rw [HT.out], HBB.out⟩
            case measure => simp [intOf]; omega
          · have HT := Lib.hid (HSY.out hsb)
            rw [hsb] at TD
            clear hsb HSN HSY
            go_wp2_with fail
            have a0' := fun d0 os => cell_regrown a0 d0 os
            have a1' := fun d0 os => cell_regrown a1 d0 os
            have a2' := fun d0 os => cell_regrown a2 d0 os
            have a3' := fun d0 os => cell_regrown a3 d0 os
            have a4' := fun d0 os => cell_regrown a4 d0 os
            have a5' := fun d0 os => cell_regrown a5 d0 os
            have e0'' := fun d0 os => cell_regrown e0' d0 os
            have e1'' := fun d0 os => cell_regrown e1' d0 os
            have e2'' := fun d0 os => cell_regrown e2' d0 os
            have e3'' := fun d0 os => cell_regrown e3' d0 os
            have e4'' := fun d0 os => cell_regrown e4' d0 os
            have e5'' := fun d0 os => cell_regrown e5' d0 os
            have q0' := fun d0 os => cell_regrown q0 d0 os
            have q1' := fun d0 os => cell_regrown q1 d0 os
            have r0' := fun d0 os => cell_regrown r0 d0 os
            have r1' := fun d0 os => cell_regrown r1 d0 os
            clear a0 a1 a2 a3 a4 a5 e0' e1' e2' e3' e4' e5' q0 q1 r0 r1
            refine wp_region_quiet_below (by kernel_rfl) (by kernel_rfl) ?_
            repeat (
              with_reducible refine wpQuiet_step (fun K hK => ?_)
              go_simp
              first
                | (refine hK _ ?_; clear hK K)
                | (apply Exists.intro
                   refine ⟨fun _ => ?_, hK _ ?_⟩
                   (first
                     | (go_at_call 67; with_reducible exact TD.out _ _ _))
                   clear hK K))
            with_reducible refine wpQuiet_nil ?_
            intro _ hw'
            obtain ⟨⟨dq, osq⟩, hw''⟩ := hw'
            subst hw''
            have hbl := (below_regrown wr dq osq)
            clear a0' a1' a2' a3' a4' a5' e0'' e1'' e2'' e3'' e4'' e5'' q0' q1' r0' r1'
            generalize Sort.grow (redrawn wr dq) osq = w3 at *
            have HBB := Lib.hid (HB.out.trans (hbl.mono HB.out.size))
            clear hbl HB
            go_wp2_with fail
            go_roundw
            case rel => exact ⟨j + 1, by omega, by go_num, by rw [HT.out]; go_num, HBB.out⟩
            case measure => simp [intOf]; omega
        · obtain rfl : j = k := by omega
          have HT := Lib.hid HSZ.out
          clear hb
          go_wp2_with fail
          go_roundw
          case rel => exact ⟨j + 1, by omega, by go_num, by rw [HT.out], HB.out⟩
          case measure => simp [intOf]; omega
    · obtain rfl : k = e0 := by omega
      go_wp2_with fail
      go_ret2
      exact ⟨by rw [HV.out]; rfl, HBk.out⟩

end Go.Proofs.YtfigjfckelichaaGreatDoor.asgf

/- spec's SwappedPairs. -/
namespace Go.Proofs.YtfigjfckelichaaGreatDoor.asgw
open Go.RowKit Go.Proofs.YtfigjfckelichaaGreatDoor.ints Go.Proofs.YtfigjfckelichaaGreatDoor.lst Go.Proofs.YtfigjfckelichaaGreatDoor.in_ Go.Proofs.YtfigjfckelichaaGreatDoor.ats Go.Proofs.YtfigjfckelichaaGreatDoor.pos Go.Proofs.YtfigjfckelichaaGreatDoor.trk Go.Proofs.YtfigjfckelichaaGreatDoor.trkm Go.Proofs.YtfigjfckelichaaGreatDoor.trke Go.Proofs.YtfigjfckelichaaGreatDoor.intc Go.Proofs.YtfigjfckelichaaGreatDoor.asg

set_option maxRecDepth 100000 in
set_option maxHeartbeats 4000000 in
theorem swappedPairs (zs ps xs : List Int) (g : Int) (A C E : Option Addr) (n c m cq e0 ce : Nat) (w : World) (hn : n ≤ 1048577) (hm : m ≤ 1048577) (he0 : e0 ≤ 1048577) (hce : e0 ≤ ce) (h1 : RdZ 6 w w.heap.size A n zs) (h2 : RdZ 2 w w.heap.size C m ps) (h3 : RdI w w.heap.size E e0 xs) :
    Calls Tryz.prog 26 #[.slice A n c, .slice C m cq, .int .i64 g, .slice E e0 ce] w fun e w' => e = .returned (.tuple #[.int .i64 (spV zs n ps m g xs e0), .bool (agB zs n ps m g xs e0)]) ∧ Below w.heap.size w w' := by
  have H1 := Lib.hid (asgu.good15 zs ps xs g A C E n c m cq e0 ce w hn hm he0 hce h1 h2 h3)
  cases hq : agB zs n ps m g xs e0
  · have HE := Lib.hid (spV_no hq)
    rw [hq] at H1
    clear hq h1 h2 h3
    go_enter Tryz.func26, Tryz.ntmps26
    go_wp2_with fail
    refine H1.out.mono ?_
    rintro e w1 ⟨rfl, hb⟩
    have HB := Lib.hid hb
    clear hb
    go_wp2_with fail
    go_ret2
    exact ⟨by rw [HE.out]; rfl, HB.out⟩
  rw [hq] at H1
  obtain ⟨hak, rfl, hpr⟩ := agB_yes hq
  have HPT := Lib.hid (fun k hk => ak_track (i := k) hak hk)
  have HPP := Lib.hid (fun k hk => ak_plot (k := k) hak hk)
  have hm5 := (akB_yes hak).2.2.1
  have hg5 := (akB_yes hak).2.2.2
  have hn6 : e0 ≤ 6 := (tvB_yes (akB_yes hak).1).2
  have HPR := Lib.hid hpr
  have HR1 := Lib.hid h1
  have HR2 := Lib.hid h2
  have HR3 := Lib.hid h3
  have HQ := Lib.hid hq
  have HV := Lib.hid (spV_yes hq)
  clear hq hak hpr h1 h2 h3
  go_enter Tryz.func26, Tryz.ntmps26
  go_wp2_with fail
  refine H1.out.mono ?_
  rintro e w1 ⟨rfl, hb⟩
  have HB1 := Lib.hid hb
  clear hb H1
  go_wp2_with fail
  go_loopw [10, 11] (fun s i wr => ∃ k : Nat, k ≤ e0 ∧ i = .int .i64 k ∧ s = .int .i64 ((swT (pst zs ps) xs k : Nat) : Int) ∧ Below w.heap.size w wr) (fun _ i _ => e0 - (intOf i).toNat)
  case atStart => exact ⟨0, Nat.zero_le _, rfl, rfl, HB1.out⟩
  case round =>
    obtain ⟨k, hk, rfl, rfl, hb⟩ := hrel
    have HBk := Lib.hid hb
    by_cases hlt : k < e0
    · obtain ⟨b3, o3, x, rfl, l3, hx, p0⟩ := (HR3.out.next hb).at_ hlt
      have hlt2 : (k : Int) < (e0 : Int) := by omega
      have HGX := Lib.hid (getD_some hx)
      have HOX := Lib.hid (prB_at HPR.out hlt)
      have hk0 : (0 : Int) ≤ (k : Int) := Int.natCast_nonneg _
      have hkc : (k : Int) ≤ (ce : Int) := by omega
      have HSW := Lib.hid (swT_le (pst zs ps) xs k)
      have HSZ := Lib.hid (show swT (pst zs ps) xs (k + 1) = swI (pst zs ps) xs k (swT (pst zs ps) xs k) k from rfl)
      clear hb
      go_wp2_with fail
      go_loopw [10, 12] (fun s i wr => ∃ j : Nat, j ≤ k ∧ i = .int .i64 j ∧ s = .int .i64 ((swI (pst zs ps) xs k (swT (pst zs ps) xs k) j : Nat) : Int) ∧ Below w.heap.size w wr) (fun _ i _ => k - (intOf i).toNat)
      case atStart => exact ⟨0, Nat.zero_le _, rfl, rfl, HBk.out⟩
      case round =>
        obtain ⟨j, hj, rfl, rfl, hb⟩ := hrel
        have HB := Lib.hid hb
        by_cases hjk : j < k
        · have hjlt : j < e0 := by omega
          obtain ⟨b4, o4, y, hA4, l4, hy, p1⟩ := (HR3.out.next hb).at_ hjlt
          obtain ⟨rfl, rfl⟩ : b3 = b4 ∧ o3 = o4 := by injection hA4 with e; injection e with e1 e2; exact ⟨e1, e2⟩
          obtain ⟨b5, o5, x5, hA5, l5, hx5, p0'⟩ := (HR3.out.next hb).at_ hlt
          obtain ⟨rfl, rfl⟩ : b3 = b5 ∧ o3 = o5 := by injection hA5 with e; injection e with e1 e2; exact ⟨e1, e2⟩
          obtain rfl : x5 = x := by rw [hx] at hx5; injection hx5 with e; exact e.symm
          have hjk2 : (j : Int) < (k : Int) := by omega
          have hjl2 : (j : Int) < (e0 : Int) := by omega
          have hj0 : (0 : Int) ≤ (j : Int) := Int.natCast_nonneg _
          have HGY := Lib.hid (getD_some hy)
          have HOY := Lib.hid (prB_at HPR.out hjlt)
          have hsn := swI_le (pst zs ps) xs k (swT (pst zs ps) xs k) j
          have hkk : k * k ≤ 36 := by
            have : k * k ≤ 6 * 6 := Nat.mul_le_mul (by omega) (by omega)
            omega
          have hsw := HSW.out
          clear hb hx5 hy hA4 hA5 p0
          rcases pairOk_yes HOX.out with hx1 | ⟨a, ha5, hx1, _, _⟩
          · rw [HGX.out] at hx1
            have g1 : decide (x5 < 0) = true := decide_eq_true (by omega)
            have g1' : x5 < 0 := by omega
            have HT := Lib.hid (show swI (pst zs ps) xs k (swT (pst zs ps) xs k) (j + 1) = swI (pst zs ps) xs k (swT (pst zs ps) xs k) j from sw_no (swB_no (by rw [HGX.out, HGY.out]; exact Or.inl hx1)))
            generalize swI (pst zs ps) xs k (swT (pst zs ps) xs k) j = sn at *
            clear HGX HGY HOX HOY
            go_wp2_with fail
            have p0q := fun d0 os => cell_regrown p0' d0 os
            have p1' := fun d0 os => cell_regrown p1 d0 os
            clear p0' p1
            refine wp_region_quiet_below (by kernel_rfl) (by kernel_rfl) ?_
            repeat (
              with_reducible refine wpQuiet_step (fun K hK => ?_)
              go_simp
              refine hK _ ?_; clear hK K)
            with_reducible refine wpQuiet_nil ?_
            intro _ hw'
            obtain ⟨⟨dq, osq⟩, hw''⟩ := hw'
            subst hw''
            have hbl := (below_regrown wr dq osq)
            clear p0q p1'
            generalize Sort.grow (redrawn wr dq) osq = w3 at *
            have HBB := Lib.hid (HB.out.trans (hbl.mono HB.out.size))
            clear hbl HB
            go_wp2_with fail
            go_roundw
            case rel => exact ⟨j + 1, by omega, by go_num, by rw [HT.out], HBB.out⟩
            case measure => simp [intOf]; omega
          rw [HGX.out] at hx1
          rcases pairOk_yes HOY.out with hy1 | ⟨d, hd5, hy1, _, _⟩
          · rw [HGY.out] at hy1
            have g1 : decide (x5 < 0) = false := decide_eq_false (by omega)
            have g1' : ¬ x5 < 0 := by omega
            have g2 : decide (y < 0) = true := decide_eq_true (by omega)
            have g2' : y < 0 := by omega
            have HT := Lib.hid (show swI (pst zs ps) xs k (swT (pst zs ps) xs k) (j + 1) = swI (pst zs ps) xs k (swT (pst zs ps) xs k) j from sw_no (swB_no (by rw [HGX.out, HGY.out]; exact Or.inr hy1)))
            generalize swI (pst zs ps) xs k (swT (pst zs ps) xs k) j = sn at *
            clear HGX HGY HOX HOY
            go_wp2_with fail
            have p0q := fun d0 os => cell_regrown p0' d0 os
            have p1' := fun d0 os => cell_regrown p1 d0 os
            clear p0' p1
            refine wp_region_quiet_below (by kernel_rfl) (by kernel_rfl) ?_
            repeat (
              with_reducible refine wpQuiet_step (fun K hK => ?_)
              go_simp
              refine hK _ ?_; clear hK K)
            with_reducible refine wpQuiet_nil ?_
            intro _ hw'
            obtain ⟨⟨dq, osq⟩, hw''⟩ := hw'
            subst hw''
            have hbl := (below_regrown wr dq osq)
            clear p0q p1'
            generalize Sort.grow (redrawn wr dq) osq = w3 at *
            have HBB := Lib.hid (HB.out.trans (hbl.mono HB.out.size))
            clear hbl HB
            go_wp2_with fail
            go_roundw
            case rel => exact ⟨j + 1, by omega, by go_num, by rw [HT.out], HBB.out⟩
            case measure => simp [intOf]; omega
          rw [HGY.out] at hy1
          subst hx1
          subst hy1
          have ha0 : (0 : Int) ≤ (a : Int) := Int.natCast_nonneg _
          have hd0 : (0 : Int) ≤ (d : Int) := Int.natCast_nonneg _
          have ham : (a : Int) < (m : Int) := by omega
          have hdm : (d : Int) < (m : Int) := by omega
          have HIS := Lib.hid (swB_is (D := (pst zs ps)) HGX.out HGY.out)
          have HSY := Lib.hid (fun h => sw_yes (D := (pst zs ps)) (xs := xs) (i := k) (j := j) (s := swT (pst zs ps) xs k) h)
          have HSN := Lib.hid (fun h => sw_no (D := (pst zs ps)) (xs := xs) (i := k) (j := j) (s := swT (pst zs ps) xs k) h)
          have CT := Lib.hid (fun (W : World) (hb : Below w.heap.size w W) => show ∃ b o, A = some ⟨b, o, none⟩ ∧ W.cell? ⟨b, o + k * 6, none⟩ = some (.int .i64 (fld 6 zs k 0)) ∧ W.cell? ⟨b, o + k * 6 + 1, none⟩ = some (.int .i64 (fld 6 zs k 1)) ∧ W.cell? ⟨b, o + k * 6 + 2, none⟩ = some (.int .i64 (fld 6 zs k 2)) ∧ W.cell? ⟨b, o + k * 6 + 3, none⟩ = some (.int .i64 (fld 6 zs k 3)) ∧ W.cell? ⟨b, o + k * 6 + 4, none⟩ = some (.int .i64 (fld 6 zs k 4)) ∧ W.cell? ⟨b, o + k * 6 + 5, none⟩ = some (.int .i64 (fld 6 zs k 5)) ∧ W.cell? ⟨b, o + j * 6, none⟩ = some (.int .i64 (fld 6 zs j 0)) ∧ W.cell? ⟨b, o + j * 6 + 1, none⟩ = some (.int .i64 (fld 6 zs j 1)) ∧ W.cell? ⟨b, o + j * 6 + 2, none⟩ = some (.int .i64 (fld 6 zs j 2)) ∧ W.cell? ⟨b, o + j * 6 + 3, none⟩ = some (.int .i64 (fld 6 zs j 3)) ∧ W.cell? ⟨b, o + j * 6 + 4, none⟩ = some (.int .i64 (fld 6 zs j 4)) ∧ W.cell? ⟨b, o + j * 6 + 5, none⟩ = some (.int .i64 (fld 6 zs j 5)) from by
            obtain ⟨b1, o1, hA6, -, a0, a1, a2, a3, a4, a5⟩ := cellsE (HR1.out.next hb) hlt
            obtain ⟨b1', o1', hA7, -, e0', e1', e2', e3', e4', e5'⟩ := cellsE (HR1.out.next hb) hjlt
            obtain ⟨rfl, rfl⟩ : b1 = b1' ∧ o1 = o1' := by rw [hA6] at hA7; injection hA7 with e; injection e with e1 e2; exact ⟨e1, e2⟩
            exact ⟨b1, o1, hA6, a0, a1, a2, a3, a4, a5, e0', e1', e2', e3', e4', e5'⟩)
          have CP := Lib.hid (fun (W : World) (hb : Below w.heap.size w W) => show ∃ b o, C = some ⟨b, o, none⟩ ∧ W.cell? ⟨b, o + a * 2, none⟩ = some (.int .i64 (fld 2 ps a 0)) ∧ W.cell? ⟨b, o + a * 2 + 1, none⟩ = some (.int .i64 (fld 2 ps a 1)) ∧ W.cell? ⟨b, o + d * 2, none⟩ = some (.int .i64 (fld 2 ps d 0)) ∧ W.cell? ⟨b, o + d * 2 + 1, none⟩ = some (.int .i64 (fld 2 ps d 1)) from by
            obtain ⟨b2, o2, hA8, -, q0, q1⟩ := asgs.cells2 (HR2.out.next hb) ha5
            obtain ⟨b2', o2', hA9, -, r0, r1⟩ := asgs.cells2 (HR2.out.next hb) hd5
            obtain ⟨rfl, rfl⟩ : b2 = b2' ∧ o2 = o2' := by rw [hA8] at hA9; injection hA9 with e; injection e with e1 e2; exact ⟨e1, e2⟩
            exact ⟨b2, o2, hA8, q0, q1, r0, r1⟩)
          have D1 := Lib.hid (fun w d0 os => Calls.regrown_of (show Calls Tryz.prog 69 #[.agg #[.int .i64 (fld 6 zs k 0), .int .i64 (fld 6 zs k 1), .int .i64 (fld 6 zs k 2), .int .i64 (fld 6 zs k 3), .int .i64 (fld 6 zs k 4), .int .i64 (fld 6 zs k 5)], .agg #[.int .i64 (fld 2 ps a 0), .int .i64 (fld 2 ps a 1)]] (Sort.grow (redrawn w d0) os) (fun e w' => e = .returned (.int .i64 (pst zs ps k a)) ∧ Below (Sort.grow (redrawn w d0) os).heap.size (Sort.grow (redrawn w d0) os) w') from asgs.distance15 (fld 6 zs k 0) (fld 6 zs k 1) (fld 6 zs k 2) (fld 6 zs k 3) (fld 6 zs k 4) (fld 6 zs k 5) (fld 2 ps a 0) (fld 2 ps a 1) (HPT.out k hlt) (HPP.out a ha5) (Sort.grow (redrawn w d0) os)))
          have bD1 := asgs.ds_in (HPT.out k hlt) (HPP.out a ha5)
          rw [asgs.ds_pst] at bD1
          have D2 := Lib.hid (fun w d0 os => Calls.regrown_of (show Calls Tryz.prog 69 #[.agg #[.int .i64 (fld 6 zs j 0), .int .i64 (fld 6 zs j 1), .int .i64 (fld 6 zs j 2), .int .i64 (fld 6 zs j 3), .int .i64 (fld 6 zs j 4), .int .i64 (fld 6 zs j 5)], .agg #[.int .i64 (fld 2 ps d 0), .int .i64 (fld 2 ps d 1)]] (Sort.grow (redrawn w d0) os) (fun e w' => e = .returned (.int .i64 (pst zs ps j d)) ∧ Below (Sort.grow (redrawn w d0) os).heap.size (Sort.grow (redrawn w d0) os) w') from asgs.distance15 (fld 6 zs j 0) (fld 6 zs j 1) (fld 6 zs j 2) (fld 6 zs j 3) (fld 6 zs j 4) (fld 6 zs j 5) (fld 2 ps d 0) (fld 2 ps d 1) (HPT.out j hjlt) (HPP.out d hd5) (Sort.grow (redrawn w d0) os)))
          have bD2 := asgs.ds_in (HPT.out j hjlt) (HPP.out d hd5)
          rw [asgs.ds_pst] at bD2
          have D3 := Lib.hid (fun w d0 os => Calls.regrown_of (show Calls Tryz.prog 69 #[.agg #[.int .i64 (fld 6 zs k 0), .int .i64 (fld 6 zs k 1), .int .i64 (fld 6 zs k 2), .int .i64 (fld 6 zs k 3), .int .i64 (fld 6 zs k 4), .int .i64 (fld 6 zs k 5)], .agg #[.int .i64 (fld 2 ps d 0), .int .i64 (fld 2 ps d 1)]] (Sort.grow (redrawn w d0) os) (fun e w' => e = .returned (.int .i64 (pst zs ps k d)) ∧ Below (Sort.grow (redrawn w d0) os).heap.size (Sort.grow (redrawn w d0) os) w') from asgs.distance15 (fld 6 zs k 0) (fld 6 zs k 1) (fld 6 zs k 2) (fld 6 zs k 3) (fld 6 zs k 4) (fld 6 zs k 5) (fld 2 ps d 0) (fld 2 ps d 1) (HPT.out k hlt) (HPP.out d hd5) (Sort.grow (redrawn w d0) os)))
          have bD3 := asgs.ds_in (HPT.out k hlt) (HPP.out d hd5)
          rw [asgs.ds_pst] at bD3
          have D4 := Lib.hid (fun w d0 os => Calls.regrown_of (show Calls Tryz.prog 69 #[.agg #[.int .i64 (fld 6 zs j 0), .int .i64 (fld 6 zs j 1), .int .i64 (fld 6 zs j 2), .int .i64 (fld 6 zs j 3), .int .i64 (fld 6 zs j 4), .int .i64 (fld 6 zs j 5)], .agg #[.int .i64 (fld 2 ps a 0), .int .i64 (fld 2 ps a 1)]] (Sort.grow (redrawn w d0) os) (fun e w' => e = .returned (.int .i64 (pst zs ps j a)) ∧ Below (Sort.grow (redrawn w d0) os).heap.size (Sort.grow (redrawn w d0) os) w') from asgs.distance15 (fld 6 zs j 0) (fld 6 zs j 1) (fld 6 zs j 2) (fld 6 zs j 3) (fld 6 zs j 4) (fld 6 zs j 5) (fld 2 ps a 0) (fld 2 ps a 1) (HPT.out j hjlt) (HPP.out a ha5) (Sort.grow (redrawn w d0) os)))
          have bD4 := asgs.ds_in (HPT.out j hjlt) (HPP.out a ha5)
          rw [asgs.ds_pst] at bD4
          generalize swI (pst zs ps) xs k (swT (pst zs ps) xs k) j = sn at *
          generalize fld 6 zs k 0 = u0 at *
          generalize fld 6 zs k 1 = u1 at *
          generalize fld 6 zs k 2 = u2 at *
          generalize fld 6 zs k 3 = u3 at *
          generalize fld 6 zs k 4 = u4 at *
          generalize fld 6 zs k 5 = u5 at *
          generalize fld 6 zs j 0 = t0 at *
          generalize fld 6 zs j 1 = t1 at *
          generalize fld 6 zs j 2 = t2 at *
          generalize fld 6 zs j 3 = t3 at *
          generalize fld 6 zs j 4 = t4 at *
          generalize fld 6 zs j 5 = t5 at *
          generalize fld 2 ps a 0 = v0 at *
          generalize fld 2 ps a 1 = v1 at *
          generalize fld 2 ps d 0 = r0 at *
          generalize fld 2 ps d 1 = r1 at *
          generalize pst zs ps k a = f1 at *
          generalize pst zs ps j d = f2 at *
          generalize pst zs ps k d = f3 at *
          generalize pst zs ps j a = f4 at *
          have g1 : decide ((a : Int) < 0) = false := decide_eq_false (by omega)
          have g1' : ¬ (a : Int) < 0 := by omega
          have g2 : decide ((d : Int) < 0) = false := decide_eq_false (by omega)
          have g2' : ¬ (d : Int) < 0 := by omega
          have e9 : IntKind.i64.wrap ((sn : Int) + 1) = (sn : Int) + 1 := IntWalk.i64_in _ (by omega)
          have e7 : IntKind.i64.wrap (f1 + f2) = f1 + f2 := IntWalk.i64_in _ (by omega)
          have e8 : IntKind.i64.wrap (f3 + f4) = f3 + f4 := IntWalk.i64_in _ (by omega)
          clear HGX HGY HOX HOY
          go_wp2_with fail
          have p0'' := fun d0 os => cell_regrown p0' d0 os
          have p1' := fun d0 os => cell_regrown p1 d0 os
          clear p0' p1
          refine wp_region_quiet_below (by kernel_rfl) (by kernel_rfl) ?_
          repeat (
            with_reducible refine wpQuiet_step (fun K hK => ?_)
            go_simp
            refine hK _ ?_; clear hK K)
          with_reducible refine wpQuiet_nil ?_
          intro _ hw'
          obtain ⟨⟨dq, osq⟩, hw''⟩ := hw'
          subst hw''
          have hbl := (below_regrown wr dq osq)
          clear p0'' p1'
          generalize Sort.grow (redrawn wr dq) osq = w3 at *
          have HBB := Lib.hid (HB.out.trans (hbl.mono HB.out.size))
          clear hbl HB
          obtain ⟨b1, o1, rfl, a0, a1, a2, a3, a4, a5, e0', e1', e2', e3', e4', e5'⟩ := CT.out w3 HBB.out
          obtain ⟨b2, o2, rfl, q0, q1, r0, r1⟩ := CP.out w3 HBB.out
          go_wp2_with fail
          have a0' := fun d0 os => cell_regrown a0 d0 os
          have a1' := fun d0 os => cell_regrown a1 d0 os
          have a2' := fun d0 os => cell_regrown a2 d0 os
          have a3' := fun d0 os => cell_regrown a3 d0 os
          have a4' := fun d0 os => cell_regrown a4 d0 os
          have a5' := fun d0 os => cell_regrown a5 d0 os
          have e0'' := fun d0 os => cell_regrown e0' d0 os
          have e1'' := fun d0 os => cell_regrown e1' d0 os
          have e2'' := fun d0 os => cell_regrown e2' d0 os
          have e3'' := fun d0 os => cell_regrown e3' d0 os
          have e4'' := fun d0 os => cell_regrown e4' d0 os
          have e5'' := fun d0 os => cell_regrown e5' d0 os
          have q0' := fun d0 os => cell_regrown q0 d0 os
          have q1' := fun d0 os => cell_regrown q1 d0 os
          have r0' := fun d0 os => cell_regrown r0 d0 os
          have r1' := fun d0 os => cell_regrown r1 d0 os
          clear a0 a1 a2 a3 a4 a5 e0' e1' e2' e3' e4' e5' q0 q1 r0 r1
          refine wp_region_quiet_below (by kernel_rfl) (by kernel_rfl) ?_
          repeat (
            with_reducible refine wpQuiet_step (fun K hK => ?_)
            go_simp
            first
              | (refine hK _ ?_; clear hK K)
              | (apply Exists.intro
                 refine ⟨fun _ => ?_, hK _ ?_⟩
                 (first
                   | (go_at_call 69; with_reducible exact D1.out _ _ _)
                   | (go_at_call 69; with_reducible exact D2.out _ _ _))
                 clear hK K))
          with_reducible refine wpQuiet_nil ?_
          intro _ hw'
          obtain ⟨⟨dq, osq⟩, hw''⟩ := hw'
          subst hw''
          have hbl := (below_regrown w3 dq osq)
          clear a0' a1' a2' a3' a4' a5' e0'' e1'' e2'' e3'' e4'' e5'' q0' q1' r0' r1'
          generalize Sort.grow (redrawn w3 dq) osq = w4 at *
          have HBC := Lib.hid (HBB.out.trans (hbl.mono HBB.out.size))
          clear hbl HBB
          obtain ⟨b1', o1', hA6, a0, a1, a2, a3, a4, a5, e0', e1', e2', e3', e4', e5'⟩ := CT.out w4 HBC.out
          obtain ⟨rfl, rfl⟩ : b1 = b1' ∧ o1 = o1' := by injection hA6 with e; injection e with e1 e2; exact ⟨e1, e2⟩
          obtain ⟨b2', o2', hA7, q0, q1, r0, r1⟩ := CP.out w4 HBC.out
          obtain ⟨rfl, rfl⟩ : b2 = b2' ∧ o2 = o2' := by injection hA7 with e; injection e with e1 e2; exact ⟨e1, e2⟩
          clear hA6 hA7 CT CP D1 D2
          go_wp2_with fail
          have a0' := fun d0 os => cell_regrown a0 d0 os
          have a1' := fun d0 os => cell_regrown a1 d0 os
          have a2' := fun d0 os => cell_regrown a2 d0 os
          have a3' := fun d0 os => cell_regrown a3 d0 os
          have a4' := fun d0 os => cell_regrown a4 d0 os
          have a5' := fun d0 os => cell_regrown a5 d0 os
          have e0'' := fun d0 os => cell_regrown e0' d0 os
          have e1'' := fun d0 os => cell_regrown e1' d0 os
          have e2'' := fun d0 os => cell_regrown e2' d0 os
          have e3'' := fun d0 os => cell_regrown e3' d0 os
          have e4'' := fun d0 os => cell_regrown e4' d0 os
          have e5'' := fun d0 os => cell_regrown e5' d0 os
          have q0' := fun d0 os => cell_regrown q0 d0 os
          have q1' := fun d0 os => cell_regrown q1 d0 os
          have r0' := fun d0 os => cell_regrown r0 d0 os
          have r1' := fun d0 os => cell_regrown r1 d0 os
          clear a0 a1 a2 a3 a4 a5 e0' e1' e2' e3' e4' e5' q0 q1 r0 r1
          refine wp_region_quiet_below (by kernel_rfl) (by kernel_rfl) ?_
          repeat (
            with_reducible refine wpQuiet_step (fun K hK => ?_)
            go_simp
            first
              | (refine hK _ ?_; clear hK K)
              | (apply Exists.intro
                 refine ⟨fun _ => ?_, hK _ ?_⟩
                 (first
                   | (go_at_call 69; with_reducible exact D3.out _ _ _)
                   | (go_at_call 69; with_reducible exact D4.out _ _ _))
                 clear hK K))
          with_reducible refine wpQuiet_nil ?_
          intro _ hw'
          obtain ⟨⟨dq, osq⟩, hw''⟩ := hw'
          subst hw''
          have hbl := (below_regrown w4 dq osq)
          clear a0' a1' a2' a3' a4' a5' e0'' e1'' e2'' e3'' e4'' e5'' q0' q1' r0' r1'
          generalize Sort.grow (redrawn w4 dq) osq = w5 at *
          have HBD := Lib.hid (HBC.out.trans (hbl.mono HBC.out.size))
          clear hbl HBC D3 D4
          by_cases hsb : f3 + f4 < f1 + f2
          · have HT := Lib.hid (HSY.out (by rw [HIS.out]; exact decide_eq_true hsb))
            have g9 : decide (f3 + f4 < f1 + f2) = true := decide_eq_true hsb
            clear HSN HSY HIS
            go_wp2_with fail
            go_roundw
            case rel => exact ⟨j + 1, by omega, by go_num, by rw [HT.out]; go_num, HBD.out⟩
            case measure => simp [intOf]; omega
          · have HT := Lib.hid (HSN.out (by rw [HIS.out]; exact decide_eq_false hsb))
            have g9 : decide (f3 + f4 < f1 + f2) = false := decide_eq_false hsb
            clear HSN HSY HIS
            go_wp2_with fail
            go_roundw
            case rel => exact ⟨j + 1, by omega, by go_num, by rw [HT.out], HBD.out⟩
            case measure => simp [intOf]; omega
        · obtain rfl : j = k := by omega
          have HT := Lib.hid HSZ.out
          clear hb
          go_wp2_with fail
          go_roundw
          case rel => exact ⟨j + 1, by omega, by go_num, by rw [HT.out], HB.out⟩
          case measure => simp [intOf]; omega
    · obtain rfl : k = e0 := by omega
      go_wp2_with fail
      go_ret2
      exact ⟨by rw [HV.out]; rfl, HBk.out⟩

end Go.Proofs.YtfigjfckelichaaGreatDoor.asgw

/- impl's PlotDistance, AssignmentCost. -/
namespace Go.Proofs.YtfigjfckelichaaGreatDoor.asgd
open Go.RowKit Go.Proofs.YtfigjfckelichaaGreatDoor.ints Go.Proofs.YtfigjfckelichaaGreatDoor.lst Go.Proofs.YtfigjfckelichaaGreatDoor.in_ Go.Proofs.YtfigjfckelichaaGreatDoor.ats Go.Proofs.YtfigjfckelichaaGreatDoor.pos Go.Proofs.YtfigjfckelichaaGreatDoor.trk Go.Proofs.YtfigjfckelichaaGreatDoor.trkm Go.Proofs.YtfigjfckelichaaGreatDoor.trke Go.Proofs.YtfigjfckelichaaGreatDoor.intc Go.Proofs.YtfigjfckelichaaGreatDoor.asg Go.Proofs.YtfigjfckelichaaGreatDoor.rws

set_option maxRecDepth 100000 in
set_option maxHeartbeats 4000000 in
theorem plotDistance (i s x y h l u v : Int) (w : World) :
    Calls Tryz.prog 28 #[.agg #[.int .i64 i, .int .i64 s, .int .i64 x, .int .i64 y, .int .i64 h, .int .i64 l], .agg #[.int .i64 u, .int .i64 v]] w fun e w' => e = .returned (.tuple #[.int .i64 (pdV i s x y h l u v), .bool (pdB i s x y h l u v)]) ∧ Below w.heap.size w w' := by
  have S0 := Lib.hid ((newS 25 #[.int .i64 i, .int .i64 s, .int .i64 x, .int .i64 y, .int .i64 h, .int .i64 l] w).alloc (.cells #[.int .i64 u, .int .i64 v] 35))
  have S1 := Lib.hid ((newS 25 #[.int .i64 i, .int .i64 s, .int .i64 x, .int .i64 y, .int .i64 h, .int .i64 l] w).next 35 #[.int .i64 u, .int .i64 v])
  rw [World.size_alloc] at S1
  have H1 := Lib.hid (fun W => trkv.isValidTrack i s x y h l W)
  have H2 := Lib.hid (fun W => posj.isValidPlace u v W)
  cases hp : tkB i s x y h l
  · have HV := Lib.hid (pd_no (i := i) (s := s) (x := x) (y := y) (h := h) (l := l) (u := u) (v := v) (by rw [hp]; rfl))
    rw [hp] at H1
    clear hp
    go_enter Tryz.func28, Tryz.ntmps28
    go_wp2_with fail
    generalize (w.alloc (.cells #[.int .i64 i, .int .i64 s, .int .i64 x, .int .i64 y, .int .i64 h, .int .i64 l] 25)).alloc (.cells #[.int .i64 u, .int .i64 v] 35) = W0 at *
    refine (H1.out W0).mono ?_
    rintro e W1 ⟨rfl, hb⟩
    have B1 := Lib.hid (S0.out.1.trans (hb.mono S0.out.1.size))
    clear hb
    go_wp2_with fail
    go_ret2
    exact ⟨by rw [HV.out.1, HV.out.2]; rfl, B1.out⟩
  rw [hp] at H1
  cases hq : pB u v
  · have HV := Lib.hid (pd_no (i := i) (s := s) (x := x) (y := y) (h := h) (l := l) (u := u) (v := v) (by rw [hp, hq]; rfl))
    rw [hq] at H2
    clear hp hq
    go_enter Tryz.func28, Tryz.ntmps28
    go_wp2_with fail
    generalize (w.alloc (.cells #[.int .i64 i, .int .i64 s, .int .i64 x, .int .i64 y, .int .i64 h, .int .i64 l] 25)).alloc (.cells #[.int .i64 u, .int .i64 v] 35) = W0 at *
    refine (H1.out W0).mono ?_
    rintro e W1 ⟨rfl, hb⟩
    have B1 := Lib.hid (S0.out.1.trans (hb.mono S0.out.1.size))
    have p0 : W1.cell? ⟨w.heap.size + 1, 0, none⟩ = some (.int .i64 u) := (S1.out.old hb).cell 0
    have p1 : W1.cell? ⟨w.heap.size + 1, 1, none⟩ = some (.int .i64 v) := (S1.out.old hb).cell 1
    have HB1 := Lib.hid hb
    clear hb
    go_wp2_with fail
    refine (H2.out W1).mono ?_
    rintro e W2 ⟨rfl, hb2⟩
    have HB2 := Lib.hid (HB1.out.trans (hb2.mono HB1.out.size))
    have B2 := Lib.hid (S0.out.1.trans (HB2.out.mono S0.out.1.size))
    clear p0 p1 hb2
    go_wp2_with fail
    go_ret2
    exact ⟨by rw [HV.out.1, HV.out.2]; rfl, B2.out⟩
  rw [hq] at H2
  have HV := Lib.hid (pd_yes hp hq)
  have H3 := Lib.hid (fun W => show Calls Tryz.prog 71 #[.agg #[.int .i64 i, .int .i64 s, .int .i64 x, .int .i64 y, .int .i64 h, .int .i64 l], .agg #[.int .i64 u, .int .i64 v]] W (fun e w' => e = .returned (.int .i64 (dst x y u v)) ∧ Below W.heap.size W w') from asga.trackDistance i s x y h l u v (tkB_yes hp).2.1 hq W)
  clear hp hq
  go_enter Tryz.func28, Tryz.ntmps28
  go_wp2_with fail
  generalize (w.alloc (.cells #[.int .i64 i, .int .i64 s, .int .i64 x, .int .i64 y, .int .i64 h, .int .i64 l] 25)).alloc (.cells #[.int .i64 u, .int .i64 v] 35) = W0 at *
  refine (H1.out W0).mono ?_
  rintro e W1 ⟨rfl, hb⟩
  have B1 := Lib.hid (S0.out.1.trans (hb.mono S0.out.1.size))
  have p0 : W1.cell? ⟨w.heap.size + 1, 0, none⟩ = some (.int .i64 u) := (S1.out.old hb).cell 0
  have p1 : W1.cell? ⟨w.heap.size + 1, 1, none⟩ = some (.int .i64 v) := (S1.out.old hb).cell 1
  have HB1 := Lib.hid hb
  clear hb
  go_wp2_with fail
  refine (H2.out W1).mono ?_
  rintro e W2 ⟨rfl, hb2⟩
  have HB2 := Lib.hid (HB1.out.trans (hb2.mono HB1.out.size))
  have B2 := Lib.hid (S0.out.1.trans (HB2.out.mono S0.out.1.size))
  clear p0 p1 hb2
  have t0 : W2.cell? ⟨w.heap.size, 0, none⟩ = some (.int .i64 i) := (S0.out.old HB2.out).cell 0
  have t1 : W2.cell? ⟨w.heap.size, 1, none⟩ = some (.int .i64 s) := (S0.out.old HB2.out).cell 1
  have t2 : W2.cell? ⟨w.heap.size, 2, none⟩ = some (.int .i64 x) := (S0.out.old HB2.out).cell 2
  have t3 : W2.cell? ⟨w.heap.size, 3, none⟩ = some (.int .i64 y) := (S0.out.old HB2.out).cell 3
  have t4 : W2.cell? ⟨w.heap.size, 4, none⟩ = some (.int .i64 h) := (S0.out.old HB2.out).cell 4
  have t5 : W2.cell? ⟨w.heap.size, 5, none⟩ = some (.int .i64 l) := (S0.out.old HB2.out).cell 5
  have p0 : W2.cell? ⟨w.heap.size + 1, 0, none⟩ = some (.int .i64 u) := (S1.out.old HB2.out).cell 0
  have p1 : W2.cell? ⟨w.heap.size + 1, 1, none⟩ = some (.int .i64 v) := (S1.out.old HB2.out).cell 1
  go_wp2_with fail
  refine (H3.out W2).mono ?_
  rintro e W3 ⟨rfl, hb3⟩
  have B3 := Lib.hid (B2.out.trans (hb3.mono B2.out.size))
  clear t0 t1 t2 t3 t4 t5 p0 p1 hb3
  go_wp2_with fail
  go_ret2
  exact ⟨by rw [HV.out.1, HV.out.2]; rfl, B3.out⟩

end Go.Proofs.YtfigjfckelichaaGreatDoor.asgd

/- The laws' vTracks: two lists of tracks that read alike. -/
namespace Go.Proofs.YtfigjfckelichaaGreatDoor.vtrk
open Go.RowKit Go.Proofs.YtfigjfckelichaaGreatDoor.ats Go.Proofs.YtfigjfckelichaaGreatDoor.ints Go.Proofs.YtfigjfckelichaaGreatDoor.lst Go.Proofs.YtfigjfckelichaaGreatDoor.trke

theorem int_ne_self (x : Int) : (x != x) = false := by simp
set_option maxHeartbeats 1000000 in
theorem vTracks (zs : List Int) (A C : Option Addr) (n c d : Nat) (w : World) (hn : n ≤ 1048577) (h1 : RdZ 6 w w.heap.size A n zs) (h2 : RdZ 6 w w.heap.size C n zs) :
    Calls Tryz.prog 15 #[.slice A n c, .slice C n d] w fun e w' => e = .returned (.bool true) ∧ ∃ j, w' = w.drewN j := by
  have hnn := int_ne_self (n : Int)
  go_enter Tryz.func15, Tryz.ntmps15
  go_wp2
  go_loopw [5] (fun i wr => ∃ k j : Nat, k ≤ n ∧ i = .int .i64 k ∧ wr = w.drewN j) (fun i _ => n - (intOf i).toNat)
  case atStart => exact ⟨0, 0, Nat.zero_le _, rfl, rfl⟩
  case round =>
    obtain ⟨k, j, hk, rfl, rfl⟩ := hrel
    by_cases hlt : k < n
    · obtain ⟨b1, o1, rfl, l1, p0, p1, p2, p3, p4, p5⟩ := cellsE h1 hlt
      obtain ⟨b2, o2, rfl, l2, r0, r1, r2, r3, r4, r5⟩ := cellsE h2 hlt
      have hlt2 : (k : Int) < (n : Int) := by omega
      clear h1 h2
      generalize fld 6 zs k 0 = x0 at *
      have hs0 := int_ne_self x0
      have ht0 : (x0 == x0) = true := by simp
      generalize fld 6 zs k 1 = x1 at *
      have hs1 := int_ne_self x1
      have ht1 : (x1 == x1) = true := by simp
      generalize fld 6 zs k 2 = x2 at *
      have hs2 := int_ne_self x2
      have ht2 : (x2 == x2) = true := by simp
      generalize fld 6 zs k 3 = x3 at *
      have hs3 := int_ne_self x3
      have ht3 : (x3 == x3) = true := by simp
      generalize fld 6 zs k 4 = x4 at *
      have hs4 := int_ne_self x4
      have ht4 : (x4 == x4) = true := by simp
      generalize fld 6 zs k 5 = x5 at *
      have hs5 := int_ne_self x5
      have ht5 : (x5 == x5) = true := by simp
      go_wp2_with fail
      go_quiet (fail)
      go_wp2
      go_roundw
      case rel => exact ⟨k + 1, _, by omega, by go_num, by first | rfl | rw [World.drewN_drewN]⟩
      case measure => simp [intOf]; omega
    · clear h1 h2
      go_wp2
      go_ret
      exact ⟨rfl, j, rfl⟩
end Go.Proofs.YtfigjfckelichaaGreatDoor.vtrk

namespace Go.Proofs.YtfigjfckelichaaGreatDoor.fnUpdates
open Go.ChangeShapes Go.WideShapes Go.ChangeAt Go.RowKit
open Go.ChangeMaps (open_string shut_string)
open Go.Proofs.YtfigjfckelichaaGreatDoor.code_ Go.Proofs.YtfigjfckelichaaGreatDoor.cur Go.Proofs.YtfigjfckelichaaGreatDoor.ats Go.Proofs.YtfigjfckelichaaGreatDoor.lst Go.Proofs.YtfigjfckelichaaGreatDoor.ints Go.Proofs.YtfigjfckelichaaGreatDoor.trk Go.Proofs.YtfigjfckelichaaGreatDoor.trkm Go.Proofs.YtfigjfckelichaaGreatDoor.asg Go.Proofs.YtfigjfckelichaaGreatDoor.asgb Go.Proofs.YtfigjfckelichaaGreatDoor.asgk Go.Proofs.YtfigjfckelichaaGreatDoor.asgt Go.Proofs.YtfigjfckelichaaGreatDoor.drawt14 Go.Proofs.YtfigjfckelichaaGreatDoor.drawu14
set_option linter.unusedVariables false

theorem bool_ne_self (b : Bool) : (b != b) = false := by simp
theorem int_ne_self (b : Int) : (b != b) = false := by simp
theorem bool_eq_self (b : Bool) : (b == b) = true := by simp
theorem int_eq_self (b : Int) : (b == b) = true := by simp
theorem own_cap {w : World} {B e s n : Nat} {v : Value} {xs : List Value} (h : w.ownsRow B e s v n xs) : ∃ A c, v = .slice A n c ∧ n ≤ c := by
  rcases h.2 with ⟨rfl, h0⟩ | ⟨g, cap, cur, rfl, _, _, hle, _⟩
  · exact ⟨_, _, by rw [h0], by omega⟩
  · exact ⟨_, _, rfl, hle⟩
theorem own_len1 {w : World} {B e n : Nat} {v : Value} {xs : List Int} (h : w.ownsRow B e 1 v n (cellsI xs)) : xs.length = n := by have := h.1; unfold cellsI at this; simpa using this
theorem up_known {zs ps : List Int} {n m : Nat} {g : Int} (h : upB zs n ps m g = true) : akB zs n ps m g = true := by
  unfold upB at h
  rw [Bool.and_eq_true] at h
  exact h.1
theorem be_pair {zs ps : List Int} {n m i : Nat} {g : Int} (h : akB zs n ps m g = true) (hi : i < n) : (beV zs n ps m g).getD i 0 = -1 ∨ ∃ b : Nat, b < m ∧ (beV zs n ps m g).getD i 0 = (b : Int) := by
  rcases pairOk_yes (prB_at (agB_yes (be_asg h).1).2.2 hi) with h1 | ⟨k, h1, h2, -, -⟩
  · exact .inl h1
  · exact .inr ⟨k, h1, h2⟩
theorem at_s {s : Nat} {w : World} {B n k : Nat} {b o : Nat} {zs : List Int} (h : RdZ s w B (some ⟨b, o, none⟩) n zs) (hk : k < n) (j : Nat) (hj : j < s) : w.cell? ⟨b, o + (k * s + j), none⟩ = some (.int .i64 (fld s zs k j)) := by
  obtain ⟨b', o', e, -, hc⟩ := h.at_ hk
  injection e with e
  injection e with e1 e2
  subst e1
  subst e2
  exact hc j hj
theorem some_z {s : Nat} {w : World} {B n : Nat} {A : Option Addr} {zs : List Int} (h : RdZ s w B A n zs) (hn : 0 < n) : ∃ b o, A = some ⟨b, o, none⟩ := by
  obtain ⟨b, o, e, -⟩ := h.2 hn
  exact ⟨b, o, e⟩

set_option maxRecDepth 100000 in
set_option maxHeartbeats 16000000 in
theorem walk (A : Option Addr) (n c : Nat) (z : List Int) (w : World) (w0 : IsRow .u8 w A n c z) (hlx : erl.LX w) :
    Calls Tryz.prog 4 #[.slice A n c] w fun e w' => e = .returned (.bool true) ∧ Below w.heap.size w w' := by
  obtain ⟨hby, hnc, -⟩ := bytes_of w0
  clear w0
  have HX := Lib.hid hlx
  clear hlx
  have hv := Lib.hid (fun w => vBig A n c w)
  by_cases hbig : (65536 : Int) < (n : Int)
  · clear hby
    go_enter Tryz.func4, Tryz.ntmps4
    go_wp2_with fail
    refine (hv.out _).mono ?_
    rintro e w1 ⟨rfl, rfl⟩
    go_wp2_with fail
    go_ret
    exact ⟨rfl, Below.refl _ _⟩
  have hd : decide ((65536 : Int) < (n : Int)) = false := by simpa using hbig
  have hn : n ≤ 65536 := by omega
  have H := Lib.hid hby
  clear hby hbig hnc
  go_enter Tryz.func4, Tryz.ntmps4
  go_wp2_with fail
  refine (hv.out _).mono ?_
  rintro e wx ⟨rfl, rfl⟩
  clear hd hv
  have HB0 := Lib.hid (Below.refl w.heap.size w)
  go_wp2_with fail
  refine (drawx14.updateTracks A n c w hn (Bytes_below H.out HB0.out)).mono ?_
  rintro e V1 ⟨v1, k1, zs, u1, m1, ps, g1, rfl, ho1, hk1, ho2, hm1, h2⟩
  obtain ⟨A1, c1, rfl, hc1⟩ := own_cap ho1
  obtain ⟨A2, c2, rfl, hc2⟩ := own_cap ho2
  have HB3 := Lib.hid (HB0.out.trans (h2.mono HB0.out.size))
  clear HB0
  clear h2
  have RX4 := Lib.hid (RdZ.of_own ho1 (own_len6 ho1))
  have RX5 := Lib.hid (RdZ.of_own ho2 (own_len2 ho2))
  clear ho1 ho2
  have CI := Lib.hid (fun W h1 h2 (hx : erl.LX W) => asgm.updateTracks zs ps g1 A1 A2 k1 c1 m1 c2 W (by omega) (by omega) h1 h2 hx.1 hx.2)
  have CS := Lib.hid (fun W h1 h2 => asgn.updateTracks zs ps g1 A1 A2 k1 c1 m1 c2 W (by omega) (by omega) h1 h2)
  have CB := Lib.hid (fun W h1 h2 => asgi.bestAssignment zs ps g1 A1 A2 k1 c1 m1 c2 W (by omega) (by omega) h1 h2)
  have F1 := Lib.hid (fun (h : upB zs k1 ps m1 g1 = true) => And.intro (up_valid h) (up_known h))
  have F2 := Lib.hid (fun (h : upB zs k1 ps m1 g1 = true) (i b q : Nat) hi hb hq he => up_hit (i := i) (b := b) (q := q) h hi hb hq he)
  have F3 := Lib.hid (fun (h : akB zs k1 ps m1 g1 = true) => beV_length h)
  have F4 := Lib.hid (fun (h : akB zs k1 ps m1 g1 = true) (i : Nat) hi => be_pair (i := i) h hi)
  have hN1 := upN_le zs k1 ps m1 g1
  generalize upL zs k1 ps m1 g1 = L1 at *
  generalize upN zs k1 ps m1 g1 = N1 at *
  generalize upB zs k1 ps m1 g1 = O1 at *
  generalize beV zs k1 ps m1 g1 = bl at *
  generalize beC zs k1 ps m1 g1 = bc at *
  generalize akB zs k1 ps m1 g1 = Q1 at *
  have n2 := bool_ne_self O1
  go_wp2_with fail
  refine (CI.out V1 RX4.out RX5.out (erl.lx_on HX.out HB3.out)).mono ?_
  rintro e V6 ⟨vI, rfl, ho8, h7⟩
  obtain ⟨AI, cI, rfl, hcI⟩ := own_cap ho8
  have HB9 := Lib.hid (HB3.out.trans (h7.mono HB3.out.size))
  clear HB3
  have RX10 := Lib.hid (RX4.out.next h7)
  clear RX4
  have RX11 := Lib.hid (RX5.out.next h7)
  clear RX5
  clear h7
  have RX12 := Lib.hid (RdZ.of_own ho8 (own_len6 ho8))
  clear ho8
  go_wp2_with fail
  refine (CS.out V6 RX10.out RX11.out).mono ?_
  rintro e V13 ⟨vS, rfl, ho15, h14⟩
  obtain ⟨AS, cS, rfl, hcS⟩ := own_cap ho15
  have HB16 := Lib.hid (HB9.out.trans (h14.mono HB9.out.size))
  clear HB9
  have RX17 := Lib.hid (RX10.out.next h14)
  clear RX10
  have RX18 := Lib.hid (RX11.out.next h14)
  clear RX11
  have RX19 := Lib.hid (RX12.out.next h14)
  clear RX12
  clear h14
  have RX20 := Lib.hid (RdZ.of_own ho15 (own_len6 ho15))
  clear ho15
  clear CI CS
  go_wp2_with fail
  refine (vtrk.vTracks L1 AI AS N1 cI cS V13 (by omega) RX19.out RX20.out).mono ?_
  rintro e wx ⟨rfl, j21, rfl⟩
  have h22 := aid.below_drewN (Below.refl V13.heap.size V13) j21
  generalize V13.drewN j21 = V23 at *
  have HB24 := Lib.hid (HB16.out.trans (h22.mono HB16.out.size))
  clear HB16
  have RX25 := Lib.hid (RX17.out.next h22)
  clear RX17
  have RX26 := Lib.hid (RX18.out.next h22)
  clear RX18
  have RX27 := Lib.hid (RX19.out.next h22)
  clear RX19
  have RX28 := Lib.hid (RX20.out.next h22)
  clear RX20
  clear h22
  clear RX28
  go_upto_if 60 with fail
  go_cut [10, 11, 12, 13, 14] from 61 to 141 (fun p10 p11 p12 p13 p14 wz => Below V23.heap.size V23 wz)
  case first =>
    cases O1
    · go_wp2_with fail
      go_meet
      exact Below.refl _ _
    · obtain ⟨hv1, hq1⟩ := F1.out (by trivial)
      subst hq1
      have VT := Lib.hid (trkv.isValidTracks L1 AI N1 cI V23 (by omega) RX27.out)
      rw [hv1] at VT
      have hlen := F3.out (by trivial)
      have HLEN := Lib.hid hlen
      have F5 := Lib.hid (F4.out (by trivial))
      have F6 := Lib.hid (F2.out (by trivial))
      have BV := Lib.hid (Below.refl V23.heap.size V23)
      clear hlen F1 F2 F3 F4 hv1
      go_wp2_with fail
      refine VT.out.mono ?_
      rintro e wp ⟨rfl, hp⟩
      have BV := Lib.hid (BV.out.trans (hp.mono BV.out.size))
      clear VT
      have HB29 := Lib.hid (HB24.out.trans (hp.mono HB24.out.size))
      clear HB24
      have RX30 := Lib.hid (RX25.out.next hp)
      clear RX25
      have RX31 := Lib.hid (RX26.out.next hp)
      clear RX26
      have RX32 := Lib.hid (RX27.out.next hp)
      clear RX27
      clear hp
      go_wp2_with fail
      refine (CB.out wp RX30.out RX31.out).mono ?_
      rintro e wb ⟨vB, rfl, hoB, hbB⟩
      obtain ⟨AB, cB, rfl, -⟩ := own_cap hoB
      have BV := Lib.hid (BV.out.trans (hbB.mono BV.out.size))
      clear CB
      have HB33 := Lib.hid (HB29.out.trans (hbB.mono HB29.out.size))
      clear HB29
      have RX34 := Lib.hid (RX30.out.next hbB)
      clear RX30
      have RX35 := Lib.hid (RX31.out.next hbB)
      clear RX31
      have RX36 := Lib.hid (RX32.out.next hbB)
      clear RX32
      clear hbB
      have RB := Lib.hid (intc.rd_of_own hoB (own_len1 hoB))
      clear hoB
      go_wp2_with fail
      go_loopw [13] (fun i wr => ∃ k : Nat, k ≤ k1 ∧ i = .int .i64 k ∧ Below wb.heap.size wb wr) (fun i _ => k1 - (intOf i).toNat)
      case atStart => exact ⟨0, Nat.zero_le _, rfl, Below.refl _ _⟩
      case round =>
        obtain ⟨k, hk, rfl, hb⟩ := hrel
        by_cases hlt : k < k1
        · have hlt2 : (k : Int) < (k1 : Int) := by omega
          have hltb : (k : Int) < (bl.length : Int) := by rw [HLEN.out]; omega
          have HB := Lib.hid hb
          clear hb
          generalize wr = wo at *
          go_wp2_with fail
          go_loopw [14] (fun j wr => ∃ q : Nat, q ≤ N1 ∧ j = .int .i64 q ∧ Below wo.heap.size wo wr) (fun j _ => N1 - (intOf j).toNat)
          case atStart => exact ⟨0, Nat.zero_le _, rfl, Below.refl _ _⟩
          case round =>
            obtain ⟨q, hq, rfl, hb⟩ := hrel
            have HC := Lib.hid hb
            have HBC := Lib.hid (HB.out.trans (hb.mono HB.out.size))
            clear hb
            by_cases hqn : q < N1
            · have hqn2 : (q : Int) < (N1 : Int) := by omega
              have X1 := Lib.hid (RX34.out.next HBC.out)
              have X2 := Lib.hid (RX35.out.next HBC.out)
              have XI := Lib.hid (RX36.out.next HBC.out)
              have XB := Lib.hid (RB.out.next HBC.out)
              obtain ⟨bm, om, hAm⟩ := some_z XI.out (by omega)
              obtain ⟨bz, oz, hAz⟩ := some_z X1.out (by omega)
              subst hAm
              subst hAz
              obtain ⟨bb, ob, x, hAb, -, hbx, b0⟩ := XB.out.at_ (show k < bl.length by rw [HLEN.out]; exact hlt)
              subst hAb
              have hgx : bl.getD k 0 = x := by rw [List.getD_eq_getElem?_getD, hbx]; rfl
              have p0 : wr.cell? ⟨bm, om + q * 6, none⟩ = some (.int .i64 (fld 6 L1 q 0)) := at_s XI.out hqn 0 (by omega)
              have l0 : wr.cell? ⟨bz, oz + k * 6, none⟩ = some (.int .i64 (fld 6 zs k 0)) := at_s X1.out hlt 0 (by omega)
              by_cases he : fld 6 L1 q 0 = fld 6 zs k 0
              · have hp := F5.out k hlt
                rw [hgx] at hp
                rcases hp with hx | ⟨b, hbm, hx⟩
                · rw [he] at p0
                  rw [hx] at b0
                  have n5 := int_ne_self (fld 6 zs k 0)
                  have g5 : (-1 : Int) < 0 := by omega
                  clear hbx hgx hx he
                  generalize fld 6 zs k 0 = d0 at *
                  go_wp2_with fail
                  have p0' := fun d0 os => cell_regrown p0 d0 os
                  have l0' := fun d0 os => cell_regrown l0 d0 os
                  have b0' := fun d0 os => cell_regrown b0 d0 os
                  clear p0 l0 b0
                  refine wp_region_quiet_below (by kernel_rfl) (by kernel_rfl) ?_
                  repeat (
                    with_reducible refine wpQuiet_step (fun K hK => ?_)
                    go_simp
                    refine hK _ ?_; clear hK K)
                  with_reducible refine wpQuiet_nil ?_
                  intro _ hw'
                  obtain ⟨⟨dq, osq⟩, hw''⟩ := hw'
                  subst hw''
                  have hbl := (below_regrown wr dq osq)
                  clear p0' l0' b0'
                  generalize Sort.grow (redrawn wr dq) osq = w5 at *
                  have HD := Lib.hid (HC.out.trans (hbl.mono HC.out.size))
                  clear hbl
                  go_wp2_with fail
                  go_roundw
                  case rel => exact ⟨q + 1, by omega, by go_num, HD.out⟩
                  case measure => simp [intOf]; omega
                · have hh := F6.out k b q hlt (by rw [hgx]; exact hx) hqn he
                  obtain ⟨h2, h3, h5⟩ := hh
                  have hnb : ¬ (b : Int) < 0 := by omega
                  have hbm2 : (b : Int) < (m1 : Int) := by omega
                  obtain ⟨bp, op, hAp⟩ := some_z X2.out (by omega)
                  subst hAp
                  have p2 : wr.cell? ⟨bm, om + q * 6 + 2, none⟩ = some (.int .i64 (fld 6 L1 q 2)) := at_s XI.out hqn 2 (by omega)
                  have p3 : wr.cell? ⟨bm, om + q * 6 + 3, none⟩ = some (.int .i64 (fld 6 L1 q 3)) := at_s XI.out hqn 3 (by omega)
                  have p5 : wr.cell? ⟨bm, om + q * 6 + 5, none⟩ = some (.int .i64 (fld 6 L1 q 5)) := at_s XI.out hqn 5 (by omega)
                  have s0 : wr.cell? ⟨bp, op + b * 2, none⟩ = some (.int .i64 (fld 2 ps b 0)) := at_s X2.out hbm 0 (by omega)
                  have s1 : wr.cell? ⟨bp, op + b * 2 + 1, none⟩ = some (.int .i64 (fld 2 ps b 1)) := at_s X2.out hbm 1 (by omega)
                  rw [he] at p0
                  rw [hx] at b0
                  rw [h2] at p2
                  rw [h3] at p3
                  rw [h5] at p5
                  have n5 := int_ne_self (fld 6 zs k 0)
                  have n6 := int_ne_self (fld 2 ps b 0)
                  have n7 := int_ne_self (fld 2 ps b 1)
                  clear hbx hgx hx he h2 h3 h5
                  generalize fld 6 zs k 0 = d0 at *
                  generalize fld 2 ps b 0 = e0 at *
                  generalize fld 2 ps b 1 = e1 at *
                  go_wp2_with fail
                  have cp2 := fun (W : World) (h : Below wr.heap.size wr W) => (h.cell (p := ⟨bm, om + q * 6 + 2, none⟩) (World.block_lt_of_cell? _ _ p2)).trans p2
                  have cp3 := fun (W : World) (h : Below wr.heap.size wr W) => (h.cell (p := ⟨bm, om + q * 6 + 3, none⟩) (World.block_lt_of_cell? _ _ p3)).trans p3
                  have cp5 := fun (W : World) (h : Below wr.heap.size wr W) => (h.cell (p := ⟨bm, om + q * 6 + 5, none⟩) (World.block_lt_of_cell? _ _ p5)).trans p5
                  have cb0 := fun (W : World) (h : Below wr.heap.size wr W) => (h.cell (p := ⟨bb, ob + k, none⟩) (World.block_lt_of_cell? _ _ b0)).trans b0
                  have cs0 := fun (W : World) (h : Below wr.heap.size wr W) => (h.cell (p := ⟨bp, op + b * 2, none⟩) (World.block_lt_of_cell? _ _ s0)).trans s0
                  have cs1 := fun (W : World) (h : Below wr.heap.size wr W) => (h.cell (p := ⟨bp, op + b * 2 + 1, none⟩) (World.block_lt_of_cell? _ _ s1)).trans s1
                  have Cp2 := Lib.hid cp2
                  clear cp2
                  have Cp3 := Lib.hid cp3
                  clear cp3
                  have Cp5 := Lib.hid cp5
                  clear cp5
                  have Cb0 := Lib.hid cb0
                  clear cb0
                  have Cs0 := Lib.hid cs0
                  clear cs0
                  have Cs1 := Lib.hid cs1
                  clear cs1
                  have p0' := fun d0 os => cell_regrown p0 d0 os
                  have l0' := fun d0 os => cell_regrown l0 d0 os
                  have b0' := fun d0 os => cell_regrown b0 d0 os
                  have p2' := fun d0 os => cell_regrown p2 d0 os
                  have p3' := fun d0 os => cell_regrown p3 d0 os
                  have p5' := fun d0 os => cell_regrown p5 d0 os
                  have s0' := fun d0 os => cell_regrown s0 d0 os
                  have s1' := fun d0 os => cell_regrown s1 d0 os
                  clear p0 l0 b0 p2 p3 p5 s0 s1
                  refine wp_region_quiet_below (by kernel_rfl) (by kernel_rfl) ?_
                  repeat (
                    with_reducible refine wpQuiet_step (fun K hK => ?_)
                    go_simp
                    refine hK _ ?_; clear hK K)
                  with_reducible refine wpQuiet_nil ?_
                  intro _ hw'
                  obtain ⟨⟨dq, osq⟩, hw''⟩ := hw'
                  subst hw''
                  have hbl := (below_regrown wr dq osq)
                  clear p0' l0' b0' p2' p3' p5' s0' s1'
                  generalize Sort.grow (redrawn wr dq) osq = w5 at *
                  have p2 := Cp2.out w5 hbl
                  clear Cp2
                  have p3 := Cp3.out w5 hbl
                  clear Cp3
                  have p5 := Cp5.out w5 hbl
                  clear Cp5
                  have b0 := Cb0.out w5 hbl
                  clear Cb0
                  have s0 := Cs0.out w5 hbl
                  clear Cs0
                  have s1 := Cs1.out w5 hbl
                  clear Cs1
                  have HC5 := Lib.hid (HC.out.trans (hbl.mono HC.out.size))
                  clear hbl
                  go_wp2_with fail
                  have p2' := fun d0 os => cell_regrown p2 d0 os
                  have p3' := fun d0 os => cell_regrown p3 d0 os
                  have p5' := fun d0 os => cell_regrown p5 d0 os
                  have b0' := fun d0 os => cell_regrown b0 d0 os
                  have s0' := fun d0 os => cell_regrown s0 d0 os
                  have s1' := fun d0 os => cell_regrown s1 d0 os
                  clear p2 p3 p5 b0 s0 s1
                  refine wp_region_quiet_below (by kernel_rfl) (by kernel_rfl) ?_
                  repeat (
                    with_reducible refine wpQuiet_step (fun K hK => ?_)
                    go_simp
                    refine hK _ ?_; clear hK K)
                  with_reducible refine wpQuiet_nil ?_
                  intro _ hw'
                  obtain ⟨⟨dq, osq⟩, hw''⟩ := hw'
                  subst hw''
                  have hbl := (below_regrown w5 dq osq)
                  clear p2' p3' p5' b0' s0' s1'
                  generalize Sort.grow (redrawn w5 dq) osq = w6 at *
                  have HD := Lib.hid (HC5.out.trans (hbl.mono HC5.out.size))
                  clear hbl
                  go_wp2_with fail
                  go_roundw
                  case rel => exact ⟨q + 1, by omega, by go_num, HD.out⟩
                  case measure => simp [intOf]; omega
              · have n5 : (fld 6 L1 q 0 != fld 6 zs k 0) = true := by simpa using he
                clear hbx hgx he b0
                generalize fld 6 zs k 0 = d0 at *
                generalize fld 6 L1 q 0 = d1 at *
                go_wp2_with fail
                have p0' := fun d0 os => cell_regrown p0 d0 os
                have l0' := fun d0 os => cell_regrown l0 d0 os
                clear p0 l0
                refine wp_region_quiet_below (by kernel_rfl) (by kernel_rfl) ?_
                repeat (
                  with_reducible refine wpQuiet_step (fun K hK => ?_)
                  go_simp
                  refine hK _ ?_; clear hK K)
                with_reducible refine wpQuiet_nil ?_
                intro _ hw'
                obtain ⟨⟨dq, osq⟩, hw''⟩ := hw'
                subst hw''
                have hbl := (below_regrown wr dq osq)
                clear p0' l0'
                generalize Sort.grow (redrawn wr dq) osq = w5 at *
                have HD := Lib.hid (HC.out.trans (hbl.mono HC.out.size))
                clear hbl
                go_wp2_with fail
                go_roundw
                case rel => exact ⟨q + 1, by omega, by go_num, HD.out⟩
                case measure => simp [intOf]; omega
            · obtain rfl : q = N1 := by omega
              go_wp2_with fail
              go_roundw
              case rel => exact ⟨k + 1, by omega, by go_num, HBC.out⟩
              case measure => simp [intOf]; omega
        · obtain rfl : k = k1 := by omega
          have HE := Lib.hid (BV.out.trans (hb.mono BV.out.size))
          go_wp2_with fail
          go_meet
          exact HE.out
  case rest =>
    have hbc := hcut
    clear RX25
    clear RX26
    clear RX27
    have HB37 := Lib.hid (HB24.out.trans (hbc.mono HB24.out.size))
    clear HB24
    clear hbc
    clear CB F1 F2 F3 F4 n2
    generalize wc = VA at *
    go_wp2_with fail
    refine (drawx14.swappedPairs A n c VA hn (Bytes_below H.out HB37.out)).mono ?_
    rintro e V38 ⟨v2, k2, ys, u2, m2, qs, g2, s2, j2, xs, rfl, ho1, hk2, ho2, hm2, ho3, hj2, h39⟩
    obtain ⟨A1, c1, rfl, hc1⟩ := own_cap ho1
    obtain ⟨A2, c2, rfl, hc2⟩ := own_cap ho2
    obtain ⟨A3, c3, rfl, hc3⟩ := own_cap ho3
    have HB40 := Lib.hid (HB37.out.trans (h39.mono HB37.out.size))
    clear HB37
    clear h39
    have RX41 := Lib.hid (RdZ.of_own ho1 (own_len6 ho1))
    have RX42 := Lib.hid (RdZ.of_own ho2 (own_len2 ho2))
    have RX43 := Lib.hid (intc.rd_of_own ho3 (own_len1 ho3))
    clear ho1 ho2 ho3
    have CI := Lib.hid (fun W h1 h2 h3 => asgf.swappedPairs ys qs xs g2 A1 A2 A3 k2 c1 m2 c2 j2 c3 W (by omega) (by omega) (by omega) hc3 h1 h2 h3)
    have CS := Lib.hid (fun W h1 h2 h3 => asgw.swappedPairs ys qs xs g2 A1 A2 A3 k2 c1 m2 c2 j2 c3 W (by omega) (by omega) (by omega) hc3 h1 h2 h3)
    generalize spV ys k2 qs m2 g2 xs j2 = S2 at *
    generalize agB ys k2 qs m2 g2 xs j2 = O2 at *
    have n1 := int_ne_self S2
    have n2 := bool_ne_self O2
    go_wp2_with fail
    refine (CI.out V38 RX41.out RX42.out RX43.out).mono ?_
    rintro e V44 ⟨rfl, h45⟩
    have HB46 := Lib.hid (HB40.out.trans (h45.mono HB40.out.size))
    clear HB40
    have RX47 := Lib.hid (RX41.out.next h45)
    clear RX41
    have RX48 := Lib.hid (RX42.out.next h45)
    clear RX42
    have RX49 := Lib.hid (RX43.out.next h45)
    clear RX43
    clear h45
    go_wp2_with fail
    refine (CS.out V44 RX47.out RX48.out RX49.out).mono ?_
    rintro e V50 ⟨rfl, h51⟩
    have HB52 := Lib.hid (HB46.out.trans (h51.mono HB46.out.size))
    clear HB46
    have RX53 := Lib.hid (RX47.out.next h51)
    clear RX47
    have RX54 := Lib.hid (RX48.out.next h51)
    clear RX48
    have RX55 := Lib.hid (RX49.out.next h51)
    clear RX49
    clear h51
    clear RX53
    clear RX54
    clear RX55
    clear CI CS
    go_wp2_with fail
    refine (drawx14.plotDistance A n c V50 hn (Bytes_below H.out HB52.out)).mono ?_
    rintro e V56 ⟨a3, b3, c3, d3, h3, l3, x3, y3, rfl, h57⟩
    have HB58 := Lib.hid (HB52.out.trans (h57.mono HB52.out.size))
    clear HB52
    clear h57
    have BX59 := Lib.hid ((plce.at_next 25 #[.int .i64 a3, .int .i64 b3, .int .i64 c3, .int .i64 d3, .int .i64 h3, .int .i64 l3] HB58.out).alloc (.cells #[.int .i64 x3, .int .i64 y3] 35))
    have BX60 := Lib.hid ((plce.at_next 25 #[.int .i64 a3, .int .i64 b3, .int .i64 c3, .int .i64 d3, .int .i64 h3, .int .i64 l3] HB58.out).next 35 #[.int .i64 x3, .int .i64 y3])
    rw [World.size_alloc] at BX60
    clear HB58
    have HBn := Lib.hid BX59.out.1
    have HB61 := HBn
    clear HBn
    go_upto_region 29 with fail
    generalize ((V56.alloc (.cells #[.int .i64 a3, .int .i64 b3, .int .i64 c3, .int .i64 d3, .int .i64 h3, .int .i64 l3] 25)).alloc (.cells #[.int .i64 x3, .int .i64 y3] 35)) = W3 at *
    have CI := Lib.hid (fun W => asgd.plotDistance a3 b3 c3 d3 h3 l3 x3 y3 W)
    have CS := Lib.hid (fun W => asgv.plotDistance a3 b3 c3 d3 h3 l3 x3 y3 W)
    generalize pdV a3 b3 c3 d3 h3 l3 x3 y3 = S3 at *
    generalize pdB a3 b3 c3 d3 h3 l3 x3 y3 = O3 at *
    have i1 := int_eq_self S3
    have i2 := bool_eq_self O3
    have km0_ : W3.cell? ⟨V56.heap.size, 0, none⟩ = some (.int .i64 a3) := BX59.out.cell 0
    have km1_ : W3.cell? ⟨V56.heap.size, 1, none⟩ = some (.int .i64 b3) := BX59.out.cell 1
    have km2_ : W3.cell? ⟨V56.heap.size, 2, none⟩ = some (.int .i64 c3) := BX59.out.cell 2
    have km3_ : W3.cell? ⟨V56.heap.size, 3, none⟩ = some (.int .i64 d3) := BX59.out.cell 3
    have km4_ : W3.cell? ⟨V56.heap.size, 4, none⟩ = some (.int .i64 h3) := BX59.out.cell 4
    have km5_ : W3.cell? ⟨V56.heap.size, 5, none⟩ = some (.int .i64 l3) := BX59.out.cell 5
    have kp0_ : W3.cell? ⟨V56.heap.size + 1, 0, none⟩ = some (.int .i64 x3) := BX60.out.cell 0
    have kp1_ : W3.cell? ⟨V56.heap.size + 1, 1, none⟩ = some (.int .i64 y3) := BX60.out.cell 1
    go_wp2_with fail
    clear km0_ km1_ km2_ km3_ km4_ km5_ kp0_ kp1_
    refine (CI.out W3).mono ?_
    rintro e V62 ⟨rfl, h63⟩
    have HB64 := Lib.hid (HB61.out.trans (h63.mono HB61.out.size))
    clear HB61
    have BX65 := Lib.hid (BX59.out.old h63)
    clear BX59
    have BX66 := Lib.hid (BX60.out.old h63)
    clear BX60
    clear h63
    have km0_ : V62.cell? ⟨V56.heap.size, 0, none⟩ = some (.int .i64 a3) := BX65.out.cell 0
    have km1_ : V62.cell? ⟨V56.heap.size, 1, none⟩ = some (.int .i64 b3) := BX65.out.cell 1
    have km2_ : V62.cell? ⟨V56.heap.size, 2, none⟩ = some (.int .i64 c3) := BX65.out.cell 2
    have km3_ : V62.cell? ⟨V56.heap.size, 3, none⟩ = some (.int .i64 d3) := BX65.out.cell 3
    have km4_ : V62.cell? ⟨V56.heap.size, 4, none⟩ = some (.int .i64 h3) := BX65.out.cell 4
    have km5_ : V62.cell? ⟨V56.heap.size, 5, none⟩ = some (.int .i64 l3) := BX65.out.cell 5
    have kp0_ : V62.cell? ⟨V56.heap.size + 1, 0, none⟩ = some (.int .i64 x3) := BX66.out.cell 0
    have kp1_ : V62.cell? ⟨V56.heap.size + 1, 1, none⟩ = some (.int .i64 y3) := BX66.out.cell 1
    go_wp2_with fail
    clear km0_ km1_ km2_ km3_ km4_ km5_ kp0_ kp1_
    refine (CS.out V62).mono ?_
    rintro e V67 ⟨rfl, h68⟩
    have HB69 := Lib.hid (HB64.out.trans (h68.mono HB64.out.size))
    clear HB64
    have BX70 := Lib.hid (BX65.out.old h68)
    clear BX65
    have BX71 := Lib.hid (BX66.out.old h68)
    clear BX66
    clear h68
    have HE := Lib.hid HB69.out
    go_wp2_with fail
    go_ret
    exact ⟨rfl, HE.out⟩

theorem own : ownKnob Tryz.prog.godebug = none := by kernel_rfl
theorem laidOut : laidOutB Tryz.prog = true := by kernel_rfl


set_option maxRecDepth 100000 in
theorem contract (H : Type) (enc : TypeId × Value → H) (W : World) (base : Nat) (args : Array Value) (ds gs : List (DataW H)) (before : List MemPlace)
    (hval : ∀ (j : Nat) t v, Tryz.f4.params[j]? = some t → args[j]? = some v → Value.okWide Tryz.prog W .any base t v)
    (hW : DataW.Whole enc Tryz.prog Tryz.f4.params.toList Rows.fnUpdatesSpec.vars false W args.toList ds gs before) (hL : laidMetH Tryz.prog Rows.fnUpdatesRow.laid W) :
    Calls Tryz.prog 4 args W fun e W' => ∃ v, e = .returned v ∧ Rows.fnUpdatesSpec.post enc Tryz.prog Tryz.f4 false true false false W args v W' := by
  have hW' := hW
  obtain ⟨p, q, hA0, hV, rfl, hfz, hnd⟩ := hW
  have hA : DataW.TrodAll enc Tryz.prog W 0 (fun _ => true) true Tryz.f4.params.toList args.toList ds p := hA0
  rw [Tryz.params4] at hA hval
  obtain ⟨v0, vs0, d0, ds0, p0, q0, hargs, rfl, rfl, h0, r0⟩ := trodAll_cons hA
  obtain ⟨rfl, rfl, rfl⟩ := trodAll_nil r0
  obtain rfl : args = #[v0] := by cases args; simp_all
  obtain ⟨dv0, rfl⟩ : ∃ dv0, gs = [dv0] := by
    match gs, laid_.vars_length hV with
    | [dv0], _ => exact ⟨dv0, rfl⟩
  obtain ⟨a0, len0, cap0, rfl⟩ := okWide_slice Tryz.underlying22 (hval 0 22 v0 rfl rfl)
  have k0 := h0
  have lt0 : ∀ x ∈ p0, x.block < W.heap.size := by obtain ⟨m, hm⟩ := k0; exact DataW.trod_lt m _ _ _ hm
  obtain ⟨z0, w0⟩ : ∃ zs, IsRow .u8 W a0 len0 cap0 zs := by
    obtain ⟨fuel, hf⟩ := h0
    rcases open_ints Tryz.underlying22 Tryz.underlying5 (by kernel_rfl) hf with ⟨hcs, _⟩ | ⟨x, l, c, zs, hcs, _, hl, hm, hz, _, hcell, hwz⟩
    · simp [Value.cells] at hcs
      obtain ⟨rfl, rfl, rfl⟩ := hcs
      exact ⟨[], .inl ⟨rfl, rfl, rfl, rfl⟩⟩
    · simp [Value.cells] at hcs
      obtain ⟨rfl, rfl, rfl⟩ := hcs
      exact ⟨zs, .inr ⟨_, rfl, hl, hm, by simpa using hz, hcell, hwz⟩⟩
  clear hA0
  refine (walk a0 len0 cap0 z0 W w0 (erl.of_both hL)).mono fun e W' ⟨he, bel⟩ => ?_
  subst he
  exact ⟨_, rfl, _, _, _, [], _, _, hW', trodAll_mk1 (shut_bool Tryz.underlying4 _), (trodAll_cons_mk (Below.trod laidOut (by kernel_rfl) (of_decide_eq_true (by kernel_rfl)) k0 bel lt0) trodAll_mk0), Below.trodVars laidOut bel (by kernel_rfl) hV, bel.frame _, fun h => by cases h⟩

theorem laid_met (os : Os) : laidMetH Tryz.prog Rows.fnUpdatesRow.laid ((erl.laidWorld os).forCall (fun _ _ => 0) ⟨#[], #[.slice none 0 0], []⟩).memory :=
  erl.both_met os _
theorem reads (os : Os) {H : Type} (enc : TypeId × Value → H) : ∃ places, DataW.whole enc Tryz.prog ((erl.laidWorld os).forCall (fun _ _ => 0) ⟨#[], #[.slice none 0 0], []⟩).memory Tryz.f4.params.toList Rows.fnUpdatesSpec.vars false (#[.slice none 0 0] : Array Value).toList 8 = some ([.nil], [.held (enc (190, .pointer (some ⟨erl.low, 0, none⟩)))], places) :=
  ⟨MemPlace.row ⟨1, 0, none⟩ 1, by kernel_rfl⟩

set_option maxRecDepth 100000 in
theorem lifted (os : Os) (started : os.Started) (H : Type) (enc : TypeId × Value → H) (F : Stop.Interp) :
    ReturnsInHanded {} Tryz.checked os 4 .any ((OpenSpec.ofChange Rows.fnUpdatesSpec).preRow enc Tryz.prog Tryz.f4 Rows.fnUpdatesRow.domain false Rows.fnUpdatesRow.laid) (((OpenSpec.ofChange Rows.fnUpdatesSpec).at F).post enc Tryz.prog Tryz.f4 false true false false) := by
  obtain ⟨places, hx⟩ := reads os enc
  refine returnsInHanded_of_row (C := Tryz.checked) (s := OpenSpec.ofChange Rows.fnUpdatesSpec) own started (by kernel_rfl) Tryz.func4
    (witness_row_at (enc := enc) (C := Tryz.checked) false (erl.laidWorld os) #[.slice none 0 0] rfl (by kernel_rfl) (by kernel_rfl) (by kernel_rfl)
      (OpenSpec.preRow_of_cond 8 hx (by kernel_rfl) (fun k hk => by cases hk) (by kernel_rfl) (laid_met os))) ?_
  intro W base args ds gs before hval hW _ _ _ hL _ _
  exact contract H enc W base args ds gs before hval hW hL

theorem said : Rows.FnUpdatesSaid :=
  OpenClaim.holds_of_cond 4 Tryz.f4 rfl rfl rfl rfl rfl rfl rfl ⟨rfl, rfl, rfl, rfl, rfl⟩ rfl rfl rfl rfl rfl (by kernel_rfl) Tryz.func4 (by kernel_rfl)
    (of_decide_eq_true (by kernel_rfl)) (by unfold Func.isWrapper; first | (rw [if_pos (by decide +kernel)]; kernel_rfl) | (rw [if_neg (by decide +kernel)]; exact ⟨rfl, rfl⟩))
    (fun os started H enc _ F => by rw [OpenClaim.pre_eq_preRow]; exact lifted os started H enc F)

theorem plain (f : FuncId) (fn : Func) (hf : Tryz.pinned.checked.prog.funcNamed "loop.example/g00875/laws.FnUpdates" = some f) (hfn : Tryz.pinned.checked.prog.funcs[f]? = some fn) :
    true = Tryz.pinned.checked.prog.looks [] ∧ ∀ (j : Nat) t, fn.params[j]? = some t → Tryz.pinned.checked.prog.wantsStandIn t = false := by
  obtain rfl : f = 4 := Option.some.inj ((show Tryz.prog.funcNamed "loop.example/g00875/laws.FnUpdates" = some 4 by kernel_rfl).symm.trans hf) |>.symm
  obtain rfl : fn = Tryz.f4 := (Option.some.inj (Tryz.func4.symm.trans hfn)).symm
  refine ⟨by kernel_rfl, fun j t ht => ?_⟩
  rw [Tryz.params4] at ht
  have hm := Array.mem_of_getElem? ht
  simp at hm
  obtain rfl := hm
  exact (show Tryz.prog.wantsStandIn 22 = false by kernel_rfl)

theorem proved : Rows.FnUpdatesCardSaid :=
  Claim7.holds_tied_plain_at .later [] _ _ _ _ said (fun _ h => by cases h) (by kernel_rfl) (fun _ h => by cases h) fnUpdates_row_tie rfl ⟨rfl, rfl⟩ (by kernel_rfl) rfl plain (by kernel_rfl)
#print axioms proved
end Go.Proofs.YtfigjfckelichaaGreatDoor.fnUpdates
