/- For every slice of tracks and all other arguments the law FnExactHitTrack returns true: impl.HitTrack and spec.HitTrack return the same list and true, or both an empty slice and false; the arguments are left as they were, the results share no memory. No condition. -/
import Derived.Test.YtmandeiiaioodaaDoorCards
import Derived.Test.YtmandeiiaioodaaDoorTie
import Derived.Test.YtmandeiiaioodaaDoorErL
import Derived.Test.YtmandeiiaioodaaDoorTrkU
import Derived.Test.YtmandeiiaioodaaDoorTrkG
import Derived.Test.YtmandeiiaioodaaDoorPosX
import Derived.Test.YtmandeiiaioodaaDoorIntC
import Derived.Test.YtmandeiiaioodaaDoorLstO
import Derived.Test.YtmandeiiaioodaaDoorTrkE
import Derived.WalkKit
import Derived.ProofKit
import Derived.OpenShut
import Derived.ShutString
import Derived.ChangeOld
import Derived.Below
import Derived.Lib.SmallJoins
import Derived.Lib.QuietBelow
import Derived.Deep.RegionHeld3
import Derived.Deep.CutRange
import Derived.Stop.LaidErr
import Derived.Deep.DeepHandedRow
import Derived.Lib.LaidTab
import Derived.OpenVars
namespace Go.Proofs.YtmandeiiaioodaaDoor.fnExactHitTrack
open Go.ChangeShapes Go.WideShapes Go.ChangeAt Go.RowKit Go.Joins Go.Proofs.YtmandeiiaioodaaDoor.ats Go.Proofs.YtmandeiiaioodaaDoor.ints Go.Proofs.YtmandeiiaioodaaDoor.lst Go.Proofs.YtmandeiiaioodaaDoor.intc Go.Proofs.YtmandeiiaioodaaDoor.code_
open Go.ChangeMaps (open_string shut_string)
set_option linter.unusedVariables false

theorem bool_ne_self (b : Bool) : (b != b) = false := by simp
theorem int_ne_self (x : Int) : (x != x) = false := by simp

/-- The function f returns this. -/
def Gives (f : Nat) (z0 : List Int) (n0 : Nat) (a1 : Int) (a20 : Int) (a21 : Int) (V : List Int) (N : Nat) (O0 : Bool) : Prop := ∀ (A0 : Option Addr) (c0 : Nat) (w : World), n0 ≤ c0 → RdZ 6 w w.heap.size A0 n0 z0 → 
  Calls Tryd.prog f #[.slice A0 n0 c0, .int .i64 a1, .agg #[.int .i64 a20, .int .i64 a21]] w fun e w' => ∃ v, e = .returned (.tuple #[v, .bool O0]) ∧ w'.ownsRow w.heap.size 38 6 v N (cellsI V) ∧ Below w.heap.size w w'

/-- .. in a world that meets the card's condition. -/
def GivesX (f : Nat) (z0 : List Int) (n0 : Nat) (a1 : Int) (a20 : Int) (a21 : Int) (V : List Int) (N : Nat) (O0 : Bool) : Prop := ∀ (A0 : Option Addr) (c0 : Nat) (w : World), erl.LX w → n0 ≤ c0 → RdZ 6 w w.heap.size A0 n0 z0 → 
  Calls Tryd.prog f #[.slice A0 n0 c0, .int .i64 a1, .agg #[.int .i64 a20, .int .i64 a21]] w fun e w' => ∃ v, e = .returned (.tuple #[v, .bool O0]) ∧ w'.ownsRow w.heap.size 38 6 v N (cellsI V) ∧ Below w.heap.size w w'

set_option maxRecDepth 100000 in
set_option maxHeartbeats 8000000 in
theorem law_of (a0 : Option Addr) (c0 : Nat) (z0 : List Int) (n0 : Nat) (a1 : Int) (a20 : Int) (a21 : Int) (V : List Int) (N : Nat) (O0 : Bool) (w : World) (hn0 : n0 ≤ 1048576) (hr0 : RdZ 6 w w.heap.size a0 n0 z0) (hN : N ≤ 1048576) (hV : V.length = N * 6)
    (hs : Gives 23 z0 n0 a1 a20 a21 V N O0) (hi : GivesX 26 z0 n0 a1 a20 a21 V N O0) (hlx : erl.LX w) :
    Calls Tryd.prog 4 #[.slice a0 n0 c0, .int .i64 a1, .agg #[.int .i64 a20, .int .i64 a21]] w fun e w' => e = .returned (.bool true) ∧ Below w.heap.size w w' := by
  have HZ0 := Lib.hid (fun w => trke.sz a0 n0 c0 w (by unfold maxLen; omega))
  rw [if_pos hn0] at HZ0
  have d0 : decide ((1048576 : Int) - (n0 : Int) < 0) = false := decide_eq_false (by omega)
  have HC0 := Lib.hid (fun (w' : World) (hb : Below w.heap.size w w') => trke.copyS z0 a0 n0 c0 w' hn0 (hr0.next hb))
  have HL0 := Lib.hid hr0.1
  have HX := Lib.hid hlx
  clear hlx
  have HS := Lib.hid (fun (A0 : Option Addr) (c0 : Nat) (w : World) (e0 : n0 ≤ c0) (h0 : RdZ 6 w w.heap.size A0 n0 z0) => hs A0 c0 w e0 h0)
  have HI := Lib.hid (fun (A0 : Option Addr) (c0 : Nat) (w : World) (e0 : n0 ≤ c0) (h0 : RdZ 6 w w.heap.size A0 n0 z0) (hx : erl.LX w) => hi A0 c0 w hx e0 h0)
  have HV := Lib.hid hV
  have HNN := Lib.hid hN
  have ne0 := bool_ne_self O0
  clear hs hi hr0 hV
  have BX2 := Lib.hid (newS 46 #[.int .i64 a20, .int .i64 a21] w)
  go_enter Tryd.func4, Tryd.ntmps4
  go_wp2_with fail
  generalize (w.alloc (.cells #[.int .i64 a20, .int .i64 a21] 46)) = W0 at *
  have AN1 := Lib.hid (BX2.out.1)
  have AN2 := Lib.hid (Below.refl W0.heap.size W0)
  refine (HZ0.out W0).mono ?_
  rintro e w' ⟨rfl, rfl⟩
  go_upto_region 5 with fail
  have CS3 := Lib.hid (show ∀ WZ : World, Below W0.heap.size W0 WZ → WZ.cell? ⟨w.heap.size, 0, none⟩ = some (.int .i64 a20) ∧ WZ.cell? ⟨w.heap.size, 1, none⟩ = some (.int .i64 a21) from fun WZ hz => And.intro (trke.at_cell (BX2.out.old (AN2.out.trans (hz.mono AN2.out.size))) 0 (.int .i64 a20) rfl) (trke.at_cell (BX2.out.old (AN2.out.trans (hz.mono AN2.out.size))) 1 (.int .i64 a21) rfl))
  have KC0_3 := Lib.hid (fun (WZ : World) (hz : Below W0.heap.size W0 WZ) => HC0.out WZ (AN1.out.trans (hz.mono AN1.out.size)))
  go_cut [8, 9] from 23 to 31 (fun p0 p1 wz => ∃ Ax cx, p0 = .slice Ax N cx ∧ p1 = .bool O0 ∧ wz.ownsRow W0.heap.size 38 6 (.slice Ax N cx) N (cellsI V) ∧ Below W0.heap.size W0 wz)
  case first =>
    go_region_held3 (fun w' => w'.cell? ⟨w.heap.size, 0, none⟩ = some (.int .i64 a20) ∧ w'.cell? ⟨w.heap.size, 1, none⟩ = some (.int .i64 a21)) (first
      | exact CS3.out _ (Below.refl W0.heap.size W0).drew
      | exact CS3.out _ (by assumption)
      | go_keep) (first
      | (go_at_call 24; (with_reducible refine (KC0_3.out _ (by first | exact (Below.refl W0.heap.size W0).drew | assumption)).mono ?_); rintro e w0' ⟨g0, rfl, ho, hb⟩
         have hl0' := trke.bl_next (V := W0) (by first | exact (Below.refl W0.heap.size W0).drew | assumption) hb
         have r0_0 := RdZ.of_own ho HL0.out
         clear ho hb)
      | (go_at_call 25; (with_reducible refine (posx.toPlace a20 a21 _).mono ?_); rintro e w2' ⟨rfl, hb⟩
         have hl2' := trke.bl_next (V := W0) (by first | exact (Below.refl W0.heap.size W0).drew | assumption) hb
         have r0_2 := r0_0.next hb
         clear hb)
      | (go_at_call 23; (with_reducible refine (HS.out _ _ _ (Nat.le_refl _) r0_2).mono ?_); rintro e wF' ⟨v, rfl, ho, hb⟩
         obtain ⟨Ax, cx, rfl⟩ := own_sliceZ ho
         have ho2 := own_.own_base ho (Below.size (by assumption : Below W0.heap.size W0 _))
         have hlF := trke.bl_next (V := W0) (by assumption) hb
         clear ho hb))
    all_goals (go_wp2_with fail; go_meet; exact ⟨_, _, rfl, rfl, by assumption, by assumption⟩)
  case rest =>
    obtain ⟨AW, cW, rfl, rfl, ho6, h5⟩ := hcut
    generalize wc = V4 at *
    clear CS3 KC0_3
    have AN7 := Lib.hid (AN1.out.trans (h5.mono AN1.out.size))
    clear AN1
    have AN8 := Lib.hid (AN2.out.trans (h5.mono AN2.out.size))
    clear AN2
    clear h5
    have RW := Lib.hid (RdZ.of_own ho6 HV.out)
    clear ho6
    have AN9 := Lib.hid (Below.refl V4.heap.size V4)
    go_wp2_with fail
    refine (HC0.out V4 AN7.out).mono ?_
    rintro e V10 ⟨g13, rfl, ho12, h11⟩
    have LE14 := Lib.hid AN7.out.size
    have LE15 := Lib.hid AN8.out.size
    have LE16 := Lib.hid AN9.out.size
    have AN17 := Lib.hid (AN7.out.trans (h11.mono AN7.out.size))
    clear AN7
    have AN18 := Lib.hid (AN8.out.trans (h11.mono AN8.out.size))
    clear AN8
    have AN19 := Lib.hid (AN9.out.trans (h11.mono AN9.out.size))
    clear AN9
    have rd20 := Lib.hid (RdZ.of_own ho12 HL0.out)
    have OW21 := Lib.hid ho12
    have LT22 := Lib.hid (own_row_lt ho12)
    have AN23 := Lib.hid (Below.refl V10.heap.size V10)
    clear h11 ho12
    have S24 := Lib.hid (BX2.out.old AN18.out)
    have c25 : V10.cell? ⟨w.heap.size, 0, none⟩ = some (.int .i64 a20) := S24.out.cell 0
    have c26 : V10.cell? ⟨w.heap.size, 1, none⟩ = some (.int .i64 a21) := S24.out.cell 1
    go_wp2_with fail
    clear c25 c26 S24
    refine (posx.toPlace a20 a21 V10).mono ?_
    rintro e V27 ⟨rfl, h28⟩
    have AN29 := Lib.hid (AN17.out.trans (h28.mono AN17.out.size))
    clear AN17
    have AN30 := Lib.hid (AN18.out.trans (h28.mono AN18.out.size))
    clear AN18
    have AN31 := Lib.hid (AN19.out.trans (h28.mono AN19.out.size))
    clear AN19
    have AN32 := Lib.hid (AN23.out.trans (h28.mono AN23.out.size))
    clear AN23
    have OW33 := Lib.hid (own_.own_below OW21.out h28)
    clear OW21
    clear h28
    have rd34 := Lib.hid (RdZ.of_own OW33.out HL0.out)
    have LE35 := Lib.hid AN29.out.size
    have LE36 := Lib.hid AN30.out.size
    have LE37 := Lib.hid AN31.out.size
    have LE38 := Lib.hid AN32.out.size
    go_wp2_with fail
    refine (HI.out _ _ V27 (Nat.le_refl _) rd34.out (erl.lx_on HX.out AN29.out)).mono ?_
    rintro e V39 ⟨vG, rfl, ho41, h40⟩
    obtain ⟨AG, cG, rfl⟩ := own_sliceZ ho41
    clear rd34
    have AN42 := Lib.hid (AN29.out.trans (h40.mono AN29.out.size))
    clear AN29
    have AN43 := Lib.hid (AN30.out.trans (h40.mono AN30.out.size))
    clear AN30
    have AN44 := Lib.hid (AN31.out.trans (h40.mono AN31.out.size))
    clear AN31
    have AN45 := Lib.hid (AN32.out.trans (h40.mono AN32.out.size))
    clear AN32
    have OW46 := Lib.hid (own_.own_below OW33.out h40)
    clear OW33
    clear h40
    clear AN45
    have OW47 := Lib.hid ho41
    have LT48 := Lib.hid (own_row_lt ho41)
    clear ho41
    have E49 := Lib.hid (trke.eqS V AG AW N cG cW V39 (by have := HNN.out; omega) (RdZ.of_own OW47.out HV.out) (RW.out.next AN44.out))
    go_wp2_with fail
    refine E49.out.mono ?_
    rintro e V50 ⟨rfl, h51⟩
    clear E49
    have AN52 := Lib.hid (AN42.out.trans (h51.mono AN42.out.size))
    clear AN42
    have AN53 := Lib.hid (AN43.out.trans (h51.mono AN43.out.size))
    clear AN43
    have AN54 := Lib.hid (AN44.out.trans (h51.mono AN44.out.size))
    clear AN44
    have OW55 := Lib.hid (own_.own_below OW46.out h51)
    clear OW46
    have OW56 := Lib.hid (own_.own_below OW47.out h51)
    clear OW47
    clear h51
    go_wp2_with fail
    refine (HC0.out V50 AN52.out).mono ?_
    rintro e V57 ⟨g60, rfl, ho59, h58⟩
    have AN61 := Lib.hid (AN52.out.trans (h58.mono AN52.out.size))
    clear AN52
    have AN62 := Lib.hid (AN53.out.trans (h58.mono AN53.out.size))
    clear AN53
    have AN63 := Lib.hid (AN54.out.trans (h58.mono AN54.out.size))
    clear AN54
    have OW64 := Lib.hid (own_.own_below OW55.out h58)
    clear OW55
    have OW65 := Lib.hid (own_.own_below OW56.out h58)
    clear OW56
    have rd66 := Lib.hid (RdZ.of_own ho59 HL0.out)
    clear h58 ho59
    have E67 := Lib.hid (trke.eqS z0 _ _ n0 n0 n0 V57 (by omega) (RdZ.of_own OW64.out HL0.out) rd66.out)
    clear rd66
    go_wp2_with fail
    refine E67.out.mono ?_
    rintro e V68 ⟨rfl, h69⟩
    clear E67
    have AN70 := Lib.hid (AN61.out.trans (h69.mono AN61.out.size))
    clear AN61
    have AN71 := Lib.hid (AN62.out.trans (h69.mono AN62.out.size))
    clear AN62
    have AN72 := Lib.hid (AN63.out.trans (h69.mono AN63.out.size))
    clear AN63
    have OW73 := Lib.hid (own_.own_below OW64.out h69)
    clear OW64
    have OW74 := Lib.hid (own_.own_below OW65.out h69)
    clear OW65
    clear h69
    go_wp2_with fail
    refine (trke.markS V4.heap.size (some ⟨g13, 0, none⟩) 1 n0 n0 _ V68 (by have := HNN.out; omega) OW73.out).mono ?_
    rintro e V75 ⟨rfl, h76, hg77, ho78⟩
    have AN79 := Lib.hid (AN70.out.trans (h76.mono LE14.out))
    clear AN70
    have AN80 := Lib.hid (AN71.out.trans (h76.mono LE15.out))
    clear AN71
    have AN81 := Lib.hid (AN72.out.trans (h76.mono LE16.out))
    clear AN72
    have OW82 := Lib.hid (own_kept OW74.out hg77 (fun q hq => Nat.lt_of_lt_of_le (LT22.out q hq) LE38.out))
    clear OW74
    clear OW73 h76 hg77
    clear ho78
    have KN : decide (((1 + n0 * 6 : Nat) : Int) < 0) = false := decide_eq_false (by omega)
    generalize ((1 + n0 * 6 : Nat) : Int) = KK at *
    have E83 := Lib.hid (trke.eqS V AG AW N cG cW V75 (by have := HNN.out; omega) (RdZ.of_own OW82.out HV.out) (RW.out.next AN81.out))
    go_wp2_with fail
    refine E83.out.mono ?_
    rintro e V84 ⟨rfl, h85⟩
    clear E83
    have AN86 := Lib.hid (AN79.out.trans (h85.mono AN79.out.size))
    clear AN79
    have AN87 := Lib.hid (AN80.out.trans (h85.mono AN80.out.size))
    clear AN80
    have AN88 := Lib.hid (AN81.out.trans (h85.mono AN81.out.size))
    clear AN81
    have OW89 := Lib.hid (own_.own_below OW82.out h85)
    clear OW82
    clear h85
    clear KN
    go_wp2_with fail
    refine (trke.markS V27.heap.size AG 1 N cG _ V84 (by have := HNN.out; omega) OW89.out).mono ?_
    rintro e V90 ⟨rfl, h91, hg92, ho93⟩
    have AN94 := Lib.hid (AN86.out.trans (h91.mono LE35.out))
    clear AN86
    have AN95 := Lib.hid (AN87.out.trans (h91.mono LE36.out))
    clear AN87
    have AN96 := Lib.hid (AN88.out.trans (h91.mono LE37.out))
    clear AN88
    clear OW89 h91 hg92
    have MG := Lib.hid (RdZ.of_own ho93 (marksI_length 1 (N * 6)))
    clear ho93
    have AN97 := Lib.hid (Below.refl V90.heap.size V90)
    have K5 : decide (((1 + N * 6 : Nat) : Int) < 0) = false := decide_eq_false (by omega)
    have K6 : (((1 + N * 6 : Nat) : Int) != ((1 + N * 6 : Nat) : Int)) = false := int_ne_self _
    have HH := Lib.hid (fun (W : World) h => trke.heldS AG 1 N cG W (by have := HNN.out; omega) (h))
    generalize ((1 + N * 6 : Nat) : Int) = K at *
    go_wp2_with fail
    refine (HH.out V90 (MG.out.next AN97.out)).mono ?_
    rintro e w' ⟨rfl, rfl⟩
    go_upto_region 24 with fail
    have CS98 := Lib.hid (show ∀ WZ : World, Below V90.heap.size V90 WZ → WZ.cell? ⟨w.heap.size, 0, none⟩ = some (.int .i64 a20) ∧ WZ.cell? ⟨w.heap.size, 1, none⟩ = some (.int .i64 a21) from fun WZ hz => And.intro (trke.at_cell (BX2.out.old (AN95.out.trans (hz.mono AN95.out.size))) 0 (.int .i64 a20) rfl) (trke.at_cell (BX2.out.old (AN95.out.trans (hz.mono AN95.out.size))) 1 (.int .i64 a21) rfl))
    have KC0_98 := Lib.hid (fun (WZ : World) (hz : Below V90.heap.size V90 WZ) => HC0.out WZ (AN94.out.trans (hz.mono AN94.out.size)))
    go_cut [16, 17] from 83 to 91 (fun p0 p1 wz => ∃ Ax cx, p0 = .slice Ax N cx ∧ p1 = .bool O0 ∧ wz.ownsRow V90.heap.size 38 6 (.slice Ax N cx) N (cellsI V) ∧ Below V90.heap.size V90 wz)
    case first =>
      go_region_held3 (fun w' => w'.cell? ⟨w.heap.size, 0, none⟩ = some (.int .i64 a20) ∧ w'.cell? ⟨w.heap.size, 1, none⟩ = some (.int .i64 a21)) (first
        | exact CS98.out _ (Below.refl V90.heap.size V90).drew
        | exact CS98.out _ (by assumption)
        | go_keep) (first
        | (go_at_call 24; (with_reducible refine (KC0_98.out _ (by first | exact (Below.refl V90.heap.size V90).drew | assumption)).mono ?_); rintro e w0' ⟨g0, rfl, ho, hb⟩
           have hl0' := trke.bl_next (V := V90) (by first | exact (Below.refl V90.heap.size V90).drew | assumption) hb
           have r0_0 := RdZ.of_own ho HL0.out
           clear ho hb)
        | (go_at_call 25; (with_reducible refine (posx.toPlace a20 a21 _).mono ?_); rintro e w2' ⟨rfl, hb⟩
           have hl2' := trke.bl_next (V := V90) (by first | exact (Below.refl V90.heap.size V90).drew | assumption) hb
           have r0_2 := r0_0.next hb
           clear hb)
        | (go_at_call 26; (with_reducible refine (HI.out _ _ _ (Nat.le_refl _) r0_2 (erl.lx_on HX.out (AN94.out.trans ((show Below V90.heap.size V90 _ from (by first | exact (Below.refl V90.heap.size V90).drew | assumption)).mono AN94.out.size)))).mono ?_); rintro e wF' ⟨v, rfl, ho, hb⟩
           obtain ⟨Ax, cx, rfl⟩ := own_sliceZ ho
           have ho2 := own_.own_base ho (Below.size (by assumption : Below V90.heap.size V90 _))
           have hlF := trke.bl_next (V := V90) (by assumption) hb
           clear ho hb))
      all_goals (go_wp2_with fail; go_meet; exact ⟨_, _, rfl, rfl, by assumption, by assumption⟩)
    case rest =>
      obtain ⟨AH, cH, rfl, rfl, ho101, h100⟩ := hcut
      generalize wc = V99 at *
      clear CS98 KC0_98
      have AN102 := Lib.hid (AN94.out.trans (h100.mono AN94.out.size))
      clear AN94
      have AN103 := Lib.hid (AN95.out.trans (h100.mono AN95.out.size))
      clear AN95
      have AN104 := Lib.hid (AN96.out.trans (h100.mono AN96.out.size))
      clear AN96
      have AN105 := Lib.hid (AN97.out.trans (h100.mono AN97.out.size))
      clear AN97
      clear h100
      have rd106 := RdZ.of_own ho101 HV.out
      have E107 := Lib.hid (trke.eqS V AH AW N cH cW V99 (by have := HNN.out; omega) (rd106) (RW.out.next AN104.out))
      go_wp2_with fail
      refine E107.out.mono ?_
      rintro e V108 ⟨rfl, h109⟩
      clear E107
      have AN110 := Lib.hid (AN102.out.trans (h109.mono AN102.out.size))
      clear AN102
      have AN111 := Lib.hid (AN103.out.trans (h109.mono AN103.out.size))
      clear AN103
      have AN112 := Lib.hid (AN104.out.trans (h109.mono AN104.out.size))
      clear AN104
      have AN113 := Lib.hid (AN105.out.trans (h109.mono AN105.out.size))
      clear AN105
      clear h109
      go_wp2_with fail
      refine (HH.out V108 (MG.out.next AN113.out)).mono ?_
      rintro e w' ⟨rfl, rfl⟩
      go_wp2_with fail
      go_ret
      exact ⟨rfl, AN110.out⟩

set_option maxRecDepth 100000 in
theorem walk (a0 : Option Addr) (n0 c0 : Nat) (z0 : List Int) (a1 : Int) (a20 : Int) (a21 : Int) (w : World) (w0 : RdZ 6 w w.heap.size a0 n0 z0) (l0 : n0 ≤ maxLen) (w1 : (Lit.int .i64 a1).wf = true) (w20 : (Lit.int .i64 a20).wf = true) (w21 : (Lit.int .i64 a21).wf = true) (hlx : erl.LX w) :
    Calls Tryd.prog 4 #[.slice a0 n0 c0, .int .i64 a1, .agg #[.int .i64 a20, .int .i64 a21]] w fun e w' => e = .returned (.bool true) ∧ Below w.heap.size w w' := by
  by_cases hn0 : n0 ≤ 1048576
  · skip
    exact law_of a0 c0 z0 n0 a1 a20 a21 (trk.hiL z0 n0 a1 a20 a21) (trk.hiN z0 n0 a1 a20 a21) (trk.hiB z0 n0 a1 a20 a21) w hn0 w0 (Nat.le_trans (trkm.hiN_le z0 n0 a1 a20 a21) (by omega)) (trkm.hiL_length z0 n0 a1 a20 a21)
      (fun A0 c0 w hc0 h0 => trku.hitTrack z0 a1 a20 a21 A0 n0 c0 w hc0 (by omega) h0)
      (fun A0 c0 w hx hc0 h0 => trkg.hitTrack z0 a1 a20 a21 A0 n0 c0 w (by omega) h0 hx.1 hx.2) hlx
  · have HZ0 := Lib.hid (fun w => trke.sz a0 n0 c0 w l0)
    rw [if_neg hn0] at HZ0
    clear w0 l0 w1 w20 w21 hlx hn0
    go_enter Tryd.func4, Tryd.ntmps4
    go_wp2_with fail
    refine (HZ0.out _).mono ?_
    rintro e w' ⟨rfl, rfl⟩
    go_wp2_with fail
    go_ret
    exact ⟨rfl, (Below.refl _ _).alloc (Nat.le_refl _) _⟩


theorem own : ownKnob Tryd.prog.godebug = none := by kernel_rfl
theorem laidOut : laidOutB Tryd.prog = true := by kernel_rfl


set_option maxRecDepth 100000 in
theorem contract (H : Type) (enc : TypeId × Value → H) (W : World) (base : Nat) (args : Array Value) (ds gs : List (DataW H)) (before : List MemPlace)
    (hval : ∀ (j : Nat) t v, Tryd.f4.params[j]? = some t → args[j]? = some v → Value.okWide Tryd.prog W .any base t v)
    (hW : DataW.Whole enc Tryd.prog Tryd.f4.params.toList Rows.fnExactHitTrackSpec.vars false W args.toList ds gs before) (hL : laidMetH Tryd.prog Rows.fnExactHitTrackRow.laid W) :
    Calls Tryd.prog 4 args W fun e W' => ∃ v, e = .returned v ∧ Rows.fnExactHitTrackSpec.post enc Tryd.prog Tryd.f4 false true false false W args v W' := by
  have hW' := hW
  obtain ⟨p, q, hA0, hV, rfl, hfz, hnd⟩ := hW
  have hA : DataW.TrodAll enc Tryd.prog W 0 (fun _ => true) true Tryd.f4.params.toList args.toList ds p := hA0
  rw [Tryd.params4] at hA hval
  obtain ⟨v0, vs0, d0, ds0, p0, q0, hargs, rfl, rfl, h0, r0⟩ := trodAll_cons hA
  obtain ⟨v1, vs1, d1, ds1, p1, q1, rfl, rfl, rfl, h1, r1⟩ := trodAll_cons r0
  obtain ⟨v2, vs2, d2, ds2, p2, q2, rfl, rfl, rfl, h2, r2⟩ := trodAll_cons r1
  obtain ⟨rfl, rfl, rfl⟩ := trodAll_nil r2
  obtain rfl : args = #[v0, v1, v2] := by cases args; simp_all
  obtain ⟨dv0, rfl⟩ : ∃ dv0, gs = [dv0] := by
    match gs, laid_.vars_length hV with
    | [dv0], _ => exact ⟨dv0, rfl⟩
  obtain ⟨a0, len0, cap0, rfl⟩ := okWide_slice Tryd.underlying44 (hval 0 44 v0 rfl rfl)
  have k0 := h0
  have lt0 : ∀ x ∈ p0, x.block < W.heap.size := by obtain ⟨m, hm⟩ := k0; exact DataW.trod_lt m _ _ _ hm
  obtain ⟨z0, w0, n0⟩ : ∃ zs, lst.RdZ 6 W W.heap.size a0 len0 zs ∧ len0 ≤ maxLen := by
    obtain ⟨fuel, hf⟩ := h0
    obtain ⟨A, n, c, zs, hcs, hrd, hle⟩ := lsto.open_structs Tryd.underlying44 Tryd.underlying63 (by kernel_rfl) (by kernel_rfl) (by decide) (by
        intro j f hg
        match j, hg with
        | 0, hg => exact (Option.some.inj hg) ▸ Tryd.underlying3
        | 1, hg => exact (Option.some.inj hg) ▸ Tryd.underlying3
        | 2, hg => exact (Option.some.inj hg) ▸ Tryd.underlying3
        | 3, hg => exact (Option.some.inj hg) ▸ Tryd.underlying3
        | 4, hg => exact (Option.some.inj hg) ▸ Tryd.underlying3
        | 5, hg => exact (Option.some.inj hg) ▸ Tryd.underlying3
        | q + 6, hg => exact absurd (Array.getElem?_eq_some_iff.1 hg).1 (by simp)) hf
    simp [Value.cells] at hcs
    obtain ⟨rfl, rfl, rfl⟩ := hcs
    exact ⟨zs, hrd, hle⟩
  obtain ⟨a1, rfl, rfl, rfl, w1⟩ := open_int Tryd.underlying3 (hval 1 3 v1 rfl rfl) h1
  have k2 := h2
  have lt2 : ∀ x ∈ p2, x.block < W.heap.size := by obtain ⟨m, hm⟩ := k2; exact DataW.trod_lt m _ _ _ hm
  obtain ⟨f20, f21, y20, y21, m2, rfl, rfl, rfl, t20, t21⟩ := open_agg2 Tryd.underlying46 (by kernel_rfl) (by kernel_rfl) (hval 2 46 v2 rfl rfl) h2
  obtain ⟨a20, e20, -, w20⟩ := DataW.trod_int Tryd.underlying3 t20
  obtain rfl : f20 = .int .i64 a20 := by simpa using e20
  obtain ⟨a21, e21, -, w21⟩ := DataW.trod_int Tryd.underlying3 t21
  obtain rfl : f21 = .int .i64 a21 := by simpa using e21
  clear hA0
  refine (walk a0 len0 cap0 z0 a1 a20 a21 W w0 n0 w1 w20 w21 (erl.of_both hL)).mono fun e W' ⟨he, bel⟩ => ?_
  subst he
  exact ⟨_, rfl, _, _, _, [], _, _, hW', trodAll_mk1 (shut_bool Tryd.underlying4 _), (trodAll_cons_mk (Below.trod laidOut (by kernel_rfl) (of_decide_eq_true (by kernel_rfl)) k0 bel lt0) (trodAll_cons_mk (shut_int Tryd.underlying3 w1) (trodAll_cons_mk (Below.trod laidOut (by kernel_rfl) (of_decide_eq_true (by kernel_rfl)) k2 bel lt2) trodAll_mk0))), Below.trodVars laidOut bel (by kernel_rfl) hV, bel.frame _, fun h => by cases h⟩

theorem laid_met (os : Os) : laidMetH Tryd.prog Rows.fnExactHitTrackRow.laid ((erl.laidWorld os).forCall (fun _ _ => 0) ⟨#[], #[.slice none 0 0, .int .i64 0, .agg #[.int .i64 0, .int .i64 0]], []⟩).memory :=
  erl.both_met os _
theorem reads (os : Os) {H : Type} (enc : TypeId × Value → H) : ∃ places, DataW.whole enc Tryd.prog ((erl.laidWorld os).forCall (fun _ _ => 0) ⟨#[], #[.slice none 0 0, .int .i64 0, .agg #[.int .i64 0, .int .i64 0]], []⟩).memory Tryd.f4.params.toList Rows.fnExactHitTrackSpec.vars false (#[.slice none 0 0, .int .i64 0, .agg #[.int .i64 0, .int .i64 0]] : Array Value).toList 8 = some ([.nil, .lit (.int .i64 0), .agg [.lit (.int .i64 0), .lit (.int .i64 0)]], [.held (enc (154, .pointer (some ⟨erl.low, 0, none⟩)))], places) :=
  ⟨MemPlace.row ⟨1, 0, none⟩ 1, by kernel_rfl⟩

set_option maxRecDepth 100000 in
theorem lifted (os : Os) (started : os.Started) (H : Type) (enc : TypeId × Value → H) (F : Stop.Interp) :
    ReturnsInHanded {} Tryd.checked os 4 .any ((OpenSpec.ofChange Rows.fnExactHitTrackSpec).preRow enc Tryd.prog Tryd.f4 Rows.fnExactHitTrackRow.domain false Rows.fnExactHitTrackRow.laid) (((OpenSpec.ofChange Rows.fnExactHitTrackSpec).at F).post enc Tryd.prog Tryd.f4 false true false false) := by
  obtain ⟨places, hx⟩ := reads os enc
  refine returnsInHanded_of_row (C := Tryd.checked) (s := OpenSpec.ofChange Rows.fnExactHitTrackSpec) own started (by kernel_rfl) Tryd.func4
    (witness_row_at (enc := enc) (C := Tryd.checked) false (erl.laidWorld os) #[.slice none 0 0, .int .i64 0, .agg #[.int .i64 0, .int .i64 0]] rfl (by kernel_rfl) (by kernel_rfl) (by kernel_rfl)
      (OpenSpec.preRow_of_cond 8 hx (by kernel_rfl) (fun k hk => by cases hk) (by kernel_rfl) (laid_met os))) ?_
  intro W base args ds gs before hval hW _ _ _ hL _ _
  exact contract H enc W base args ds gs before hval hW hL

theorem said : Rows.FnExactHitTrackSaid :=
  OpenClaim.holds_of_cond 4 Tryd.f4 rfl rfl rfl rfl rfl rfl rfl ⟨rfl, rfl, rfl, rfl, rfl⟩ rfl rfl rfl rfl rfl (by kernel_rfl) Tryd.func4 (by kernel_rfl)
    (of_decide_eq_true (by kernel_rfl)) (by unfold Func.isWrapper; first | (rw [if_pos (by decide +kernel)]; kernel_rfl) | (rw [if_neg (by decide +kernel)]; exact ⟨rfl, rfl⟩))
    (fun os started H enc _ F => by rw [OpenClaim.pre_eq_preRow]; exact lifted os started H enc F)

theorem plain (f : FuncId) (fn : Func) (hf : Tryd.pinned.checked.prog.funcNamed "loop.example/g00875/laws.FnExactHitTrack" = some f) (hfn : Tryd.pinned.checked.prog.funcs[f]? = some fn) :
    true = Tryd.pinned.checked.prog.looks [] ∧ ∀ (j : Nat) t, fn.params[j]? = some t → Tryd.pinned.checked.prog.wantsStandIn t = false := by
  obtain rfl : f = 4 := Option.some.inj ((show Tryd.prog.funcNamed "loop.example/g00875/laws.FnExactHitTrack" = some 4 by kernel_rfl).symm.trans hf) |>.symm
  obtain rfl : fn = Tryd.f4 := (Option.some.inj (Tryd.func4.symm.trans hfn)).symm
  refine ⟨by kernel_rfl, fun j t ht => ?_⟩
  rw [Tryd.params4] at ht
  have hm := Array.mem_of_getElem? ht
  simp at hm
  rcases hm with rfl | rfl | rfl
  · exact (show Tryd.prog.wantsStandIn 44 = false by kernel_rfl)
  · exact (show Tryd.prog.wantsStandIn 3 = false by kernel_rfl)
  · exact (show Tryd.prog.wantsStandIn 46 = false by kernel_rfl)

theorem proved : Rows.FnExactHitTrackCardSaid :=
  Claim7.holds_tied_plain_at .later [] _ _ _ _ said (fun _ h => by cases h) (by kernel_rfl) (fun _ h => by cases h) fnExactHitTrack_row_tie rfl ⟨rfl, rfl⟩ (by kernel_rfl) rfl plain (by kernel_rfl)
#print axioms proved
end Go.Proofs.YtmandeiiaioodaaDoor.fnExactHitTrack
