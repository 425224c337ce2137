/- spec's l12Show: which clocks are connected with a clock, what they show, whether no two ways differ. -/
import Derived.Test.YtndogafihaooiaaLnkS
import Derived.Laws.OwnMore
import Derived.Laws.MakeOwn
import Derived.Deep.QuietTactic
import Derived.Deep.RegionHeld3
import Derived.Deep.CutBlock
import Derived.Deep.CutRange
namespace Go.Proofs.Ytndogafihaooiaa.lnkw
open Go.RowKit Go.Proofs.Ytndogafihaooiaa.ints Go.Proofs.Ytndogafihaooiaa.lst Go.Proofs.Ytndogafihaooiaa.in_ Go.Proofs.Ytndogafihaooiaa.ats Go.Proofs.Ytndogafihaooiaa.lnk Go.Proofs.Ytndogafihaooiaa.lnks

def bls (sn : Nat → Bool) (n : Nat) : List Value := (List.range n).map fun c => .bool (sn c)
def its (of : Nat → Int) (n : Nat) : List Value := (List.range n).map fun c => .int .i64 (of c)
theorem bls_at {sn : Nat → Bool} {n c : Nat} (h : c < n) : (bls sn n)[c]? = some (.bool (sn c)) := by simp [bls, h]
theorem its_at {of : Nat → Int} {n c : Nat} (h : c < n) : (its of n)[c]? = some (.int .i64 (of c)) := by simp [its, h]
theorem bls_set (sn : Nat → Bool) (n c : Nat) (v : Bool) : (bls sn n).set c (.bool v) = bls (upd sn c v) n := by
  refine List.ext_getElem (by simp [bls]) fun i h1 h2 => ?_
  rw [List.getElem_set]
  have hi : i < n := by simpa [bls] using h2
  by_cases e : c = i
  · subst e; rw [if_pos rfl]; simp [bls, upd_same]
  · rw [if_neg e]; simp [bls, upd_other sn v (show i ≠ c from fun h => e h.symm)]
theorem its_set (of : Nat → Int) (n c : Nat) (v : Int) : (its of n).set c (.int .i64 v) = its (upd of c v) n := by
  refine List.ext_getElem (by simp [its]) fun i h1 h2 => ?_
  rw [List.getElem_set]
  have hi : i < n := by simpa [its] using h2
  by_cases e : c = i
  · subst e; rw [if_pos rfl]; simp [its, upd_same]
  · rw [if_neg e]; simp [its, upd_other of v (show i ≠ c from fun h => e h.symm)]
theorem own_away {W : World} {B e s n b g c : Nat} {xs : List Value} (h : W.ownsRow B e s (.slice (some ⟨g, 0, none⟩) n c) n xs) (hne : g ≠ b) (i : Nat) (u : Value) : (W.setCell ⟨b, i, none⟩ u).ownsRow B e s (.slice (some ⟨g, 0, none⟩) n c) n xs :=
  own_kept_at h (grown_set (grown_refl _ (some b)) i u) (fun g' e1 e2 => by
    have e1 : some g = some g' := e1
    rw [← e1] at e2
    injection e2 with e2
    exact hne e2.symm)
theorem own_alloc (w : World) (e : TypeId) (cur : Array Value) (n : Nat) (hc : cur.size = n) (hn : n ≤ maxLen) : (w.alloc (.cells cur e)).ownsRow w.heap.size e 1 (.slice (some ⟨w.heap.size, 0, none⟩) n n) n cur.toList :=
  ⟨by rw [Array.length_toList]; omega, .inr ⟨w.heap.size, n, cur, rfl, Nat.le_refl _, heap_alloc_new w _, Nat.le_refl _, hn, by omega, by rw [List.take_of_length_le (by rw [Array.length_toList]; omega)]⟩⟩
theorem made_list (z : Value) (hz : z.cells = #[z]) (n : Nat) : (madeCells z.cells (n * 1)).toList = (List.range n).map fun _ => z := by
  refine List.ext_getElem (by simp [madeCells]) fun i h1 h2 => ?_
  simp [madeCells, hz, Nat.mod_one]
theorem infoB : (Try.prog.info? 4).map (fun i => (i.zero, i.size, i.bytes)) = some (some (.bool false), 1, 1) := by kernel_rfl
/-- How many of the first k cells of a block are true. -/
def cnW (W : World) (g : Nat) : Nat → Nat
  | 0 => 0
  | k + 1 => (match W.cell? ⟨g, k, none⟩ with | some (.bool true) => 1 | _ => 0) + cnW W g k
theorem cnW_is {W : World} {Bb g n : Nat} {sn : Nat → Bool} (h : W.ownsRow Bb 4 1 (.slice (some ⟨g, 0, none⟩) n n) n (bls sn n)) : ∀ k, k ≤ n → cnW W g k = cnT sn k := by
  intro k
  induction k with
  | zero => intro _; rfl
  | succ k ih =>
    intro hk
    have hc := (h.cellAt k (by omega)).trans (bls_at (show k < n by omega))
    rw [cnW, ih (by omega), hc, cnT]
    cases sn k
    · simp
    · simp; omega
def one1 (v : Value) : Nat := match v with | .bool true => 1 | _ => 0

set_option maxRecDepth 100000 in
set_option maxHeartbeats 16000000 in
theorem show12 (ls : List Int) (A : Option Addr) (n m c s : Nat) (w : World) (hn6 : n ≤ 6) (hm : m ≤ 1048576) (hs : s < n) (hv : lkT ls (n : Int) m = true) (h1 : RdZ 3 w w.heap.size A m ls) :
    Calls Try.prog 81 #[.int .i64 (n : Int), .slice A m c, .int .i64 (s : Int)] w fun e w' => ∃ (g1 g2 : Nat) (sn : Nat → Bool) (of : Nat → Int), e = .returned (.tuple #[.slice (some ⟨g1, 0, none⟩) n n, .slice (some ⟨g2, 0, none⟩) n n, .bool (agB ls m s)]) ∧ Srch ls n m s sn of ∧ Closed ls m sn ∧ w'.ownsRow w.heap.size 4 1 (.slice (some ⟨g1, 0, none⟩) n n) n (bls sn n) ∧ w'.ownsRow w.heap.size 3 1 (.slice (some ⟨g2, 0, none⟩) n n) n (its of n) ∧ Below w.heap.size w w' := by
  have HV := Lib.hid (fun k (hk : k < m) => ln_nat (lkT_at hv hk))
  have HV2 := Lib.hid (fun k (hk : k < m) => lkT_at hv hk)
  have HR := Lib.hid h1
  obtain ⟨ib, hib, hb0, hb1, hb2⟩ := info_parts infoB
  obtain ⟨ii, hii, hi0, hi1, hi2⟩ := info_parts infoI
  have hsi : (s : Int) < (n : Int) := by omega
  have hs0 : (0 : Int) ≤ (s : Int) := Int.natCast_nonneg _
  obtain ⟨ZB, hZB⟩ : ∃ Z, Z = madeCells (Value.cells (.bool false)) (n * 1) := ⟨_, rfl⟩
  obtain ⟨ZI, hZI⟩ : ∃ Z, Z = madeCells (Value.cells (.int .i64 0)) (n * 1) := ⟨_, rfl⟩
  have MB : ∀ W : World, (Instr.makeSlice 91 (.int .i64 (n : Int)) (.int .i64 (n : Int))).run Try.prog W = .ok (.slice (some ⟨W.heap.size, 0, none⟩) n n) (W.alloc (.cells ZB 4)) := fun W => by
    have := run_makeSlice (P := Try.prog) W 91 4 ib (.bool false) Try.underlying91 hib hb0 .i64 .i64 (n : Int) (n : Int) (by omega) (Int.le_refl _) (by rw [hb1]; omega) (by rw [hb2]; omega) (by omega)
    rw [Int.toNat_natCast, hb1] at this
    rw [hZB]; exact this
  have MI : ∀ W : World, (Instr.makeSlice 38 (.int .i64 (n : Int)) (.int .i64 (n : Int))).run Try.prog W = .ok (.slice (some ⟨W.heap.size, 0, none⟩) n n) (W.alloc (.cells ZI 3)) := fun W => by
    have := run_makeSlice (P := Try.prog) W 38 3 ii (.int .i64 0) Try.underlying38 hii hi0 .i64 .i64 (n : Int) (n : Int) (by omega) (Int.le_refl _) (by rw [hi1]; omega) (by rw [hi2]; omega) (by omega)
    rw [Int.toNat_natCast, hi1] at this
    rw [hZI]; exact this
  have LB1 := Lib.hid (show ZB.toList = bls (fun _ => false) n by rw [hZB]; exact made_list (.bool false) rfl n)
  have LI1 := Lib.hid (show ZI.toList = its (fun _ => 0) n by rw [hZI]; exact made_list (.int .i64 0) rfl n)
  have SB := Lib.hid (show ZB.size = n by rw [hZB, size_madeCells]; omega)
  have SI := Lib.hid (show ZI.size = n by rw [hZI, size_madeCells]; omega)
  have hnl : n ≤ maxLen := by unfold maxLen; omega
  have OB1 := Lib.hid (fun (W : World) => show (W.alloc (.cells ZB 4)).ownsRow W.heap.size 4 1 (.slice (some ⟨W.heap.size, 0, none⟩) n n) n (bls (fun _ => false) n) from by rw [← LB1.out]; exact own_alloc W 4 ZB n SB.out hnl)
  have OI1 := Lib.hid (fun (W : World) => show (W.alloc (.cells ZI 3)).ownsRow W.heap.size 3 1 (.slice (some ⟨W.heap.size, 0, none⟩) n n) n (its (fun _ => 0) n) from by rw [← LI1.out]; exact own_alloc W 3 ZI n SI.out hnl)
  have XA := Lib.hid ((OB1.out w).alloc (.cells ZI 3))
  have XB := OI1.out (w.alloc (.cells ZB 4))
  have YB := Lib.hid ((OI1.out w).alloc (.cells ZB 4))
  have YA := OB1.out (w.alloc (.cells ZI 3))
  rw [World.size_alloc] at XB YA
  have XB := Lib.hid (own_.own_base XB (Nat.le_succ _))
  have YA := Lib.hid (own_.own_base YA (Nat.le_succ _))
  have BA := Lib.hid ((((Below.refl w.heap.size w).alloc (Nat.le_refl _) (.cells ZB 4)).alloc (by rw [World.size_alloc]; omega) (.cells ZI 3)).drew)
  have BB := Lib.hid ((((Below.refl w.heap.size w).alloc (Nat.le_refl _) (.cells ZI 3)).alloc (by rw [World.size_alloc]; omega) (.cells ZB 4)).drew)
  have HBEG := Lib.hid (Srch.begin (ls := ls) (m := m) hs)
  clear hv h1 LB1 LI1 SB SI OB1 OI1 hZB hZI hib hb0 hb1 hb2 hii hi0 hi1 hi2
  go_enter Try.func81, Try.ntmps81
  go_upto_region 1 with fail
  go_cut [9, 10] from 16 to 19 (fun p q wz => ∃ g1 g2 : Nat, p = .slice (some ⟨g1, 0, none⟩) n n ∧ q = .slice (some ⟨g2, 0, none⟩) n n ∧ g1 ≠ g2 ∧ wz.ownsRow w.heap.size 4 1 (.slice (some ⟨g1, 0, none⟩) n n) n (bls (fun _ => false) n) ∧ wz.ownsRow w.heap.size 3 1 (.slice (some ⟨g2, 0, none⟩) n n) n (its (fun _ => 0) n) ∧ Below w.heap.size w wz)
  case first =>
    go_region
    all_goals (try go_wp2)
    all_goals (
      go_meet
      first
      | exact ⟨_, _, rfl, rfl, by omega, XA.out.drew, XB.out.drew, BA.out⟩
      | exact ⟨_, _, rfl, rfl, by omega, YA.out.drew, YB.out.drew, BB.out⟩)
  case rest =>
    obtain ⟨g1, g2, rfl, rfl, hne, ho1, ho2, hb⟩ := hcut
    have hne2 : g2 ≠ g1 := fun h => hne h.symm
    have s0_ := (ho1.cellAt s (by omega)).trans (bls_at hs)
    have sf_ := ho1.frozenAt s
    have st := (ho1.stored s (.bool true)).1
    rw [bls_set] at st
    have O1 := Lib.hid st
    have O2 := Lib.hid (own_away ho2 hne2 s (.bool true))
    have HB0 := Lib.hid (hb.setCell (p := ⟨g1, s, none⟩) (own_.row_ge ho1 g1 rfl) (.bool true))
    clear st ho1 ho2 hb XA XB YA YB BA BB MB MI
    go_wp2_with fail
    clear s0_ sf_
    generalize wc.setCell ⟨g1, s, none⟩ (.bool true) = W0 at *
    go_loopw [11] (fun mv wr => ∃ (more : Bool) (sn : Nat → Bool) (of : Nat → Int), mv = .bool more ∧ Srch ls n m s sn of ∧ (more = false → Closed ls m sn) ∧ wr.ownsRow w.heap.size 4 1 (.slice (some ⟨g1, 0, none⟩) n n) n (bls sn n) ∧ wr.ownsRow w.heap.size 3 1 (.slice (some ⟨g2, 0, none⟩) n n) n (its of n) ∧ Below w.heap.size w wr) (fun mv wr => 2 * (n - cnW wr g1 n) + one1 mv)
    case atStart => exact ⟨true, _, _, rfl, HBEG.out, (by first | (intro h; cases h) | simp), O1.out, O2.out, HB0.out⟩
    case round =>
      obtain ⟨more, sn, of, rfl, hsr, hsh, ho1, ho2, hb⟩ := hrel
      clear O1 O2 HB0 HBEG
      cases more
      · have HSR := Lib.hid hsr
        have HSH := Lib.hid (hsh rfl)
        have HAG := Lib.hid (hsr.agree (hsh rfl))
        have P1 := Lib.hid ho1
        have P2 := Lib.hid ho2
        have HB := Lib.hid hb
        clear hsr hsh ho1 ho2 hb
        go_wp2_with fail
        go_loopw [14] (fun i wr => ∃ k : Nat, k ≤ m ∧ i = .int .i64 k ∧ okT ls sn of k = true ∧ wr.ownsRow w.heap.size 4 1 (.slice (some ⟨g1, 0, none⟩) n n) n (bls sn n) ∧ wr.ownsRow w.heap.size 3 1 (.slice (some ⟨g2, 0, none⟩) n n) n (its of n) ∧ Below w.heap.size w wr) (fun i _ => m - (intOf i).toNat)
        case atStart => exact ⟨0, Nat.zero_le _, rfl, rfl, P1.out, P2.out, HB.out⟩
        case round =>
          obtain ⟨k, hk, rfl, hok, ho1, ho2, hb⟩ := hrel
          clear P1 P2 HB
          by_cases hlt : k < m
          · have hlt2 : (k : Int) < (m : Int) := by omega
            obtain ⟨b1, o1, rfl, l1, p0, p1, p2⟩ := cells3 (HR.out.below hb (Nat.le_refl _)) hlt
            obtain ⟨e0, e1, f0, f1, f2, f3, f4⟩ := HV.out k hlt
            rw [e0] at p0
            rw [e1] at p1
            have HNO := Lib.hid (fun (h1 : sn (lF ls k) = true) (h2 : of (lT ls k) ≠ of (lF ls k) + lO ls k) => show agB ls m s = false by rw [← HAG.out]; exact okT_no hlt h1 h2)
            have HSt := Lib.hid (show okT ls sn of (k + 1) = (okT ls sn of k && (!sn (lF ls k) || decide (of (lT ls k) = of (lF ls k) + lO ls k))) from rfl)
            have HOK := Lib.hid hok
            have SM := HSR.out.small (lF ls k)
            have SC := cnT_le sn n
            have e9 : IntKind.i64.wrap (of (lF ls k) + lO ls k) = of (lF ls k) + lO ls k := IntWalk.i64_in _ (by omega)
            have q0 := (ho1.cellAt (lF ls k) (by omega)).trans (bls_at f0)
            have q1 := (ho2.cellAt (lF ls k) (by omega)).trans (its_at f0)
            have q2 := (ho2.cellAt (lT ls k) (by omega)).trans (its_at f1)
            have hg1 := own_lt ho1
            have hg2 := own_lt ho2
            have hlo : fld 3 ls k 2 = lO ls k := rfl
            rw [hlo] at p2
            clear e0 e1 SM SC hlo hok
            generalize lF ls k = a at *
            generalize lT ls k = b at *
            generalize lO ls k = z at *
            have f0i : (a : Int) < (n : Int) := by omega
            have f1i : (b : Int) < (n : Int) := by omega
            have a0i : (0 : Int) ≤ (a : Int) := Int.natCast_nonneg _
            have b0i : (0 : Int) ≤ (b : Int) := Int.natCast_nonneg _
            have Q1 := Lib.hid (ho1.alloc (.cells #[.int .i64 (a : Int), .int .i64 (b : Int), .int .i64 z] 50))
            have Q2 := Lib.hid (ho2.alloc (.cells #[.int .i64 (a : Int), .int .i64 (b : Int), .int .i64 z] 50))
            have HB2 := Lib.hid (hb.alloc hb.size (.cells #[.int .i64 (a : Int), .int .i64 (b : Int), .int .i64 z] 50))
            clear ho1 ho2 hb
            cases hsa : sn a
            · have HT := Lib.hid (show okT ls sn of (k + 1) = true by rw [HSt.out, HOK.out, hsa]; rfl)
              rw [hsa] at q0
              clear hsa HNO HSt HOK
              go_wp2_with fail
              go_quiet (fail)
              go_wp2_with fail
              go_roundw
              case rel => exact ⟨k + 1, by omega, by go_num, HT.out, own_.own_drewN Q1.out _, own_.own_drewN Q2.out _, aid.below_drewN HB2.out _⟩
              case measure => simp [intOf]; omega
            · rw [hsa] at q0
              generalize hoa : of a = oa at *
              generalize hob : of b = ob at *
              by_cases hd : ob = oa + z
              · have HT := Lib.hid (show okT ls sn of (k + 1) = true by rw [HSt.out, HOK.out, hsa, decide_eq_true hd]; rfl)
                clear hsa HNO HSt HOK hoa hob
                have de : (ob != oa + z) = false := by rw [hd]; simp
                go_wp2_with fail
                go_quiet (fail)
                go_wp2_with fail
                go_roundw
                case rel => exact ⟨k + 1, by omega, by go_num, HT.out, own_.own_drewN Q1.out _, own_.own_drewN Q2.out _, aid.below_drewN HB2.out _⟩
                case measure => simp [intOf]; omega
              · have HN := Lib.hid (HNO.out hsa hd)
                have de : (ob != oa + z) = true := bne_iff_ne.mpr hd
                clear hsa HNO HSt HOK hoa hob hd
                go_wp2_with fail
                go_quiet (fail)
                go_wp2_with fail
                go_ret3
                exact ⟨g1, g2, sn, of, by rw [HN.out]; rfl, HSR.out, HSH.out, own_.own_drewN Q1.out _, own_.own_drewN Q2.out _, aid.below_drewN HB2.out _⟩
          · obtain rfl : k = m := by omega
            have HN := Lib.hid (show agB ls k s = true by rw [← HAG.out, hok])
            have Q1 := Lib.hid ho1
            have Q2 := Lib.hid ho2
            have HB2 := Lib.hid hb
            clear ho1 ho2 hb hok
            go_wp2_with fail
            go_ret3
            exact ⟨g1, g2, sn, of, by rw [HN.out]; rfl, HSR.out, HSH.out, Q1.out, Q2.out, HB2.out⟩
      · have HCW := Lib.hid (cnW_is ho1 n (Nat.le_refl n))
        have HSR := Lib.hid hsr
        have P1 := Lib.hid ho1
        have P2 := Lib.hid ho2
        have HB := Lib.hid hb
        clear hsr hsh ho1 ho2 hb
        go_wp2_with fail
        go_loopw [11, 12] (fun mv i wz => ∃ (k : Nat) (more : Bool) (sn' : Nat → Bool) (of' : Nat → Int), k ≤ m ∧ i = .int .i64 k ∧ mv = .bool more ∧ Srch ls n m s sn' of' ∧ (more = false → Closed ls k sn') ∧ cnT sn n + one1 (.bool more) ≤ cnT sn' n ∧ wz.ownsRow w.heap.size 4 1 (.slice (some ⟨g1, 0, none⟩) n n) n (bls sn' n) ∧ wz.ownsRow w.heap.size 3 1 (.slice (some ⟨g2, 0, none⟩) n n) n (its of' n) ∧ Below w.heap.size w wz) (fun _ i _ => m - (intOf i).toNat)
        case atStart => exact ⟨0, false, sn, of, Nat.zero_le _, rfl, rfl, HSR.out, fun _ i hi => absurd hi (Nat.not_lt_zero _), Nat.le_refl _, P1.out, P2.out, HB.out⟩
        case round =>
          obtain ⟨k, more, sn', of', hk, rfl, rfl, hsr, hsh, hcn, ho1, ho2, hb⟩ := hrel
          clear P1 P2 HB
          have HSR' := Lib.hid hsr
          have HSH := Lib.hid hsh
          have HCN := Lib.hid hcn
          clear hsr hsh hcn
          by_cases hlt : k < m
          · have hlt2 : (k : Int) < (m : Int) := by omega
            obtain ⟨b1, o1, rfl, l1, p0, p1, p2⟩ := cells3 (HR.out.below hb (Nat.le_refl _)) hlt
            obtain ⟨e0, e1, f0, f1, f2, f3, f4⟩ := HV.out k hlt
            rw [e0] at p0
            rw [e1] at p1
            have HTO := Lib.hid (fun h1 h2 => HSR'.out.to hlt (HV2.out k hlt) h1 h2)
            have HFR := Lib.hid (fun h1 h2 => HSR'.out.fro hlt (HV2.out k hlt) h1 h2)
            have HSHK := Lib.hid (fun (h : more = false → sn' (lF ls k) = sn' (lT ls k)) (hm : more = false) => show Closed ls (k + 1) sn' from fun i hi => by
              by_cases e : i = k
              · rw [e]; exact h hm
              · exact HSH.out hm i (by omega))
            have HCT := Lib.hid (fun c (hc : c < n) (h : sn' c = false) => cnT_upd hc h)
            have SM := HSR'.out.small (lF ls k)
            have SN := HSR'.out.small (lT ls k)
            have SC := cnT_le sn' n
            have e8 : IntKind.i64.wrap (of' (lF ls k) + lO ls k) = of' (lF ls k) + lO ls k := IntWalk.i64_in _ (by omega)
            have e9 : IntKind.i64.wrap (of' (lT ls k) - lO ls k) = of' (lT ls k) - lO ls k := IntWalk.i64_in _ (by omega)
            have hlo : fld 3 ls k 2 = lO ls k := rfl
            rw [hlo] at p2
            clear e0 e1 SM SN SC hlo
            generalize lF ls k = a at *
            generalize lT ls k = b at *
            generalize lO ls k = z at *
            have f0i : (a : Int) < (n : Int) := by omega
            have f1i : (b : Int) < (n : Int) := by omega
            have a0i : (0 : Int) ≤ (a : Int) := Int.natCast_nonneg _
            have b0i : (0 : Int) ≤ (b : Int) := Int.natCast_nonneg _
            have Q1 := Lib.hid (ho1.alloc (.cells #[.int .i64 (a : Int), .int .i64 (b : Int), .int .i64 z] 50))
            have Q2 := Lib.hid (ho2.alloc (.cells #[.int .i64 (a : Int), .int .i64 (b : Int), .int .i64 z] 50))
            have HB2 := Lib.hid (hb.alloc hb.size (.cells #[.int .i64 (a : Int), .int .i64 (b : Int), .int .i64 z] 50))
            have BX := Lib.hid (newS 50 #[.int .i64 (a : Int), .int .i64 (b : Int), .int .i64 z] wr)
            have hg1 := own_lt ho1
            have hg2 := own_lt ho2
            clear ho1 ho2 hb
            go_upto_region 10 with fail
            clear p0 p1 p2
            generalize hwr : wr.heap.size = bx at *
            clear hwr
            generalize wr.alloc (.cells #[.int .i64 (a : Int), .int .i64 (b : Int), .int .i64 z] 50) = W1 at *
            have x0 : W1.cell? ⟨bx, 0, none⟩ = some (.int .i64 (a : Int)) := BX.out.cell 0
            have x1 : W1.cell? ⟨bx, 1, none⟩ = some (.int .i64 (b : Int)) := BX.out.cell 1
            have x2 : W1.cell? ⟨bx, 2, none⟩ = some (.int .i64 z) := BX.out.cell 2
            have q0 := (Q1.out.cellAt a (by omega)).trans (bls_at f0)
            have q1 := (Q1.out.cellAt b (by omega)).trans (bls_at f1)
            have q2 := (Q2.out.cellAt a (by omega)).trans (its_at f0)
            have q3 := (Q2.out.cellAt b (by omega)).trans (its_at f1)
            have r1 := Q1.out.frozenAt a
            have r2 := Q1.out.frozenAt b
            have r3 := Q2.out.frozenAt a
            have r4 := Q2.out.frozenAt b
            have n1 : g1 ≠ bx := by omega
            have n2 : g2 ≠ bx := by omega
            have n3 : bx ≠ g1 := by omega
            have n4 : bx ≠ g2 := by omega
            have l6 := own_.row_ge Q1.out g1 rfl
            have l7 := own_.row_ge Q2.out g2 rfl
            cases hsa : sn' a
            · cases hsb : sn' b
              · rw [hsa] at q0
                rw [hsb] at q1
                have HK := Lib.hid (HSHK.out (fun _ => by rw [hsa, hsb]))
                clear hsa hsb HTO HFR HSHK HCT
                go_wp2_with fail
                go_roundw
                case rel => exact ⟨k + 1, more, sn', of', by omega, by go_num, rfl, HSR'.out, HK.out, HCN.out, Q1.out, Q2.out, HB2.out⟩
                case measure => simp [intOf]; omega
              · rw [hsa] at q0
                rw [hsb] at q1
                have HK := Lib.hid (HFR.out hsb hsa)
                have HC := Lib.hid (HCT.out a f0 hsa)
                have T1 := Lib.hid (show ((W1.drew.setCell ⟨g2, a, none⟩ (.int .i64 (of' b - z))).setCell ⟨g1, a, none⟩ (.bool true)).ownsRow w.heap.size 4 1 (.slice (some ⟨g1, 0, none⟩) n n) n (bls (upd sn' a true) n) from by
                  have := ((own_away Q1.out.drew hne a (.int .i64 (of' b - z))).stored a (.bool true)).1
                  rw [bls_set] at this; exact this)
                have T2 := Lib.hid (show ((W1.drew.setCell ⟨g2, a, none⟩ (.int .i64 (of' b - z))).setCell ⟨g1, a, none⟩ (.bool true)).ownsRow w.heap.size 3 1 (.slice (some ⟨g2, 0, none⟩) n n) n (its (upd of' a (of' b - z)) n) from by
                  have := (Q2.out.drew.stored a (.int .i64 (of' b - z))).1
                  rw [its_set] at this
                  exact own_away this hne2 a (.bool true))
                have T3 := Lib.hid ((HB2.out.drew.setCell (p := ⟨g2, a, none⟩) l7 (.int .i64 (of' b - z))).setCell (p := ⟨g1, a, none⟩) l6 (.bool true))
                clear hsa hsb HTO HFR HSHK HCT Q1 Q2 HB2
                generalize of' a = oa at *
                generalize of' b = ob at *
                go_wp2_with fail
                go_region
                all_goals (try go_wp2)
                all_goals (
                  go_roundw
                  case rel => exact ⟨k + 1, true, _, _, by omega, by go_num, rfl, HK.out, fun h => (by cases h), (by have := HC.out; have := HCN.out; show _ + 1 ≤ _; omega), T1.out, T2.out, T3.out⟩
                  case measure => simp [intOf]; omega)
            · cases hsb : sn' b
              · rw [hsa] at q0
                rw [hsb] at q1
                have HK := Lib.hid (HTO.out hsa hsb)
                have HC := Lib.hid (HCT.out b f1 hsb)
                have T1 := Lib.hid (show ((W1.drew.setCell ⟨g2, b, none⟩ (.int .i64 (of' a + z))).setCell ⟨g1, b, none⟩ (.bool true)).ownsRow w.heap.size 4 1 (.slice (some ⟨g1, 0, none⟩) n n) n (bls (upd sn' b true) n) from by
                  have := ((own_away Q1.out.drew hne b (.int .i64 (of' a + z))).stored b (.bool true)).1
                  rw [bls_set] at this; exact this)
                have T2 := Lib.hid (show ((W1.drew.setCell ⟨g2, b, none⟩ (.int .i64 (of' a + z))).setCell ⟨g1, b, none⟩ (.bool true)).ownsRow w.heap.size 3 1 (.slice (some ⟨g2, 0, none⟩) n n) n (its (upd of' b (of' a + z)) n) from by
                  have := (Q2.out.drew.stored b (.int .i64 (of' a + z))).1
                  rw [its_set] at this
                  exact own_away this hne2 b (.bool true))
                have T3 := Lib.hid ((HB2.out.drew.setCell (p := ⟨g2, b, none⟩) l7 (.int .i64 (of' a + z))).setCell (p := ⟨g1, b, none⟩) l6 (.bool true))
                clear hsa hsb HTO HFR HSHK HCT Q1 Q2 HB2
                generalize of' a = oa at *
                generalize of' b = ob at *
                go_wp2_with fail
                go_region
                all_goals (try go_wp2)
                all_goals (
                  go_roundw
                  case rel => exact ⟨k + 1, true, _, _, by omega, by go_num, rfl, HK.out, fun h => (by cases h), (by have := HC.out; have := HCN.out; show _ + 1 ≤ _; omega), T1.out, T2.out, T3.out⟩
                  case measure => simp [intOf]; omega)
              · rw [hsa] at q0
                rw [hsb] at q1
                have HK := Lib.hid (HSHK.out (fun _ => by rw [hsa, hsb]))
                clear hsa hsb HTO HFR HSHK HCT
                go_wp2_with fail
                go_roundw
                case rel => exact ⟨k + 1, more, sn', of', by omega, by go_num, rfl, HSR'.out, HK.out, HCN.out, Q1.out, Q2.out, HB2.out⟩
                case measure => simp [intOf]; omega
          · obtain rfl : k = m := by omega
            have HCW2 := Lib.hid (cnW_is ho1 n (Nat.le_refl n))
            have Q1 := Lib.hid ho1
            have Q2 := Lib.hid ho2
            have HB2 := Lib.hid hb
            have CL := Lib.hid (cnT_le sn' n)
            clear ho1 ho2 hb
            go_wp2_with fail
            go_roundw
            case rel => exact ⟨more, sn', of', rfl, HSR'.out, HSH.out, Q1.out, Q2.out, HB2.out⟩
            case measure =>
              have h1 := HCW.out
              have h2 := HCW2.out
              have h3 := HCN.out
              have h4 := CL.out
              show 2 * (n - cnW _ g1 n) + one1 (.bool more) < 2 * (n - cnW _ g1 n) + 1
              rw [h1, h2]
              cases more <;> simp [one1] at h3 ⊢ <;> omega
end Go.Proofs.Ytndogafihaooiaa.lnkw
