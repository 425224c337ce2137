/- spec's draws of lists of Cleareds and of addresses. -/
import Derived.Test.YtglonedhoenkpaaDrawS18
namespace Go.Proofs.Ytglonedhoenkpaa.drawt18
set_option linter.unusedVariables false
set_option linter.unusedSimpArgs false
open Go.RowKit Go.Proofs.Ytglonedhoenkpaa.cur Go.Proofs.Ytglonedhoenkpaa.atc Go.Proofs.Ytglonedhoenkpaa.ats Go.Proofs.Ytglonedhoenkpaa.ints Go.Proofs.Ytglonedhoenkpaa.lst Go.Proofs.Ytglonedhoenkpaa.code_ Go.Proofs.Ytglonedhoenkpaa.draws18 Go.Proofs.Ytglonedhoenkpaa.lvl Go.Proofs.Ytglonedhoenkpaa.lvlv

theorem own_pos {w : World} {B e s n c : Nat} {A : Option Addr} {xs : List Value} (h : w.ownsRow B e s (.slice A n c) n xs) (hn : 0 < n) : ∃ g, A = some ⟨g, 0, none⟩ ∧ n ≤ c := by
  rcases h.2 with ⟨_, e2⟩ | ⟨g, cap, cur, e2, _, _, hle, _⟩
  · omega
  · injection e2 with e2 e3 e4
    subst e4
    exact ⟨g, e2, hle⟩
theorem ci_step (zs : List Int) (n : Nat) (a l u f t : Int) : ciN zs n a l u f t ≤ n + 1 := by
  cases h : ciB zs n a l u f t
  · rw [ciN_no h]; omega
  · rw [ciN_yes h]; exact Nat.le_refl _
def lenV : Value → Nat
  | .slice _ k _ => k
  | _ => 0
set_option maxRecDepth 100000 in
set_option maxHeartbeats 16000000 in
theorem clearances (p m : Nat) (w : World) (h : Cur w p m) (hm : m ≤ 100000) :
    Calls Try.prog 53 #[.pointer (some ⟨p, 0, none⟩)] w (LsQ p (m + 700) w) := by
  have hp := h.lt
  obtain ⟨i0, hi, hz0, hz1, hz2⟩ := info_parts lvle.infoS
  have O0 := Lib.hid (own_emptyZ w 26 5)
  have C0 := Lib.hid (h.keep ((Below.refl (p + 1) w).alloc (by omega) (.cells #[] 26)))
  have G0 := Lib.hid (show w.grownBy (w.alloc (.cells #[] 26)) (some p) from grown_alloc _ _)
  clear h
  go_enter Try.func53, Try.ntmps53
  go_upto_region 2 with fail
  generalize w.alloc (.cells #[] 26) = W at *
  go_wp2_with fail
  refine (pick p _ 8 W C0.out (by omega) (by omega) (by omega)).mono ?_
  rintro e w1 ⟨r, rfl, r0, r1, hc, hg⟩
  have O2 := Lib.hid (own_kept O0.out hg (fun g e => by cases e; exact hp))
  have G2 := Lib.hid (grown_trans G0.out hg)
  have C2 := Lib.hid hc
  clear hc hg O0 G0 C0
  obtain ⟨q0, rfl⟩ := Int.eq_ofNat_of_zero_le r0
  go_wp2_with fail
  go_loopw [3, 4] (fun v nv wr => ∃ (t k : Nat) (zs : List Int), t + k ≤ 7 ∧ nv = .int .i64 (t : Int) ∧ wr.ownsRow w.heap.size 26 5 v k (cellsI zs) ∧ Cur wr p (m + 300 - 40 * t) ∧ w.grownBy wr (some p)) (fun _ nv _ => (intOf nv).toNat)
  case atStart => exact ⟨q0, 0, [], by omega, rfl, O2.out, C2.out.more (by omega), G2.out⟩
  case round =>
    obtain ⟨t, k, zs, ht, rfl, ho, hc, hg⟩ := hrel
    clear O2 C2 G2
    obtain ⟨A3, c3, rfl, hcap⟩ := own_cap ho
    have O3 := Lib.hid ho
    have C3 := Lib.hid hc
    have G3 := Lib.hid hg
    clear ho hc hg
    by_cases hlt : 0 < t
    · have hlt2 : (0 : Int) < (t : Int) := by omega
      have e4 : IntKind.i64.wrap ((t : Int) - 1) = (t : Int) - 1 := IntWalk.i64_in _ (by omega)
      go_wp2_with fail
      refine (cleared p _ wr C3.out (by omega)).mono ?_
      rintro e w4 ⟨x0, x1, x2, x3, x4, rfl, hc, hg⟩
      have O4 := Lib.hid (own_kept O3.out hg (fun g e => by cases e; exact hp))
      have G4 := Lib.hid (grown_trans G3.out hg)
      have C4 := Lib.hid hc
      clear hc hg O3 G3 C3
      have K4 := Lib.hid (lvlw.clearLevels zs x0 x1 x2 x3 x4 A3 k c3 w4 hcap (by omega) (RdZ.of_own O4.out (own_len5 O4.out)))
      have hst := ci_step zs k x0 x1 x2 x3 x4
      go_wp2_with fail
      refine K4.out.mono ?_
      rintro e w5 ⟨v5, rfl, ho5, hb5⟩
      have O5 := Lib.hid (own_.own_below O4.out hb5)
      have N5 := Lib.hid (own_.own_base ho5 G4.out.size)
      have C5 := Lib.hid (Cur.below C4.out hb5)
      have G5 := Lib.hid (grown_trans G4.out (grown_below hb5))
      clear ho5 hb5 O4 C4 G4 K4
      generalize ciV zs k x0 x1 x2 x3 x4 = ys at *
      generalize ciN zs k x0 x1 x2 x3 x4 = kk at *
      generalize ciB zs k x0 x1 x2 x3 x4 = bb at *
      cases bb
      · go_wp2_with fail
        go_roundw
        case rel => exact ⟨t - 1, k, zs, by omega, (by show Value.int .i64 _ = Value.int .i64 _; congr 1; omega), O5.out, C5.out.more (by omega), G5.out⟩
        case measure => simp [intOf]; omega
      · go_wp2_with fail
        go_roundw
        case rel => exact ⟨t - 1, kk, ys, by omega, (by show Value.int .i64 _ = Value.int .i64 _; congr 1; omega), N5.out, C5.out.more (by omega), G5.out⟩
        case measure => simp [intOf]; omega
    · obtain rfl : t = 0 := by omega
      by_cases hk0 : k = 0
      · have hk0b : ((k : Int) == 0) = true := by rw [hk0]; rfl
        have hk0c : (k == 0) = true := by rw [hk0]; rfl
        have HK0 := Lib.hid hk0
        clear hk0
        go_wp2_with fail
        go_ret
        exact ⟨_, k, zs, rfl, O3.out, by omega, C3.out.more (by omega), G3.out⟩
      · have hk0b : ((k : Int) == 0) = false := beq_eq_false_iff_ne.mpr (by omega)
        have hk0c : (k == 0) = false := beq_eq_false_iff_ne.mpr hk0
        go_wp2_with fail
        refine (pick p _ 24 wr C3.out (by omega) (by omega) (by omega)).mono ?_
        rintro e w4 ⟨i, rfl, i0', i1', hc, hg⟩
        have O4 := Lib.hid (own_kept O3.out hg (fun g e => by cases e; exact hp))
        have G4 := Lib.hid (grown_trans G3.out hg)
        have C4 := Lib.hid hc
        clear hc hg O3 G3 C3
        by_cases h0 : i = 0
        · subst h0
          obtain ⟨g, rfl, -⟩ := own_pos O4.out (by omega)
          go_wp2_with fail
          refine (pick p _ (k : Int) w4 C4.out (by omega) (by omega) (by omega)).mono ?_
          rintro e w6 ⟨jj, rfl, j0', j1', hc, hg⟩
          have O6 := Lib.hid (own_kept O4.out hg (fun g e => by cases e; exact hp))
          have G6 := Lib.hid (grown_trans G4.out hg)
          have C6 := Lib.hid hc
          clear hc hg O4 G4 C4
          obtain ⟨j, rfl⟩ := Int.eq_ofNat_of_zero_le j0'
          have hjk : j < k := by omega
          have hjki : (j : Int) < (k : Int) := by omega
          go_wp2_with fail
          refine (cleared p _ w6 C6.out (by omega)).mono ?_
          rintro e w7 ⟨x0, x1, x2, x3, x4, rfl, hc, hg⟩
          have O7 := Lib.hid (own_kept O6.out hg (fun g e => by cases e; exact hp))
          have G7 := Lib.hid (grown_trans G6.out hg)
          have C7 := Lib.hid hc
          clear hc hg O6 G6 C6
          have hpg : p < g := Nat.lt_of_lt_of_le hp (own_ge O7.out)
          have hwg : w.heap.size ≤ g := own_ge O7.out
          have y0 : w7.cell? ⟨g, j * 5, none⟩ = some (.int .i64 (zs.getD (j * 5) 0)) := own_cells O7.out (by omega)
          have y1 : w7.cell? ⟨g, j * 5 + 1, none⟩ = some (.int .i64 (zs.getD (j * 5 + 1) 0)) := own_cells O7.out (by omega)
          have y2 : w7.cell? ⟨g, j * 5 + 2, none⟩ = some (.int .i64 (zs.getD (j * 5 + 2) 0)) := own_cells O7.out (by omega)
          have y3 : w7.cell? ⟨g, j * 5 + 3, none⟩ = some (.int .i64 (zs.getD (j * 5 + 3) 0)) := own_cells O7.out (by omega)
          have y4 : w7.cell? ⟨g, j * 5 + 4, none⟩ = some (.int .i64 (zs.getD (j * 5 + 4) 0)) := own_cells O7.out (by omega)
          have f0 := O7.out.frozenAt (j * 5)
          have f1 := O7.out.frozenAt (j * 5 + 1)
          have f2 := O7.out.frozenAt (j * 5 + 2)
          have f3 := O7.out.frozenAt (j * 5 + 3)
          have f4 := O7.out.frozenAt (j * 5 + 4)
          have O8 := Lib.hid (own_setI (own_setI (own_setI (own_setI (own_setI O7.out (j * 5) x0) (j * 5 + 1) x1) (j * 5 + 2) x2) (j * 5 + 3) x3) (j * 5 + 4) x4)
          have C8 := Lib.hid (Cur.set (Cur.set (Cur.set (Cur.set (Cur.set C7.out hpg (i := j * 5) (v := .int .i64 x0)) hpg (i := j * 5 + 1) (v := .int .i64 x1)) hpg (i := j * 5 + 2) (v := .int .i64 x2)) hpg (i := j * 5 + 3) (v := .int .i64 x3)) hpg (i := j * 5 + 4) (v := .int .i64 x4))
          have G8 := Lib.hid (grown_put (grown_put (grown_put (grown_put (grown_put G7.out hwg (i := j * 5) (v := .int .i64 x0)) hwg (i := j * 5 + 1) (v := .int .i64 x1)) hwg (i := j * 5 + 2) (v := .int .i64 x2)) hwg (i := j * 5 + 3) (v := .int .i64 x3)) hwg (i := j * 5 + 4) (v := .int .i64 x4))
          clear O7 C7 G7
          generalize (zs.getD (j * 5) 0) = z0 at y0
          generalize (zs.getD (j * 5 + 1) 0) = z1 at y1
          generalize (zs.getD (j * 5 + 2) 0) = z2 at y2
          generalize (zs.getD (j * 5 + 3) 0) = z3 at y3
          generalize (zs.getD (j * 5 + 4) 0) = z4 at y4
          go_wp2_with fail
          go_ret
          exact ⟨_, k, _, rfl, O8.out, by omega, C8.out.more (by omega), G8.out⟩
        have d0 : (i == 0) = false := by simpa using h0
        by_cases h1 : i = 1
        · subst h1
          go_wp2_with fail
          go_loopw [3, 7] (fun v nv wr => ∃ (l : Nat) (A' : Option Addr) (c' : Nat) (q : Int) (ys : List Int), l ≤ 12 ∧ 100 ≤ q ∧ q ≤ 100 + l ∧ v = .slice A' l c' ∧ nv = .int .i64 q ∧ wr.ownsRow w.heap.size 26 5 (.slice A' l c') l (cellsI ys) ∧ Cur wr p (m + 400 + 10 * l) ∧ w.grownBy wr (some p)) (fun v _ _ => 12 - lenV v)
          case atStart => exact ⟨k, A3, c3, 100, zs, by omega, by omega, by omega, rfl, rfl, O4.out, C4.out.more (by omega), G4.out⟩
          case round =>
            obtain ⟨l, A', c', q, ys, hl, hq0, hq1, rfl, rfl, ho, hc, hg⟩ := hrel
            clear O4 C4 G4
            have O5 := Lib.hid ho
            have C5 := Lib.hid hc
            have G5 := Lib.hid hg
            clear ho hc hg
            go_wp2_with fail
            refine (pick p _ 2 wr C5.out (by omega) (by omega) (by omega)).mono ?_
            rintro e w7 ⟨r, rfl, r0, r1, hc, hg⟩
            have O7 := Lib.hid (own_kept O5.out hg (fun g e => by cases e; exact hp))
            have G7 := Lib.hid (grown_trans G5.out hg)
            have C7 := Lib.hid hc
            clear hc hg O5 G5 C5
            have HSZ := Lib.hid G7.out.size
            have e5 : IntKind.i64.wrap (10 + r) = 10 + r := IntWalk.i64_in _ (by omega)
            have e6 : IntKind.i64.wrap (q + 1) = q + 1 := IntWalk.i64_in _ (by omega)
            by_cases hlt3 : (l : Int) < 10 + r
            · go_wp2_with (at_builtin; refine wpList_append_own _ rfl (.tmp 50) (.tmp 55) 24 rfl w.heap.size 26 i0 (.agg #[.int .i64 0, .int .i64 0, .int .i64 0, .int .i64 0, .int .i64 0]) 5 40 Try.underlying24 hi hz0 hz1 hz2 rfl (by decide) _ l (cellsI ys) rfl (O7.out.alloc _) ⟨w7.heap.size, 0, none⟩ 1 1 [.int .i64 65535, .int .i64 300, .int .i64 300, .int .i64 q, .int .i64 (q + 1)] rfl rfl (cells_new w7 26 #[.int .i64 65535, .int .i64 300, .int .i64 300, .int .i64 q, .int .i64 (q + 1)]) (five_cells _ _ _ _ _) (by unfold maxLen; omega) (by omega) (by have := HSZ.out; simp; omega) ?_; intro v' w9 hown' hgrow hnil)
              have C9 := Lib.hid (cur_append C7.out O7.out hp HSZ.out hgrow)
              have G9 := Lib.hid (grown_append G7.out O7.out (Nat.le_refl _) hgrow)
              have O9 := Lib.hid (own_grow5 hown')
              clear hown' hgrow hnil O7 C7 G7 HSZ
              obtain ⟨A9, c9, rfl⟩ := own_sliceZ O9.out
              go_wp2_with fail
              go_roundw
              case rel => exact ⟨l + 1, A9, c9, q + 1, _, by omega, by omega, by omega, rfl, rfl, O9.out, C9.out.more (by omega), G9.out⟩
              case measure => simp [lenV]; omega
            · have hlt4 : ¬ (l : Int) < 10 + r := hlt3
              go_wp2_with fail
              go_ret
              exact ⟨_, l, ys, rfl, O7.out, by omega, C7.out.more (by omega), G7.out⟩
        have d1 : (i == 1) = false := by simpa using h1
        go_wp2_with fail
        go_ret
        exact ⟨_, k, zs, rfl, O4.out, by omega, C4.out.more (by omega), G4.out⟩

set_option maxRecDepth 100000 in
set_option maxHeartbeats 4000000 in
theorem address18 (p m : Nat) (w : World) (h : Cur w p m) (hm : m ≤ 200000) :
    Calls Try.prog 68 #[.pointer (some ⟨p, 0, none⟩)] w (IdQ p (m + 10) w) := by
  have hp := h.lt
  have BW := Lib.hid (show ∀ x ∈ ([1, 7, 300, 65535, 0, 65536] : List Int), 0 ≤ x ∧ x ≤ 65536 by decide)
  go_enter Try.func68, Try.ntmps68
  go_wp2_with fail
  refine (pick p _ 24 (w.alloc (.cells #[.int .i64 1, .int .i64 7, .int .i64 300, .int .i64 65535, .int .i64 0, .int .i64 65536] 3)) (Cur.alloc h (.cells #[.int .i64 1, .int .i64 7, .int .i64 300, .int .i64 65535, .int .i64 0, .int .i64 65536] 3)) (by omega) (by omega) (by omega)).mono ?_
  rintro e w2 ⟨r, rfl, r0, r1, hc2, hg2⟩
  obtain ⟨rn, rfl⟩ := Int.eq_ofNat_of_zero_le r0
  obtain ⟨q, hq⟩ : ∃ q, q = rn / 11 := ⟨_, rfl⟩
  have q1 : (rn : Int).tdiv 11 = (q : Int) := by rw [hq]; rfl
  have e1 : IntKind.i64.wrap ((rn : Int).tdiv 11) = (q : Int) := by rw [q1, IntWalk.i64_in _ (by omega)]
  have e2 : IntKind.i64.wrap (4 + (q : Int)) = ((4 + q : Nat) : Int) := by rw [IntWalk.i64_in _ (by omega)]; omega
  have hq7 : 4 + rn / 11 ≤ 6 := by omega
  have hq7i : ((4 + q : Nat) : Int) ≤ 6 := by omega
  have hq0i : (0 : Int) ≤ ((4 + q : Nat) : Int) := Int.natCast_nonneg _
  have HG2 := Lib.hid hg2
  have HC2 := Lib.hid hc2
  have HP := Lib.hid hp
  clear hc2 hg2 hq q1 h
  go_wp2_with fail
  refine (among_old 0 65536 p _ (4 + rn / 11) 6 _ [1, 7, 300, 65535, 0, 65536] _ w w2 HC2.out (by omega) HG2.out rfl HP.out rfl rfl (by omega) hq7 (by omega) BW.out).mono ?_
  rintro e w3 ⟨t, rfl, t0, t1, hc3, hg3⟩
  have HR := Lib.hid (show IdQ p (m + 10) w (.returned (.int .i64 t)) w3 from ⟨t, rfl, hc3.more (by omega), grown_trans (grown_trans (grown_alloc _ _) HG2.out) hg3⟩)
  clear hc3 hg3
  go_wp2_with fail
  go_ret
  exact HR.out
end Go.Proofs.Ytglonedhoenkpaa.drawt18
