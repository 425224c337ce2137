/- spec's draws of links. -/
import Derived.Test.YtndogafihaooiaaDrawT12
import Derived.Test.YtndogafihaooiaaLnkA
import Derived.Test.YtndogafihaooiaaLnkE
namespace Go.Proofs.Ytndogafihaooiaa.drawu12
open Go.RowKit Go.Proofs.Ytndogafihaooiaa.cur Go.Proofs.Ytndogafihaooiaa.atc Go.Proofs.Ytndogafihaooiaa.ats Go.Proofs.Ytndogafihaooiaa.ints Go.Proofs.Ytndogafihaooiaa.lst Go.Proofs.Ytndogafihaooiaa.code_ Go.Proofs.Ytndogafihaooiaa.draws12 Go.Proofs.Ytndogafihaooiaa.drawt12 Go.Proofs.Ytndogafihaooiaa.que Go.Proofs.Ytndogafihaooiaa.lnka

theorem own_len3 {w : World} {B e n : Nat} {v : Value} {xs : List Int} (h : w.ownsRow B e 3 v n (cellsI xs)) : xs.length = n * 3 := by have := h.1; unfold cellsI at this; simpa using this
theorem app3 {zs : List Int} {x y z : Int} (h : Sml zs) (hx : -100000000 ≤ x ∧ x ≤ 100000000) (hy : -100000000 ≤ y ∧ y ≤ 100000000) (hz : -100000000 ≤ z ∧ z ≤ 100000000) : Sml (zs ++ [x, y, z]) := by
  intro u hu
  rcases List.mem_append.1 hu with hu | hu
  · exact h u hu
  · simp only [List.mem_cons, List.not_mem_nil, or_false] at hu
    rcases hu with rfl | rfl | rfl
    · exact hx
    · exact hy
    · exact hz
theorem sml_fld {zs : List Int} (h : Sml zs) (k j : Nat) : -100000000 ≤ fld 3 zs k j ∧ fld 3 zs k j ≤ 100000000 := by
  unfold lst.fld
  rw [List.getD_eq_getElem?_getD]
  cases e : zs[k * 3 + j]? with
  | none => simp
  | some x => exact h x (List.mem_of_getElem? e)
theorem sml_set {zs : List Int} {j : Nat} {x : Int} (h : Sml zs) (hx : -100000000 ≤ x ∧ x ≤ 100000000) : Sml (zs.set j x) := by
  intro u hu
  rcases List.mem_or_eq_of_mem_set hu with hu | rfl
  · exact h u hu
  · exact hx
theorem ends3 {w W : World} {p m B g n c k : Nat} {zs : List Int} (x y z : Int) (ho : W.ownsRow B 50 3 (.slice (some ⟨g, 0, none⟩) n c) n (cellsI zs)) (hc : Cur W p m) (hg : w.grownBy W (some p)) (hp : p < B) (hB : w.heap.size ≤ B) :
    (((W.setCell ⟨g, k * 3, none⟩ (.int .i64 x)).setCell ⟨g, k * 3 + 1, none⟩ (.int .i64 y)).setCell ⟨g, k * 3 + 2, none⟩ (.int .i64 z)).ownsRow B 50 3 (.slice (some ⟨g, 0, none⟩) n c) n (cellsI (((zs.set (k * 3) x).set (k * 3 + 1) y).set (k * 3 + 2) z)) ∧ Cur (((W.setCell ⟨g, k * 3, none⟩ (.int .i64 x)).setCell ⟨g, k * 3 + 1, none⟩ (.int .i64 y)).setCell ⟨g, k * 3 + 2, none⟩ (.int .i64 z)) p m ∧ w.grownBy (((W.setCell ⟨g, k * 3, none⟩ (.int .i64 x)).setCell ⟨g, k * 3 + 1, none⟩ (.int .i64 y)).setCell ⟨g, k * 3 + 2, none⟩ (.int .i64 z)) (some p) := by
  have hgB := own_.row_ge ho g rfl
  have s1 := (ho.stored (k * 3) (.int .i64 x)).1
  rw [cells_set] at s1
  have s2 := (s1.stored (k * 3 + 1) (.int .i64 y)).1
  rw [cells_set] at s2
  have s3 := (s2.stored (k * 3 + 2) (.int .i64 z)).1
  rw [cells_set] at s3
  have hpg : p < g := by omega
  exact ⟨s3, Cur.set (Cur.set (Cur.set hc hpg) hpg) hpg, grown_put (grown_put (grown_put hg (by omega)) (by omega)) (by omega)⟩
theorem own_pos3 {w : World} {B e s n : Nat} {v : Value} {xs : List Value} (h : w.ownsRow B e s v n xs) (hn : 0 < n) : ∃ g c, v = .slice (some ⟨g, 0, none⟩) n c ∧ n ≤ c ∧ B ≤ g := by
  rcases h.2 with ⟨_, e2⟩ | ⟨g, cap, cur, e2, _, _, hle, _⟩
  · omega
  · exact ⟨g, cap, e2, hle, own_.row_ge h g (by rw [e2]; rfl)⟩
theorem cur_step {W w1 : World} {p m B e n : Nat} {v : Value} {xs : List Value} (hc : Cur W p m) (h : W.ownsRow B e 3 v n xs) (hB : p < B) (hs : B ≤ W.heap.size) (ha : W.grownBy w1 v.ownBlock) : Cur w1 p m :=
  hc.keep ((Below.refl (p + 1) W).grown ha (by omega) (fun k e => by have := own_.row_ge h k e; omega))
theorem grown_step {w W w1 : World} {p B e n : Nat} {v : Value} {xs : List Value} (hg : w.grownBy W (some p)) (h : W.ownsRow B e 3 v n xs) (hB : w.heap.size ≤ B) (ha : W.grownBy w1 v.ownBlock) : w.grownBy w1 (some p) :=
  ⟨ha.os.trans hg.os, ha.tape.trans hg.tape, ha.output.trans hg.output, Nat.le_trans hg.size ha.size, fun k hk hne => by
    have h1 := ha.block k (by have := hg.size; omega) (fun e => by have := own_.row_ge h k e.symm; omega)
    exact h1.trans (hg.block k hk hne)⟩
theorem own_low {w w' : World} {B B1 e s n g c : Nat} {xs : List Value} (h : w.ownsRow B e s (.slice (some ⟨g, 0, none⟩) n c) n xs) (hb : Below B1 w w') (hg : g < B1) : w'.ownsRow B e s (.slice (some ⟨g, 0, none⟩) n c) n xs :=
  ⟨h.1, h.2.imp id (fun ⟨g', cap, cur, a, b, c, d⟩ => ⟨g', cap, cur, a, b, (by
    injection a with a1
    injection a1 with a1
    injection a1 with a1
    subst a1
    rw [hb.block g hg]
    exact c), d⟩)⟩
theorem grown_low {w W w1 : World} {p B : Nat} (hg : w.grownBy W (some p)) (hb : Below B W w1) (hB : w.heap.size ≤ B) : w.grownBy w1 (some p) :=
  ⟨hb.os.trans hg.os, hb.tape.trans hg.tape, hb.output.trans hg.output, Nat.le_trans hg.size hb.size, fun k hk hne => (hb.block k (by omega)).trans (hg.block k hk hne)⟩
theorem ints_at {w : World} {B g n c k : Nat} {ss : List Int} (h : w.ownsRow B 3 1 (.slice (some ⟨g, 0, none⟩) n c) n (cellsI ss)) (hk : k < n) (hs : ∀ x ∈ ss, -100 ≤ x ∧ x ≤ 100) : ∃ a : Int, w.cell? ⟨g, k, none⟩ = some (.int .i64 a) ∧ -100 ≤ a ∧ a ≤ 100 := by
  have hl := h.1
  unfold cellsI at hl
  rw [List.length_map] at hl
  refine ⟨ss[k]'(by omega), ?_, hs _ (List.getElem_mem _)⟩
  rw [h.cellAt k (by omega)]
  unfold cellsI
  rw [List.getElem?_map, List.getElem?_eq_getElem (by omega)]; rfl
def LQ (p m : Nat) (w : World) (e : Ending) (w' : World) : Prop := ∃ (n : Int) (v : Value) (k : Nat) (zs : List Int), e = .returned (.tuple #[.int .i64 n, v]) ∧ 0 ≤ n ∧ n ≤ 7 ∧ w'.ownsRow w.heap.size 50 3 v k (cellsI zs) ∧ k ≤ 14 ∧ Cur w' p m ∧ w.grownBy w' (some p)

set_option maxRecDepth 100000 in
set_option maxHeartbeats 16000000 in
theorem clockLinks (p m : Nat) (w : World) (h : Cur w p m) (hm : m ≤ 100000) :
    Calls Try.prog 75 #[.pointer (some ⟨p, 0, none⟩)] w (LQ p (m + 3000) w) := by
  have hp := h.lt
  obtain ⟨i0, hi, hz0, hz1, hz2⟩ := info_parts infoI
  obtain ⟨j0, hj, jz0, jz1, jz2⟩ := info_parts infoL
  have HC0 := Lib.hid h
  clear h
  go_enter Try.func75, Try.ntmps75
  go_wp2_with fail
  refine (pick p _ 6 w HC0.out (by omega) (by omega) (by omega)).mono ?_
  rintro e w1 ⟨r, rfl, r0, r1, hc1, hg1⟩
  obtain ⟨q, rfl⟩ := Int.eq_ofNat_of_zero_le r0
  have e0 : IntKind.i64.wrap (1 + (q : Int)) = ((q + 1 : Nat) : Int) := by rw [IntWalk.i64_in _ (by omega)]; omega
  obtain ⟨n, hn⟩ : ∃ n, n = q + 1 := ⟨_, rfl⟩
  rw [← hn] at e0
  have hn1 : 1 ≤ n := by omega
  have hn6 : n ≤ 6 := by omega
  have hs1 := hg1.size
  have O1 := Lib.hid (own_.own_base (show (w1.alloc (.cells #[.int .i64 0] 3)).ownsRow w1.heap.size 3 1 (.slice (some ⟨w1.heap.size, 0, none⟩) 1 1) 1 (cellsI [0]) from lnkw.own_alloc w1 3 #[.int .i64 0] 1 rfl (by unfold maxLen; omega)) hs1)
  have HC1 := Lib.hid (Cur.alloc hc1 (.cells #[.int .i64 0] 3))
  have HG1 := Lib.hid (grown_trans hg1 (grown_alloc (.cells #[.int .i64 0] 3) (some p)))
  clear hc1 hg1 r0 r1 hn HC0 hs1
  go_upto_region 3 with fail
  generalize w1.alloc (.cells #[.int .i64 0] 3) = W1 at *
  go_upto_block 0 with fail
  go_cut [5, 6] from 18 to 28 (fun sv iv wz => ∃ (g c : Nat) (ss : List Int), sv = .slice (some ⟨g, 0, none⟩) n c ∧ wz.ownsRow w.heap.size 3 1 (.slice (some ⟨g, 0, none⟩) n c) n (cellsI ss) ∧ (∀ x ∈ ss, -100 ≤ x ∧ x ≤ 100) ∧ Cur wz p (m + 200) ∧ w.grownBy wz (some p))
  case first =>
    go_wp2_with fail
    go_loopw [5, 6] (fun sv iv wr => ∃ (t g c : Nat) (ss : List Int), 1 ≤ t ∧ t ≤ n ∧ iv = .int .i64 (t : Int) ∧ sv = .slice (some ⟨g, 0, none⟩) t c ∧ wr.ownsRow w.heap.size 3 1 (.slice (some ⟨g, 0, none⟩) t c) t (cellsI ss) ∧ (∀ x ∈ ss, -100 ≤ x ∧ x ≤ 100) ∧ Cur wr p (m + 20 + 20 * t) ∧ w.grownBy wr (some p)) (fun _ iv _ => n - (intOf iv).toNat)
    case atStart => exact ⟨1, _, 1, [0], Nat.le_refl _, hn1, rfl, rfl, O1.out, by decide, HC1.out.more (by omega), HG1.out⟩
    case round =>
      obtain ⟨t, g, c, ss, ht1, htn, rfl, rfl, ho, hss, hc, hg⟩ := hrel
      clear O1 HC1 HG1
      by_cases hlt : t < n
      · have hlt2 : (t : Int) < (n : Int) := by omega
        go_wp2_with fail
        refine (among_new (-7) 100 p _ 4 [5, -7, 20, 100] _ wr hc (by omega) (by omega) (by omega) rfl rfl (by decide)).mono ?_
        rintro e w4 ⟨a, rfl, a0, a1, hc4, hg4⟩
        have p1 := own_kept ho hg4 (fun g e => by cases e; exact hp)
        have hg5 := grown_trans hg hg4
        have hs5 := hg5.size
        have hbs : w.heap.size ≤ (w4.alloc (.cells #[.int .i64 a] 3)).heap.size := by rw [World.size_alloc]; omega
        clear ho hc hg hg4
        go_wp2_with (at_builtin; refine wpList_append_one _ rfl (.tmp 23) (.tmp 27) 38 rfl w.heap.size 3 i0 (.int .i64 0) Try.underlying38 hi hz0 hz1 hz2 rfl g t c (cellsI ss) rfl (p1.alloc _) ⟨w4.heap.size, 0, none⟩ 1 (.int .i64 a) rfl ((newS 3 #[.int .i64 a] w4).cell 0) rfl (by omega) hbs ?_; intro g3 c3 w5 b1 b2 b3 b4)
        have hc5 := Lib.hid (cur_append hc4 p1 hp hs5 b3)
        have hg6 := Lib.hid (grown_append hg5 p1 (Nat.le_refl _) b3)
        rw [cells_app] at b1
        have P1 := Lib.hid b1
        have HSS := Lib.hid (show ∀ x ∈ ss ++ [a], -100 ≤ x ∧ x ≤ 100 from fun x hx => by
          rcases List.mem_append.1 hx with hx | hx
          · exact hss x hx
          · obtain rfl := List.mem_singleton.1 hx
            omega)
        clear b1 b3 b4 p1 hc4 hg5 hs5 hbs hss
        go_wp2_with fail
        go_roundw
        case rel => exact ⟨t + 1, g3, c3, _, by omega, by omega, by go_num, rfl, P1.out, HSS.out, hc5.out.more (by omega), hg6.out⟩
        case measure => simp [intOf]; omega
      · obtain rfl : t = n := by omega
        have HO := Lib.hid ho
        have HS := Lib.hid hss
        have HC := Lib.hid hc
        have HG := Lib.hid hg
        clear ho hss hc hg
        go_wp2_with fail
        go_meet
        exact ⟨g, c, ss, rfl, HO.out, HS.out, HC.out.more (by omega), HG.out⟩
  case rest =>
    obtain ⟨gs, cs, ss, rfl, hos, hss, hc, hg⟩ := hcut
    clear O1 HC1 HG1
    have HSS := Lib.hid hss
    have HOS := Lib.hid hos
    have HC := Lib.hid hc
    have HG := Lib.hid hg
    clear hos hss hc hg
    obtain ⟨B1, hB1⟩ : ∃ B1, wc.heap.size = B1 := ⟨_, rfl⟩
    have HGS := Lib.hid (show gs < B1 by rw [← hB1]; exact own_lt HOS.out)
    have hB0 : w.heap.size ≤ B1 := by have := HG.out.size; omega
    have hpB : p < B1 := by omega
    have OV0 := own_emptyZ wc 50 3
    rw [hB1] at OV0
    have HX0 := Lib.hid (HOS.out.alloc (.cells #[] 50))
    have HCX := Lib.hid (Cur.alloc HC.out (.cells #[] 50))
    have HGX := Lib.hid (grown_trans HG.out (grown_alloc (.cells #[] 50) (some p)))
    have HS2 := Lib.hid (show B1 ≤ (wc.alloc (.cells #[] 50)).heap.size by rw [World.size_alloc]; omega)
    have OV0 := Lib.hid OV0
    clear HOS HC HG
    go_upto_region 8 with fail
    generalize wc.alloc (.cells #[] 50) = W2 at *
    clear hB1
    go_wp2_with fail
    refine (pick p _ 8 W2 HCX.out (by omega) (by omega) (by omega)).mono ?_
    rintro e w3 ⟨r, rfl, r0, r1, hc3, hg3⟩
    obtain ⟨t0, rfl⟩ := Int.eq_ofNat_of_zero_le r0
    have HB1 := Lib.hid (Nat.le_trans HS2.out hg3.size)
    have OV := Lib.hid (own_kept OV0.out hg3 (fun g e => by cases e; exact hpB))
    have HOS := Lib.hid (own_kept HX0.out hg3 (fun g e => by cases e; exact hp))
    have HC := Lib.hid hc3
    have HG := Lib.hid (grown_trans HGX.out hg3)
    clear hc3 hg3 OV0 HX0 HCX HGX HS2 r0
    go_upto_block 2 with fail
    go_cut [7, 8, 9, 10] from 32 to 66 (fun v kv fv tv wz => ∃ (l g c : Nat) (zs : List Int), v = .slice (some ⟨g, 0, none⟩) l c ∧ wz.ownsRow B1 50 3 (.slice (some ⟨g, 0, none⟩) l c) l (cellsI zs) ∧ Sml zs ∧ l ≤ 7 ∧ wz.ownsRow w.heap.size 3 1 (.slice (some ⟨gs, 0, none⟩) n cs) n (cellsI ss) ∧ Cur wz p (m + 600) ∧ w.grownBy wz (some p) ∧ B1 ≤ wz.heap.size)
    case first =>
      go_wp2_with fail
      go_loopw [7, 8] (fun v kv wz => ∃ t : Nat, kv = .int .i64 (t : Int) ∧ ∃ (l g c : Nat) (zs : List Int), t + l ≤ 7 ∧ v = .slice (some ⟨g, 0, none⟩) l c ∧ wz.ownsRow B1 50 3 (.slice (some ⟨g, 0, none⟩) l c) l (cellsI zs) ∧ Sml zs ∧ wz.ownsRow w.heap.size 3 1 (.slice (some ⟨gs, 0, none⟩) n cs) n (cellsI ss) ∧ Cur wz p (m + 300 + 20 * l) ∧ w.grownBy wz (some p) ∧ B1 ≤ wz.heap.size) (fun _ kv _ => (intOf kv).toNat)
      case atStart => exact ⟨t0, rfl, 0, B1, 0, [], by omega, rfl, OV.out, fun x hx => by simp at hx, HOS.out, HC.out.more (by omega), HG.out, HB1.out⟩
      case round =>
        obtain ⟨t, rfl, l, g, c, zs, htl, rfl, ho, hsm, hsh, hc, hg, hbb⟩ := hrel
        clear OV HOS HC HG HB1
        by_cases hlt : 0 < t
        · have hlt2 : (0 : Int) < (t : Int) := by omega
          by_cases hn2 : 1 < n
          · have hn2i : (1 : Int) < (n : Int) := by omega
            go_wp2_with fail
            refine (pick p _ (n : Int) wr hc (by omega) (by omega) (by omega)).mono ?_
            rintro e w5 ⟨f, rfl, f0, f1, hc5, hg5⟩
            obtain ⟨f, rfl⟩ := Int.eq_ofNat_of_zero_le f0
            have e1 : IntKind.i64.wrap ((f : Int) + 1) = (f : Int) + 1 := IntWalk.i64_in _ (by omega)
            have e2 : IntKind.i64.wrap ((n : Int) - 1) = (n : Int) - 1 := IntWalk.i64_in _ (by omega)
            go_wp2_with fail
            refine (pick p _ ((n : Int) - 1) w5 hc5 (by omega) (by omega) (by omega)).mono ?_
            rintro e w6 ⟨r, rfl, r0, r1, hc6, hg6⟩
            obtain ⟨r, rfl⟩ := Int.eq_ofNat_of_zero_le r0
            have hfn : f < n := by omega
            obtain ⟨q2, hq2⟩ : ∃ q2, (f + 1 + r) % n = q2 := ⟨_, rfl⟩
            have hqn : q2 < n := by rw [← hq2]; exact Nat.mod_lt _ (by omega)
            have e3 : IntKind.i64.wrap ((f : Int) + 1 + (r : Int)) = (f : Int) + 1 + (r : Int) := IntWalk.i64_in _ (by omega)
            have e4 : ((f : Int) + 1 + (r : Int)).tmod (n : Int) = (q2 : Int) := by rw [show (f : Int) + 1 + (r : Int) = ((f + 1 + r : Nat) : Int) by omega, ← hq2]; rfl
            have z1 : ((n : Int) == 0) = false := beq_eq_false_iff_ne.mpr (by omega)
            have hfni : (f : Int) < (n : Int) := by omega
            have hqni : (q2 : Int) < (n : Int) := by omega
            have hf0i : (0 : Int) ≤ (f : Int) := Int.natCast_nonneg _
            have hq0i : (0 : Int) ≤ (q2 : Int) := Int.natCast_nonneg _
            have hgg := grown_trans hg5 hg6
            have OV := Lib.hid (own_kept ho hgg (fun g e => by cases e; exact hpB))
            have hsh6 := own_kept hsh hgg (fun g e => by cases e; exact hp)
            obtain ⟨a1, s1, a10, a11⟩ := ints_at hsh6 hqn HSS.out
            obtain ⟨a2, s2, a20, a21⟩ := ints_at hsh6 hfn HSS.out
            have e5 : IntKind.i64.wrap (a1 - a2) = a1 - a2 := IntWalk.i64_in _ (by omega)
            have e6 : IntKind.i64.wrap ((t : Int) - 1) = (t : Int) - 1 := IntWalk.i64_in _ (by omega)
            have HOS := Lib.hid hsh6
            have SC1 := Lib.hid s1
            have SC2 := Lib.hid s2
            have HC := Lib.hid hc6
            have HG := Lib.hid (grown_trans hg hgg)
            have HB1 := Lib.hid (Nat.le_trans hbb hgg.size)
            have HSM := Lib.hid (app3 hsm (x := (f : Int)) (y := (q2 : Int)) (z := a1 - a2) (by omega) (by omega) (by omega))
            clear ho hsm hsh hc hg hbb hc5 hg5 hc6 hg6 hgg hsh6 s1 s2 hq2 f0 r0
            have CB := Lib.hid (fun WZ (hz : Below B1 w6 WZ) => show Below B1 w6 WZ ∧ WZ.cell? ⟨gs, q2, none⟩ = some (.int .i64 a1) ∧ WZ.cell? ⟨gs, f, none⟩ = some (.int .i64 a2) from ⟨hz, (hz.cell (p := ⟨gs, q2, none⟩) HGS.out).trans SC1.out, (hz.cell (p := ⟨gs, f, none⟩) HGS.out).trans SC2.out⟩)
            have SB := Lib.hid (fun WZ (h : Below B1 w6 WZ ∧ WZ.cell? ⟨gs, q2, none⟩ = some (.int .i64 a1) ∧ WZ.cell? ⟨gs, f, none⟩ = some (.int .i64 a2)) => h.1)
            have OVd := Lib.hid (show (w6).drew.ownsRow B1 50 3 (.slice (some ⟨g, 0, none⟩) l c) l (cellsI zs) from OV.out)
            go_upto_region 13 with fail
            go_region_held3 (fun w' => Below B1 w6 w' ∧ w'.cell? ⟨gs, q2, none⟩ = some (.int .i64 a1) ∧ w'.cell? ⟨gs, f, none⟩ = some (.int .i64 a2)) (first
              | exact CB.out _ (Below.refl B1 w6).drew
              | assumption
              | exact CB.out _ ((Below.refl B1 w6).alloc HB1.out _).drew
              | exact CB.out _ (Below.alloc (SB.out _ (by assumption)) (Nat.le_trans HB1.out (Below.size (SB.out _ (by assumption)))) _)) (first
              | (refine step_append_sz rfl (.tmp 52) (.tmp 65) 42 rfl B1 50 j0 (.agg #[.int .i64 0, .int .i64 0, .int .i64 0]) 3 24 Try.underlying42 hj jz0 jz1 jz2 rfl (by decide) _ l (cellsI zs) rfl (by first | exact OVd.out | exact World.ownsRow.alloc OVd.out _ | exact OV.out | exact World.ownsRow.alloc OV.out _) _ 1 1 [.int .i64 (f : Int), .int .i64 (q2 : Int), .int .i64 (a1 - a2)] rfl rfl (cells_new _ _ #[.int .i64 (f : Int), .int .i64 (q2 : Int), .int .i64 (a1 - a2)]) (three_cells _ _ _) (by unfold maxLen; omega) (by omega) (Nat.le_trans HB1.out (Below.size (SB.out _ (by assumption)))) ?_
                 intro v2 w2 o2 g2 r2
                 have hB2 := stepZ (SB.out _ (by assumption)) (Nat.le_trans HB1.out (Below.size (SB.out _ (by assumption)))) (by first | exact OVd.out | exact World.ownsRow.alloc OVd.out _ | exact OV.out | exact World.ownsRow.alloc OV.out _) g2
                 have hS2 := CB.out _ hB2))
            all_goals (
              obtain ⟨g9, c9, rfl, hc9, hg9⟩ := own_pos3 o2 (Nat.succ_pos l)
              have O9 := Lib.hid (own3_app o2)
              have S9 := Lib.hid (own_low HOS.out hB2 HGS.out)
              have C9 := Lib.hid (HC.out.keep (hB2.mono (by omega)))
              have G9 := Lib.hid (grown_low HG.out hB2 hB0)
              have Z9 := Lib.hid (Nat.le_trans HB1.out hB2.size)
              clear o2 g2 r2 hB2 hS2 CB SB OVd OV HOS HC HG HB1 SC1 SC2
              go_wp2_with fail
              go_roundw
              case rel => exact ⟨t - 1, (by first | rfl | (show Value.int .i64 _ = Value.int .i64 _; congr 1; omega)), l + 1, g9, c9, _, by omega, rfl, O9.out, HSM.out, S9.out, C9.out.more (by omega), G9.out, Z9.out⟩
              case measure => simp [intOf]; omega)
          · have hn2i : ¬ (1 : Int) < (n : Int) := by omega
            have OV := Lib.hid ho
            have HSM := Lib.hid hsm
            have HOS := Lib.hid hsh
            have HC := Lib.hid hc
            have HG := Lib.hid hg
            have HB1 := Lib.hid hbb
            clear ho hsm hsh hc hg hbb
            go_wp2_with fail
            go_meet
            exact ⟨l, g, c, zs, rfl, OV.out, HSM.out, by omega, HOS.out, HC.out.more (by omega), HG.out, HB1.out⟩
        · obtain rfl : t = 0 := by omega
          have OV := Lib.hid ho
          have HSM := Lib.hid hsm
          have HOS := Lib.hid hsh
          have HC := Lib.hid hc
          have HG := Lib.hid hg
          have HB1 := Lib.hid hbb
          clear ho hsm hsh hc hg hbb
          go_wp2_with fail
          go_meet
          exact ⟨l, g, c, zs, rfl, OV.out, HSM.out, by omega, HOS.out, HC.out.more (by omega), HG.out, HB1.out⟩
    case rest =>
      obtain ⟨l, g, c, zs, rfl, ho, hsm, hl, hsh, hc, hg, hbb⟩ := hcut
      clear OV HOS HC HG HB1
      have OV := Lib.hid ho
      have HSM := Lib.hid hsm
      have HOS := Lib.hid hsh
      have HC := Lib.hid hc
      have HG := Lib.hid hg
      have HB1 := Lib.hid hbb
      clear ho hsm hsh hc hg hbb
      go_upto_block 4 with fail
      go_cut [7, 11] from 67 to 92 (fun v iv wz => ∃ (l g c : Nat) (zs : List Int), v = .slice (some ⟨g, 0, none⟩) l c ∧ wz.ownsRow B1 50 3 (.slice (some ⟨g, 0, none⟩) l c) l (cellsI zs) ∧ Sml zs ∧ l ≤ 12 ∧ wz.ownsRow w.heap.size 3 1 (.slice (some ⟨gs, 0, none⟩) n cs) n (cellsI ss) ∧ Cur wz p (m + 900) ∧ w.grownBy wz (some p) ∧ B1 ≤ wz.heap.size)
      case first =>
        go_wp2_with fail
        go_loopw [7, 11] (fun v iv wz => ∃ t : Nat, iv = .int .i64 (t : Int) ∧ ∃ (l g c : Nat) (zs : List Int), 1 ≤ t ∧ t ≤ n ∧ l ≤ 6 + t ∧ v = .slice (some ⟨g, 0, none⟩) l c ∧ wz.ownsRow B1 50 3 (.slice (some ⟨g, 0, none⟩) l c) l (cellsI zs) ∧ Sml zs ∧ wz.ownsRow w.heap.size 3 1 (.slice (some ⟨gs, 0, none⟩) n cs) n (cellsI ss) ∧ Cur wz p (m + 650 + 20 * t) ∧ w.grownBy wz (some p) ∧ B1 ≤ wz.heap.size) (fun _ iv _ => n - (intOf iv).toNat)
        case atStart => exact ⟨1, rfl, l, g, c, zs, Nat.le_refl _, hn1, by omega, rfl, OV.out, HSM.out, HOS.out, HC.out.more (by omega), HG.out, HB1.out⟩
        case round =>
          obtain ⟨t, rfl, l, g, c, zs, ht1, htn, hl, rfl, ho, hsm, hsh, hc, hg, hbb⟩ := hrel
          clear OV HSM HOS HC HG HB1
          by_cases hlt : t < n
          · have hlt2 : (t : Int) < (n : Int) := by omega
            go_wp2_with fail
            refine (one p _ 2 wr hc (by omega) (by omega) (by omega)).mono ?_
            rintro e w6 ⟨b, rfl, hc6, hgg⟩
            have OV := Lib.hid (own_kept ho hgg (fun g e => by cases e; exact hpB))
            have hsh6 := own_kept hsh hgg (fun g e => by cases e; exact hp)
            have HC := Lib.hid hc6
            have HG := Lib.hid (grown_trans hg hgg)
            have HB1 := Lib.hid (Nat.le_trans hbb hgg.size)
            cases b
            · have HSM := Lib.hid hsm
              have HOS := Lib.hid hsh6
              clear ho hsm hsh hc hg hbb hc6 hgg hsh6
              go_wp2_with fail
              go_meet
              exact ⟨l, g, c, zs, rfl, OV.out, HSM.out, by omega, HOS.out, HC.out.more (by omega), HG.out, HB1.out⟩
            · obtain ⟨u, hu⟩ : ∃ u, u + 1 = t := ⟨t - 1, by omega⟩
              have e1 : IntKind.i64.wrap ((t : Int) - 1) = (u : Int) := by rw [IntWalk.i64_in _ (by omega)]; omega
              obtain ⟨a1, s1, a10, a11⟩ := ints_at hsh6 hlt HSS.out
              obtain ⟨a2, s2, a20, a21⟩ := ints_at hsh6 (show u < n by omega) HSS.out
              have e5 : IntKind.i64.wrap (a1 - a2) = a1 - a2 := IntWalk.i64_in _ (by omega)
              have hui : (u : Int) < (n : Int) := by omega
              have hu0 : (0 : Int) ≤ (u : Int) := Int.natCast_nonneg _
              have ht0 : (0 : Int) ≤ (t : Int) := Int.natCast_nonneg _
              have HOS := Lib.hid hsh6
              have SC1 := Lib.hid s1
              have SC2 := Lib.hid s2
              have HSM := Lib.hid (app3 hsm (x := (u : Int)) (y := (t : Int)) (z := a1 - a2) (by omega) (by omega) (by omega))
              clear ho hsm hsh hc hg hbb hc6 hgg hsh6 s1 s2
              have CB := Lib.hid (fun WZ (hz : Below B1 w6 WZ) => show Below B1 w6 WZ ∧ WZ.cell? ⟨gs, t, none⟩ = some (.int .i64 a1) ∧ WZ.cell? ⟨gs, u, none⟩ = some (.int .i64 a2) from ⟨hz, (hz.cell (p := ⟨gs, t, none⟩) HGS.out).trans SC1.out, (hz.cell (p := ⟨gs, u, none⟩) HGS.out).trans SC2.out⟩)
              have SB := Lib.hid (fun WZ (h : Below B1 w6 WZ ∧ WZ.cell? ⟨gs, t, none⟩ = some (.int .i64 a1) ∧ WZ.cell? ⟨gs, u, none⟩ = some (.int .i64 a2)) => h.1)
              have OVd := Lib.hid (show (w6).drew.ownsRow B1 50 3 (.slice (some ⟨g, 0, none⟩) l c) l (cellsI zs) from OV.out)
              go_upto_region 17 with fail
              go_region_held3 (fun w' => Below B1 w6 w' ∧ w'.cell? ⟨gs, t, none⟩ = some (.int .i64 a1) ∧ w'.cell? ⟨gs, u, none⟩ = some (.int .i64 a2)) (first
                | exact CB.out _ (Below.refl B1 w6).drew
                | assumption
                | exact CB.out _ ((Below.refl B1 w6).alloc HB1.out _).drew
                | exact CB.out _ (Below.alloc (SB.out _ (by assumption)) (Nat.le_trans HB1.out (Below.size (SB.out _ (by assumption)))) _)) (first
                | (refine step_append_sz rfl (.tmp 76) (.tmp 91) 42 rfl B1 50 j0 (.agg #[.int .i64 0, .int .i64 0, .int .i64 0]) 3 24 Try.underlying42 hj jz0 jz1 jz2 rfl (by decide) _ l (cellsI zs) rfl (by first | exact OVd.out | exact World.ownsRow.alloc OVd.out _ | exact OV.out | exact World.ownsRow.alloc OV.out _) _ 1 1 [.int .i64 (u : Int), .int .i64 (t : Int), .int .i64 (a1 - a2)] rfl rfl (cells_new _ _ #[.int .i64 (u : Int), .int .i64 (t : Int), .int .i64 (a1 - a2)]) (three_cells _ _ _) (by unfold maxLen; omega) (by omega) (Nat.le_trans HB1.out (Below.size (SB.out _ (by assumption)))) ?_
                   intro v2 w2 o2 g2 r2
                   have hB2 := stepZ (SB.out _ (by assumption)) (Nat.le_trans HB1.out (Below.size (SB.out _ (by assumption)))) (by first | exact OVd.out | exact World.ownsRow.alloc OVd.out _ | exact OV.out | exact World.ownsRow.alloc OV.out _) g2
                   have hS2 := CB.out _ hB2))
              all_goals (
                obtain ⟨g9, c9, rfl, hc9, hg9⟩ := own_pos3 o2 (Nat.succ_pos l)
                have O9 := Lib.hid (own3_app o2)
                have S9 := Lib.hid (own_low HOS.out hB2 HGS.out)
                have C9 := Lib.hid (HC.out.keep (hB2.mono (by omega)))
                have G9 := Lib.hid (grown_low HG.out hB2 hB0)
                have Z9 := Lib.hid (Nat.le_trans HB1.out hB2.size)
                clear o2 g2 r2 hB2 hS2 CB SB OVd OV HOS HC HG HB1 SC1 SC2
                go_wp2_with fail
                go_roundw
                case rel => exact ⟨t + 1, by go_num, l + 1, g9, c9, _, by omega, by omega, by omega, rfl, O9.out, HSM.out, S9.out, C9.out.more (by omega), G9.out, Z9.out⟩
                case measure => simp [intOf]; omega)
          · obtain rfl : t = n := by omega
            have OV := Lib.hid ho
            have HSM := Lib.hid hsm
            have HOS := Lib.hid hsh
            have HC := Lib.hid hc
            have HG := Lib.hid hg
            have HB1 := Lib.hid hbb
            clear ho hsm hsh hc hg hbb
            go_wp2_with fail
            go_meet
            exact ⟨l, g, c, zs, rfl, OV.out, HSM.out, by omega, HOS.out, HC.out.more (by omega), HG.out, HB1.out⟩
      case rest =>
        obtain ⟨l, g, c, zs, rfl, ho, hsm, hl, hsh, hc, hg, hbb⟩ := hcut
        clear OV HSM HOS HC HG HB1 hsh HSS HGS
        have HLZ := Lib.hid (own_len3 ho)
        have hl0 : l = 0 ∨ 0 < l := by omega
        go_upto_if 95 with fail
        go_cut [12, 13] from 95 to 130 (fun kv bv wz => ∃ zs : List Int, wz.ownsRow B1 50 3 (.slice (some ⟨g, 0, none⟩) l c) l (cellsI zs) ∧ Cur wz p (m + 1500) ∧ w.grownBy wz (some p))
        case first =>
          rcases hl0 with rfl | hl0
          · have OV := Lib.hid ho
            have HC := Lib.hid hc
            have HG := Lib.hid hg
            clear ho hc hg
            go_wp2_with fail
            go_meet
            exact ⟨zs, OV.out, HC.out.more (by omega), HG.out⟩
          · have hl0i : (0 : Int) < (l : Int) := by omega
            go_wp2_with fail
            refine (pick p _ (l : Int) wc hc (by omega) (by omega) (by omega)).mono ?_
            rintro e w4 ⟨r, rfl, r0, r1, hc4, hg4⟩
            obtain ⟨kk, rfl⟩ := Int.eq_ofNat_of_zero_le r0
            have hkk : kk < l := by omega
            have hkki : (kk : Int) < (l : Int) := by omega
            have hkk0 : (0 : Int) ≤ (kk : Int) := r0
            have ho4 := own_kept ho hg4 (fun g e => by cases e; exact hpB)
            have hgg := grown_trans hg hg4
            have hb4 := Nat.le_trans hbb hg4.size
            clear ho hc hg hg4 r0 r1 hbb
            obtain ⟨b, ob, eA, hbl, q0, q1, q2⟩ := lnks.cells3 (RdZ.of_own ho4 HLZ.out) hkk
            obtain ⟨rfl, rfl⟩ : g = b ∧ 0 = ob := by injection eA with e; injection e with e1 e2; exact ⟨e1, e2⟩
            rw [Nat.zero_add] at q0 q1 q2
            obtain ⟨x0, x1⟩ := sml_fld hsm kk 0
            obtain ⟨y0, y1⟩ := sml_fld hsm kk 1
            obtain ⟨z0, z1⟩ := sml_fld hsm kk 2
            generalize fld 3 zs kk 0 = x at *
            generalize fld 3 zs kk 1 = y at *
            generalize fld 3 zs kk 2 = z at *
            have BX := Lib.hid (newS 50 #[.int .i64 x, .int .i64 y, .int .i64 z] w4)
            have O5 := Lib.hid (ho4.alloc (.cells #[.int .i64 x, .int .i64 y, .int .i64 z] 50))
            have C5 := Lib.hid (Cur.alloc hc4 (.cells #[.int .i64 x, .int .i64 y, .int .i64 z] 50))
            have G5 := Lib.hid (grown_trans hgg (grown_alloc (.cells #[.int .i64 x, .int .i64 y, .int .i64 z] 50) (some p)))
            have hsz := hgg.size
            have hgl := own_lt ho4
            clear ho4 hc4 hgg
            go_upto_region 21 with fail
            clear q0 q1 q2 eA
            generalize hw4 : w4.heap.size = bx at *
            have hbp : bx ≠ p := by omega
            have hgx : g ≠ bx := by omega
            clear hw4
            generalize w4.alloc (.cells #[.int .i64 x, .int .i64 y, .int .i64 z] 50) = W5 at *
            go_wp2_with fail
            refine (pick p _ 30 W5 C5.out (by omega) (by omega) (by omega)).mono ?_
            rintro e w6 ⟨i, rfl, i0', i1', hc6, hg6⟩
            have HO := Lib.hid (own_kept O5.out hg6 (fun g e => by cases e; exact hpB))
            have HC := Lib.hid hc6
            have HG := Lib.hid (grown_trans G5.out hg6)
            have X6 : w6.heap[bx]? = some (.cells #[.int .i64 x, .int .i64 y, .int .i64 z] 50 (0, 0)) := (hg6.block bx BX.out.2.2.1 (fun e => hbp (by injection e))).trans BX.out.2.2.2
            have HX6 := Lib.hid X6
            clear hc6 hg6 O5 C5 G5 X6 BX
            by_cases h0 : i = 0
            · subst h0
              have e1 : IntKind.i64.wrap (z + 1) = z + 1 := IntWalk.i64_in _ (by omega)
              have hg7 : w6.grownBy w6 (some p) := grown_refl _ _
              have hc7 := HC.out
              have HO7 := own_kept HO.out hg7 (fun g e => by cases e; exact hpB)
              have X7 : w6.heap[bx]? = some (.cells #[.int .i64 x, .int .i64 y, .int .i64 z] 50 (0, 0)) := (hg7.block bx (Array.getElem?_eq_some_iff.1 HX6.out).1 (fun e => hbp (by injection e))).trans HX6.out
              have c0_ : w6.cell? ⟨bx, 0, none⟩ = some (.int .i64 x) := cell_of_row _ _ 0 _ _ (0, 0) X7
              have c1_ : w6.cell? ⟨bx, 1, none⟩ = some (.int .i64 y) := cell_of_row _ _ 1 _ _ (0, 0) X7
              have c2_ : w6.cell? ⟨bx, 2, none⟩ = some (.int .i64 z) := cell_of_row _ _ 2 _ _ (0, 0) X7
              have f0_ : w6.frozen? ⟨bx, 2, none⟩ = false := by simp [World.frozen?, X7]
              have HC7 := Lib.hid (Cur.set hc7 (show p < bx by omega) (i := 2) (v := .int .i64 (z + 1)))
              have HG7 := Lib.hid (grown_put (grown_trans HG.out hg7) (show w.heap.size ≤ bx by omega) (i := 2) (v := .int .i64 (z + 1)))
              have HO8 := Lib.hid (own_kept_at HO7 (lst.grown_set (lst.grown_refl w6 (some bx)) 2 (.int .i64 (z + 1))) (fun g' e1 e2 => by have e1 : some g = some g' := e1; injection e1 with e1; injection e2 with e2; omega))
              clear HO HC HG hc7 hg7 HO7 X7 HX6
              have HO := Lib.hid HO8.out
              have HC := Lib.hid HC7.out
              have HG := Lib.hid HG7.out
              clear HO8 HC7 HG7
              obtain ⟨t1, t2, t3⟩ := ends3 (k := kk) (x) (y) (z + 1) HO.out HC.out HG.out hpB hB0
              have T1 := Lib.hid t1
              have T2 := Lib.hid t2
              have T3 := Lib.hid t3
              obtain ⟨u0, hu0⟩ : ∃ u, (cellsI zs)[kk * 3]? = some u := ⟨_, List.getElem?_eq_getElem (by unfold cellsI; rw [List.length_map, HLZ.out]; omega)⟩
              obtain ⟨u1, hu1⟩ : ∃ u, (cellsI zs)[kk * 3 + 1]? = some u := ⟨_, List.getElem?_eq_getElem (by unfold cellsI; rw [List.length_map, HLZ.out]; omega)⟩
              obtain ⟨u2, hu2⟩ : ∃ u, (cellsI zs)[kk * 3 + 2]? = some u := ⟨_, List.getElem?_eq_getElem (by unfold cellsI; rw [List.length_map, HLZ.out]; omega)⟩
              have s0_ := (HO.out.cellAt (kk * 3) (by omega)).trans hu0
              have s1_ := (HO.out.cellAt (kk * 3 + 1) (by omega)).trans hu1
              have s2_ := (HO.out.cellAt (kk * 3 + 2) (by omega)).trans hu2
              have r0_ := HO.out.frozenAt (kk * 3)
              have r1_ := HO.out.frozenAt (kk * 3 + 1)
              have r2_ := HO.out.frozenAt (kk * 3 + 2)
              clear t1 t2 t3 hu0 hu1 hu2
              go_wp2_with fail
              go_meet
              exact ⟨_, T1.out, T2.out.more (by omega), T3.out⟩
            have d0 : (i == 0) = false := by simpa using h0
            by_cases h1 : i = 1
            · subst h1
              have b0_ : w6.cell? ⟨bx, 0, none⟩ = some (.int .i64 x) := cell_of_row _ _ 0 _ _ (0, 0) HX6.out
              go_wp2_with fail
              refine (among_new (-100000000) 100000000 p _ 3 [x, (n : Int), -1] _ w6 HC.out (by omega) (by omega) (by omega) rfl rfl (by intro z hz; simp at hz; omega)).mono ?_
              rintro e w7 ⟨v, rfl, v0, v1, hc7, hg7⟩
              clear b0_
              have HO7 := own_kept HO.out hg7 (fun g e => by cases e; exact hpB)
              have X7 : w7.heap[bx]? = some (.cells #[.int .i64 x, .int .i64 y, .int .i64 z] 50 (0, 0)) := (hg7.block bx (Array.getElem?_eq_some_iff.1 HX6.out).1 (fun e => hbp (by injection e))).trans HX6.out
              have c0_ : w7.cell? ⟨bx, 0, none⟩ = some (.int .i64 x) := cell_of_row _ _ 0 _ _ (0, 0) X7
              have c1_ : w7.cell? ⟨bx, 1, none⟩ = some (.int .i64 y) := cell_of_row _ _ 1 _ _ (0, 0) X7
              have c2_ : w7.cell? ⟨bx, 2, none⟩ = some (.int .i64 z) := cell_of_row _ _ 2 _ _ (0, 0) X7
              have f0_ : w7.frozen? ⟨bx, 1, none⟩ = false := by simp [World.frozen?, X7]
              have HC7 := Lib.hid (Cur.set hc7 (show p < bx by omega) (i := 1) (v := .int .i64 (v)))
              have HG7 := Lib.hid (grown_put (grown_trans HG.out hg7) (show w.heap.size ≤ bx by omega) (i := 1) (v := .int .i64 (v)))
              have HO8 := Lib.hid (own_kept_at HO7 (lst.grown_set (lst.grown_refl w7 (some bx)) 1 (.int .i64 (v))) (fun g' e1 e2 => by have e1 : some g = some g' := e1; injection e1 with e1; injection e2 with e2; omega))
              clear HO HC HG hc7 hg7 HO7 X7 HX6
              have HO := Lib.hid HO8.out
              have HC := Lib.hid HC7.out
              have HG := Lib.hid HG7.out
              clear HO8 HC7 HG7
              obtain ⟨t1, t2, t3⟩ := ends3 (k := kk) (x) (v) (z) HO.out HC.out HG.out hpB hB0
              have T1 := Lib.hid t1
              have T2 := Lib.hid t2
              have T3 := Lib.hid t3
              obtain ⟨u0, hu0⟩ : ∃ u, (cellsI zs)[kk * 3]? = some u := ⟨_, List.getElem?_eq_getElem (by unfold cellsI; rw [List.length_map, HLZ.out]; omega)⟩
              obtain ⟨u1, hu1⟩ : ∃ u, (cellsI zs)[kk * 3 + 1]? = some u := ⟨_, List.getElem?_eq_getElem (by unfold cellsI; rw [List.length_map, HLZ.out]; omega)⟩
              obtain ⟨u2, hu2⟩ : ∃ u, (cellsI zs)[kk * 3 + 2]? = some u := ⟨_, List.getElem?_eq_getElem (by unfold cellsI; rw [List.length_map, HLZ.out]; omega)⟩
              have s0_ := (HO.out.cellAt (kk * 3) (by omega)).trans hu0
              have s1_ := (HO.out.cellAt (kk * 3 + 1) (by omega)).trans hu1
              have s2_ := (HO.out.cellAt (kk * 3 + 2) (by omega)).trans hu2
              have r0_ := HO.out.frozenAt (kk * 3)
              have r1_ := HO.out.frozenAt (kk * 3 + 1)
              have r2_ := HO.out.frozenAt (kk * 3 + 2)
              clear t1 t2 t3 hu0 hu1 hu2
              go_wp2_with fail
              go_meet
              exact ⟨_, T1.out, T2.out.more (by omega), T3.out⟩
            have d1 : (i == 1) = false := by simpa using h1
            by_cases h2 : i = 2
            · subst h2
              go_wp2_with fail
              refine (among_new (-1000001) 1000001 p _ 3 [1000000, -1000001, 1000001] _ w6 HC.out (by omega) (by omega) (by omega) rfl rfl (by decide)).mono ?_
              rintro e w7 ⟨v, rfl, v0, v1, hc7, hg7⟩
              have HO7 := own_kept HO.out hg7 (fun g e => by cases e; exact hpB)
              have X7 : w7.heap[bx]? = some (.cells #[.int .i64 x, .int .i64 y, .int .i64 z] 50 (0, 0)) := (hg7.block bx (Array.getElem?_eq_some_iff.1 HX6.out).1 (fun e => hbp (by injection e))).trans HX6.out
              have c0_ : w7.cell? ⟨bx, 0, none⟩ = some (.int .i64 x) := cell_of_row _ _ 0 _ _ (0, 0) X7
              have c1_ : w7.cell? ⟨bx, 1, none⟩ = some (.int .i64 y) := cell_of_row _ _ 1 _ _ (0, 0) X7
              have c2_ : w7.cell? ⟨bx, 2, none⟩ = some (.int .i64 z) := cell_of_row _ _ 2 _ _ (0, 0) X7
              have f0_ : w7.frozen? ⟨bx, 2, none⟩ = false := by simp [World.frozen?, X7]
              have HC7 := Lib.hid (Cur.set hc7 (show p < bx by omega) (i := 2) (v := .int .i64 (v)))
              have HG7 := Lib.hid (grown_put (grown_trans HG.out hg7) (show w.heap.size ≤ bx by omega) (i := 2) (v := .int .i64 (v)))
              have HO8 := Lib.hid (own_kept_at HO7 (lst.grown_set (lst.grown_refl w7 (some bx)) 2 (.int .i64 (v))) (fun g' e1 e2 => by have e1 : some g = some g' := e1; injection e1 with e1; injection e2 with e2; omega))
              clear HO HC HG hc7 hg7 HO7 X7 HX6
              have HO := Lib.hid HO8.out
              have HC := Lib.hid HC7.out
              have HG := Lib.hid HG7.out
              clear HO8 HC7 HG7
              obtain ⟨t1, t2, t3⟩ := ends3 (k := kk) (x) (y) (v) HO.out HC.out HG.out hpB hB0
              have T1 := Lib.hid t1
              have T2 := Lib.hid t2
              have T3 := Lib.hid t3
              obtain ⟨u0, hu0⟩ : ∃ u, (cellsI zs)[kk * 3]? = some u := ⟨_, List.getElem?_eq_getElem (by unfold cellsI; rw [List.length_map, HLZ.out]; omega)⟩
              obtain ⟨u1, hu1⟩ : ∃ u, (cellsI zs)[kk * 3 + 1]? = some u := ⟨_, List.getElem?_eq_getElem (by unfold cellsI; rw [List.length_map, HLZ.out]; omega)⟩
              obtain ⟨u2, hu2⟩ : ∃ u, (cellsI zs)[kk * 3 + 2]? = some u := ⟨_, List.getElem?_eq_getElem (by unfold cellsI; rw [List.length_map, HLZ.out]; omega)⟩
              have s0_ := (HO.out.cellAt (kk * 3) (by omega)).trans hu0
              have s1_ := (HO.out.cellAt (kk * 3 + 1) (by omega)).trans hu1
              have s2_ := (HO.out.cellAt (kk * 3 + 2) (by omega)).trans hu2
              have r0_ := HO.out.frozenAt (kk * 3)
              have r1_ := HO.out.frozenAt (kk * 3 + 1)
              have r2_ := HO.out.frozenAt (kk * 3 + 2)
              clear t1 t2 t3 hu0 hu1 hu2
              go_wp2_with fail
              go_meet
              exact ⟨_, T1.out, T2.out.more (by omega), T3.out⟩
            · have d2 : (i == 2) = false := by simpa using h2
              have c0_ : w6.cell? ⟨bx, 0, none⟩ = some (.int .i64 x) := cell_of_row _ _ 0 _ _ (0, 0) HX6.out
              have c1_ : w6.cell? ⟨bx, 1, none⟩ = some (.int .i64 y) := cell_of_row _ _ 1 _ _ (0, 0) HX6.out
              have c2_ : w6.cell? ⟨bx, 2, none⟩ = some (.int .i64 z) := cell_of_row _ _ 2 _ _ (0, 0) HX6.out
              obtain ⟨t1, t2, t3⟩ := ends3 (k := kk) (x) (y) (z) HO.out HC.out HG.out hpB hB0
              have T1 := Lib.hid t1
              have T2 := Lib.hid t2
              have T3 := Lib.hid t3
              obtain ⟨u0, hu0⟩ : ∃ u, (cellsI zs)[kk * 3]? = some u := ⟨_, List.getElem?_eq_getElem (by unfold cellsI; rw [List.length_map, HLZ.out]; omega)⟩
              obtain ⟨u1, hu1⟩ : ∃ u, (cellsI zs)[kk * 3 + 1]? = some u := ⟨_, List.getElem?_eq_getElem (by unfold cellsI; rw [List.length_map, HLZ.out]; omega)⟩
              obtain ⟨u2, hu2⟩ : ∃ u, (cellsI zs)[kk * 3 + 2]? = some u := ⟨_, List.getElem?_eq_getElem (by unfold cellsI; rw [List.length_map, HLZ.out]; omega)⟩
              have s0_ := (HO.out.cellAt (kk * 3) (by omega)).trans hu0
              have s1_ := (HO.out.cellAt (kk * 3 + 1) (by omega)).trans hu1
              have s2_ := (HO.out.cellAt (kk * 3 + 2) (by omega)).trans hu2
              have r0_ := HO.out.frozenAt (kk * 3)
              have r1_ := HO.out.frozenAt (kk * 3 + 1)
              have r2_ := HO.out.frozenAt (kk * 3 + 2)
              clear t1 t2 t3 hu0 hu1 hu2
              go_wp2_with fail
              go_meet
              exact ⟨_, T1.out, T2.out.more (by omega), T3.out⟩
        case rest =>
          obtain ⟨zs, ho, hc, hg⟩ := hcut
          go_wp2_with fail
          refine (one p _ 40 wc hc (by omega) (by omega) (by omega)).mono ?_
          rintro e w6 ⟨b, rfl, hc6, hg6⟩
          have HO := Lib.hid (own_kept ho hg6 (fun g e => by cases e; exact hpB))
          have HC := Lib.hid hc6
          have HG := Lib.hid (grown_trans hg hg6)
          clear ho hc hg hc6 hg6
          cases b
          · go_wp2_with fail
            go_ret2
            exact ⟨(n : Int), _, l, zs, rfl, by omega, by omega, own_.own_base HO.out hB0, by omega, HC.out.more (by omega), HG.out⟩
          · go_wp2_with fail
            refine (among_new (0) 7 p _ 2 [0, 7] _ w6 HC.out (by omega) (by omega) (by omega) rfl rfl (by decide)).mono ?_
            rintro e w7 ⟨v, rfl, v0, v1, hc7, hg7⟩
            have HO7 := Lib.hid (own_kept HO.out hg7 (fun g e => by cases e; exact hpB))
            have HC7 := Lib.hid hc7
            have HG7 := Lib.hid (grown_trans HG.out hg7)
            clear hc7 hg7 HO HC HG
            go_wp2_with fail
            go_ret2
            exact ⟨v, _, l, zs, rfl, by omega, by omega, own_.own_base HO7.out hB0, by omega, HC7.out.more (by omega), HG7.out⟩
end Go.Proofs.Ytndogafihaooiaa.drawu12
