/- impl's trackDistance, areAll at places, canAssign, unpairedCost, slices.Contains at ints, PlotDistance. -/
import Derived.Test.YtedocpocfpopgaaTrkV
import Derived.Test.YtedocpocfpopgaaAsg
import Derived.Test.YtedocpocfpopgaaPosJ
import Derived.Test.YtedocpocfpopgaaPlcE
import Derived.Test.YtedocpocfpopgaaShelf
import Derived.Deep.QuietTactic
import Derived.BigQuiet
namespace Go.Proofs.Ytedocpocfpopgaa.asga
open Go.RowKit Go.Proofs.Ytedocpocfpopgaa.ints Go.Proofs.Ytedocpocfpopgaa.lst Go.Proofs.Ytedocpocfpopgaa.in_ Go.Proofs.Ytedocpocfpopgaa.ats Go.Proofs.Ytedocpocfpopgaa.pos Go.Proofs.Ytedocpocfpopgaa.trk Go.Proofs.Ytedocpocfpopgaa.trkm Go.Proofs.Ytedocpocfpopgaa.trke Go.Proofs.Ytedocpocfpopgaa.intc Go.Proofs.Ytedocpocfpopgaa.rws Go.Proofs.Ytedocpocfpopgaa.asg

theorem cells2 {w : World} {B n k : Nat} {A : Option Addr} {zs : List Int} (h : RdZ 2 w B A n zs) (hk : k < n) :
    ∃ b o, A = some ⟨b, o, none⟩ ∧ b < B ∧ w.cell? ⟨b, o + k * 2, none⟩ = some (.int .i64 (fld 2 zs k 0)) ∧ w.cell? ⟨b, o + k * 2 + 1, none⟩ = some (.int .i64 (fld 2 zs k 1)) := by
  obtain ⟨b, o, e, hb, hc⟩ := h.at_ hk
  exact ⟨b, o, e, hb, hc 0 (by omega), hc 1 (by omega)⟩
theorem absoluteOf (x : Int) (w : World) (hx : -8000000 ≤ x) (hx2 : x ≤ 8000000) :
    Calls Try.prog 70 #[.int .i64 x] w fun e w' => e = .returned (.int .i64 (x.natAbs : Int)) ∧ w = w' := by
  by_cases h : x < 0
  · have hm : x < -x := by omega
    rw [show (x.natAbs : Int) = -x by omega]
    go_enter Try.func70, Try.ntmps70
    go_wp2
    all_goals
      go_ret
      first | exact ⟨rfl, rfl⟩ | (exfalso; omega) | exact ⟨by rw [aid.ret_int (show max x (-x) = -x by omega)], rfl⟩ | exact ⟨aid.ret_int (show max x (-x) = -x by omega), rfl⟩
  · have hm : ¬ x < -x := by omega
    have g : decide (x < -x) = false := decide_eq_false hm
    rw [show (x.natAbs : Int) = x by omega]
    go_enter Try.func70, Try.ntmps70
    go_wp2
    all_goals
      go_ret
      first | exact ⟨rfl, rfl⟩ | (exfalso; omega) | exact ⟨by rw [aid.ret_int (show max x (-x) = x by omega)], rfl⟩ | exact ⟨aid.ret_int (show max x (-x) = x by omega), rfl⟩
/-- The distance of two places. -/
def ds (x y u v : Int) : Int := ((x - u).natAbs : Int) + ((y - v).natAbs : Int)
theorem ds_in {x y u v : Int} (h1 : pB x y = true) (h2 : pB u v = true) : 0 ≤ ds x y u v ∧ ds x y u v ≤ 19798 := by
  have p := pB_yes h1
  have q := pB_yes h2
  unfold ds
  omega
theorem ds_pst (zs ps : List Int) (i k : Nat) : ds (fld 6 zs i 2) (fld 6 zs i 3) (fld 2 ps k 0) (fld 2 ps k 1) = pst zs ps i k := rfl

set_option maxRecDepth 100000 in
theorem trackDistance (i s x y h l u v : Int) (h1 : pB x y = true) (h2 : pB u v = true) (w : World) :
    Calls Try.prog 48 #[.agg #[.int .i64 i, .int .i64 s, .int .i64 x, .int .i64 y, .int .i64 h, .int .i64 l], .agg #[.int .i64 u, .int .i64 v]] w fun e w' => e = .returned (.int .i64 (ds x y u v)) ∧ Below w.heap.size w w' := by
  obtain ⟨⟨p0, p1⟩, p2, p3⟩ := pB_yes h1
  obtain ⟨⟨q0, q1⟩, q2, q3⟩ := pB_yes h2
  have G1 := Lib.hid (fun w d => aid.quiet_left (absoluteOf (x - u) (World.drewN w d) (by omega) (by omega)))
  have G2 := Lib.hid (fun w d => aid.quiet_left (absoluteOf (y - v) (World.drewN w d) (by omega) (by omega)))
  have e1 : IntKind.i64.wrap (x - u) = x - u := IntWalk.i64_in _ (by omega)
  have e2 : IntKind.i64.wrap (y - v) = y - v := IntWalk.i64_in _ (by omega)
  have E0 := Lib.hid (show Below w.heap.size w ((w.alloc (.cells #[.int .i64 i, .int .i64 s, .int .i64 x, .int .i64 y, .int .i64 h, .int .i64 l] 28)).alloc (.cells #[.int .i64 u, .int .i64 v] 30)) from ((Below.refl _ _).alloc (Nat.le_refl _) _).alloc (by rw [World.size_alloc]; omega) _)
  unfold ds
  have u0 : (0 : Int) ≤ ((x - u).natAbs : Int) := by omega
  have u1 : ((x - u).natAbs : Int) ≤ 20000 := by omega
  have v0 : (0 : Int) ≤ ((y - v).natAbs : Int) := by omega
  have v1 : ((y - v).natAbs : Int) ≤ 20000 := by omega
  generalize ((x - u).natAbs : Int) = a at *
  generalize ((y - v).natAbs : Int) = b at *
  have e3 : IntKind.i64.wrap (a + b) = a + b := IntWalk.i64_in _ (by omega)
  clear h1 h2
  go_enter Try.func48, Try.ntmps48
  go_wp2_with fail
  go_quiet ((go_at_call 70; first | (with_reducible exact G1.out _ _) | (with_reducible exact G2.out _ _)))
  go_wp2_with fail
  go_ret
  exact ⟨rfl, aid.below_drewN E0.out _⟩

theorem pl_cut {ps : List Int} {m k : Nat} (h : plT ps k = false) (hk : k ≤ m) : plT ps m = false := by
  cases hq : plT ps m
  · rfl
  · have : ∀ j, j ≤ m → plT ps j = true := by
      intro j
      induction j with
      | zero => intro _; rfl
      | succ j ih => intro hj; rw [plT, ih (by omega), plT_at hq (by omega)]; rfl
    rw [this k hk] at h; cases h
set_option maxRecDepth 100000 in
set_option maxHeartbeats 1000000 in
theorem areAllPlaces (zs : List Int) (A : Option Addr) (n c : Nat) (w : World) (hn : n ≤ 1048577) (h1 : RdZ 2 w w.heap.size A n zs) :
    Calls Try.prog 72 #[.func (.func 47) #[] #[], .slice A n c] w fun e w' => e = .returned (.bool (plT zs n)) ∧ Below w.heap.size w w' := by
  go_enter Try.func72, Try.ntmps72
  go_wp2
  go_loopw [9] (fun i wr => ∃ k : Nat, k ≤ n ∧ i = .int .i64 k ∧ Below w.heap.size w wr ∧ plT zs k = true) (fun i _ => n - (intOf i).toNat)
  case atStart => exact ⟨0, Nat.zero_le _, rfl, Below.refl _ _, rfl⟩
  case round =>
    obtain ⟨k, hk, rfl, hb, hon⟩ := hrel
    by_cases hlt : k < n
    · obtain ⟨b1, o1, rfl, l1, p0, p1⟩ := cells2 (h1.below hb (Nat.le_refl _)) hlt
      have hlt2 : (k : Int) < (n : Int) := by omega
      have X1 := Lib.hid (fun w => posj.isValidPlace (fld 2 zs k 0) (fld 2 zs k 1) w)
      have HS := Lib.hid (show plT zs (k + 1) = (plT zs k && pB (fld 2 zs k 0) (fld 2 zs k 1)) from rfl)
      rw [hon, Bool.true_and] at HS
      have HX := Lib.hid (fun (h : plT zs (k + 1) = false) => pl_cut h (show k + 1 ≤ n by omega))
      have HB := Lib.hid (hb.alloc hb.size (.cells #[.int .i64 (fld 2 zs k 0), .int .i64 (fld 2 zs k 1)] 30))
      clear h1 hb hon
      generalize pB (fld 2 zs k 0) (fld 2 zs k 1) = pb at *
      generalize fld 2 zs k 0 = u0 at *
      generalize fld 2 zs k 1 = u1 at *
      go_wp2_with fail
      refine (X1.out _).mono ?_
      rintro e w2 ⟨rfl, hb2⟩
      have B2 := Lib.hid (HB.out.trans (hb2.mono HB.out.size))
      clear hb2 HB
      cases pb
      · have HF := Lib.hid (HX.out HS.out)
        go_wp2_with fail
        go_ret
        exact ⟨by rw [HF.out]; rfl, B2.out⟩
      · have HT := Lib.hid HS.out
        clear HS HX
        go_wp2_with fail
        go_roundw
        case rel => exact ⟨k + 1, by omega, by go_num, B2.out, HT.out⟩
        case measure => simp [intOf]; omega
    · obtain rfl : k = n := by omega
      have HB := Lib.hid hb
      have HT := Lib.hid hon
      clear hb hon h1
      go_wp2_with fail
      go_ret
      exact ⟨by rw [HT.out]; rfl, HB.out⟩

theorem containsI (xs : List Int) (d : Int) (A : Option Addr) (n c : Nat) (w : World) (hn : n ≤ 1048577) (h : RdI w w.heap.size A n xs) :
    Calls Try.prog 51 #[.slice A n c, .int .i64 d] w fun e w' => e = .returned (.bool (xs.contains d)) ∧ w' = w := by
  have hl := h.1
  rcases Nat.eq_zero_or_pos n with h0 | h0
  · subst h0
    obtain rfl := List.eq_nil_of_length_eq_zero hl
    exact Try.slices_Contains_int_empty A c d w
  · obtain ⟨b, o, rfl, hb, hc⟩ := h.2 h0
    have := Try.slices_Contains_int b o n c xs d w (by omega) (by omega) (fun j hj => by
      refine hc j _ ?_
      rw [List.getD_eq_getElem?_getD, List.getElem?_eq_getElem hj]; rfl)
    rw [List.take_of_length_le (by omega)] at this
    exact this
theorem unpairedCost (t g : Int) (w : World) (h : -1000000 ≤ t * (g + 1) ∧ t * (g + 1) ≤ 1000000) (hg : 0 ≤ g ∧ g ≤ 1000) :
    Calls Try.prog 55 #[.int .i64 t, .int .i64 g] w fun e w' => e = .returned (.int .i64 (t * (g + 1))) ∧ w' = w := by
  have e1 : IntKind.i64.wrap (g + 1) = g + 1 := IntWalk.i64_in _ (by omega)
  have e2 : IntKind.i64.wrap (t * (g + 1)) = t * (g + 1) := IntWalk.i64_in _ (by omega)
  generalize hp : g + 1 = p at *
  generalize hq : t * p = q at *
  go_enter Try.func55, Try.ntmps55
  go_wp2_with fail
  go_ret
  exact ⟨rfl, rfl⟩
set_option maxRecDepth 100000 in
theorem canAssign (zs ps : List Int) (g : Int) (A C : Option Addr) (n c m cq : Nat) (w : World) (hn : n ≤ 1048577) (hm : m ≤ 1048577) (h1 : RdZ 6 w w.heap.size A n zs) (h2 : RdZ 2 w w.heap.size C m ps) :
    Calls Try.prog 50 #[.slice A n c, .slice C m cq, .int .i64 g] w fun e w' => e = .returned (.bool (akB zs n ps m g)) ∧ Below w.heap.size w w' := by
  have HE := Lib.hid (show akB zs n ps m g = (tvB zs n && (decide (m ≤ 5) && (plT ps m && (decide (0 ≤ g) && decide (g ≤ 1000))))) by
    unfold akB isIn
    rw [Bool.eq_iff_iff]
    simp only [Bool.and_eq_true, decide_eq_true_eq]
    constructor
    · rintro ⟨a1, ⟨a2, a3⟩, a4, a5⟩; exact ⟨a1, a3, a2, a4, a5⟩
    · rintro ⟨a1, a2, a3, a4, a5⟩; exact ⟨a1, ⟨a3, a2⟩, a4, a5⟩)
  have H1 := Lib.hid (trkv.isValidTracks zs A n c w hn h1)
  have H2 := Lib.hid (fun W (hb : Below w.heap.size w W) => areAllPlaces ps C m cq W hm (h2.next hb))
  clear h1 h2
  generalize tvB zs n = p at *
  generalize plT ps m = q at *
  cases p
  · rw [Bool.false_and] at HE
    go_enter Try.func50, Try.ntmps50
    go_wp2_with fail
    refine H1.out.mono ?_
    rintro e w1 ⟨rfl, hb⟩
    have HB := Lib.hid hb
    clear hb
    go_wp2_with fail
    go_ret
    exact ⟨by rw [HE.out]; rfl, HB.out⟩
  rw [Bool.true_and] at HE
  by_cases h : m ≤ 5
  · rw [decide_eq_true h, Bool.true_and] at HE
    have g5 : (m : Int) ≤ 5 := by omega
    cases q
    · rw [Bool.false_and] at HE
      go_enter Try.func50, Try.ntmps50
      go_wp2_with fail
      refine H1.out.mono ?_
      rintro e w1 ⟨rfl, hb⟩
      have HB := Lib.hid hb
      clear hb
      go_wp2_with fail
      refine (H2.out w1 HB.out).mono ?_
      rintro e w2 ⟨rfl, hb⟩
      have HB2 := Lib.hid (HB.out.trans (hb.mono HB.out.size))
      clear hb
      go_wp2_with fail
      go_ret
      exact ⟨by rw [HE.out]; rfl, HB2.out⟩
    rw [Bool.true_and] at HE
    by_cases h0 : 0 ≤ g
    · rw [decide_eq_true h0, Bool.true_and] at HE
      by_cases h1 : g ≤ 1000
      · rw [decide_eq_true h1] at HE
        go_enter Try.func50, Try.ntmps50
        go_wp2_with fail
        refine H1.out.mono ?_
        rintro e w1 ⟨rfl, hb⟩
        have HB := Lib.hid hb
        clear hb
        go_wp2_with fail
        refine (H2.out w1 HB.out).mono ?_
        rintro e w2 ⟨rfl, hb⟩
        have HB2 := Lib.hid (HB.out.trans (hb.mono HB.out.size))
        clear hb
        go_wp2_with fail
        go_ret
        exact ⟨by rw [HE.out]; rfl, HB2.out⟩
      · rw [decide_eq_false h1] at HE
        have g7 : decide (g ≤ 1000) = false := decide_eq_false h1
        go_enter Try.func50, Try.ntmps50
        go_wp2_with fail
        refine H1.out.mono ?_
        rintro e w1 ⟨rfl, hb⟩
        have HB := Lib.hid hb
        clear hb
        go_wp2_with fail
        refine (H2.out w1 HB.out).mono ?_
        rintro e w2 ⟨rfl, hb⟩
        have HB2 := Lib.hid (HB.out.trans (hb.mono HB.out.size))
        clear hb
        go_wp2_with fail
        go_ret
        exact ⟨by rw [HE.out]; rfl, HB2.out⟩
    · rw [decide_eq_false h0, Bool.false_and] at HE
      have g7 : decide (0 ≤ g) = false := decide_eq_false h0
      go_enter Try.func50, Try.ntmps50
      go_wp2_with fail
      refine H1.out.mono ?_
      rintro e w1 ⟨rfl, hb⟩
      have HB := Lib.hid hb
      clear hb
      go_wp2_with fail
      refine (H2.out w1 HB.out).mono ?_
      rintro e w2 ⟨rfl, hb⟩
      have HB2 := Lib.hid (HB.out.trans (hb.mono HB.out.size))
      clear hb
      go_wp2_with fail
      go_ret
      exact ⟨by rw [HE.out]; rfl, HB2.out⟩
  · rw [decide_eq_false h, Bool.false_and] at HE
    have g5 : ¬ (m : Int) ≤ 5 := by omega
    go_enter Try.func50, Try.ntmps50
    go_wp2_with fail
    refine H1.out.mono ?_
    rintro e w1 ⟨rfl, hb⟩
    have HB := Lib.hid hb
    clear hb
    go_wp2_with fail
    go_ret
    exact ⟨by rw [HE.out]; rfl, HB.out⟩

end Go.Proofs.Ytedocpocfpopgaa.asga
