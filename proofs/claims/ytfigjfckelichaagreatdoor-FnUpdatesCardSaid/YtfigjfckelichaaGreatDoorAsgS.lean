/- spec's l15Distance, l15Asked, l1Has. -/
import Derived.Test.YtfigjfckelichaaGreatDoorTrkS
import Derived.Test.YtfigjfckelichaaGreatDoorAsg
import Derived.Test.YtfigjfckelichaaGreatDoorPosT
import Derived.Test.YtfigjfckelichaaGreatDoorPlcE
import Derived.BigQuiet
import Derived.Deep.QuietTactic
namespace Go.Proofs.YtfigjfckelichaaGreatDoor.asgs
open Go.RowKit Go.Proofs.YtfigjfckelichaaGreatDoor.ints Go.Proofs.YtfigjfckelichaaGreatDoor.lst Go.Proofs.YtfigjfckelichaaGreatDoor.in_ Go.Proofs.YtfigjfckelichaaGreatDoor.ats Go.Proofs.YtfigjfckelichaaGreatDoor.pos Go.Proofs.YtfigjfckelichaaGreatDoor.trk Go.Proofs.YtfigjfckelichaaGreatDoor.trkm Go.Proofs.YtfigjfckelichaaGreatDoor.trke Go.Proofs.YtfigjfckelichaaGreatDoor.intc Go.Proofs.YtfigjfckelichaaGreatDoor.asg

theorem cells2 {w : World} {B n k : Nat} {A : Option Addr} {zs : List Int} (h : RdZ 2 w B A n zs) (hk : k < n) :
    ∃ b o, A = some ⟨b, o, none⟩ ∧ b < B ∧ w.cell? ⟨b, o + k * 2, none⟩ = some (.int .i64 (fld 2 zs k 0)) ∧ w.cell? ⟨b, o + k * 2 + 1, none⟩ = some (.int .i64 (fld 2 zs k 1)) := by
  obtain ⟨b, o, e, hb, hc⟩ := h.at_ hk
  exact ⟨b, o, e, hb, hc 0 (by omega), hc 1 (by omega)⟩
/-- The distance of two places. -/
def ds (x y u v : Int) : Int := ((x - u).natAbs : Int) + ((y - v).natAbs : Int)
theorem ds_in {x y u v : Int} (h1 : pB x y = true) (h2 : pB u v = true) : 0 ≤ ds x y u v ∧ ds x y u v ≤ 19798 := by
  have p := pB_yes h1
  have q := pB_yes h2
  unfold ds
  omega
theorem ds_pst (zs ps : List Int) (i k : Nat) : ds (fld 6 zs i 2) (fld 6 zs i 3) (fld 2 ps k 0) (fld 2 ps k 1) = pst zs ps i k := rfl
theorem pl_cut {ps : List Int} {m k : Nat} (h : plT ps k = false) (hk : k ≤ m) : plT ps m = false := by
  cases hq : plT ps m
  · rfl
  · have : ∀ j, j ≤ m → plT ps j = true := by
      intro j
      induction j with
      | zero => intro _; rfl
      | succ j ih => intro hj; rw [plT, ih (by omega), plT_at hq (by omega)]; rfl
    rw [this k hk] at h; cases h

set_option maxRecDepth 100000 in
theorem distance15 (i s x y h l u v : Int) (h1 : pB x y = true) (h2 : pB u v = true) (w : World) :
    Calls Tryz.prog 69 #[.agg #[.int .i64 i, .int .i64 s, .int .i64 x, .int .i64 y, .int .i64 h, .int .i64 l], .agg #[.int .i64 u, .int .i64 v]] w fun e w' => e = .returned (.int .i64 (ds x y u v)) ∧ Below w.heap.size w w' := by
  obtain ⟨⟨p0, p1⟩, p2, p3⟩ := pB_yes h1
  obtain ⟨⟨q0, q1⟩, q2, q3⟩ := pB_yes h2
  have G1 := Lib.hid (fun w d => aid.quiet_left (post.abs7 (x - u) (World.drewN w d) (by omega) (by omega)))
  have G2 := Lib.hid (fun w d => aid.quiet_left (post.abs7 (y - v) (World.drewN w d) (by omega) (by omega)))
  have e1 : IntKind.i64.wrap (x - u) = x - u := IntWalk.i64_in _ (by omega)
  have e2 : IntKind.i64.wrap (y - v) = y - v := IntWalk.i64_in _ (by omega)
  have E0 := Lib.hid (show Below w.heap.size w ((w.alloc (.cells #[.int .i64 i, .int .i64 s, .int .i64 x, .int .i64 y, .int .i64 h, .int .i64 l] 25)).alloc (.cells #[.int .i64 u, .int .i64 v] 35)) from ((Below.refl _ _).alloc (Nat.le_refl _) _).alloc (by rw [World.size_alloc]; omega) _)
  unfold ds
  have u0 : (0 : Int) ≤ ((x - u).natAbs : Int) := by omega
  have u1 : ((x - u).natAbs : Int) ≤ 20000 := by omega
  have v0 : (0 : Int) ≤ ((y - v).natAbs : Int) := by omega
  have v1 : ((y - v).natAbs : Int) ≤ 20000 := by omega
  generalize ((x - u).natAbs : Int) = a at *
  generalize ((y - v).natAbs : Int) = b at *
  have e3 : IntKind.i64.wrap (a + b) = a + b := IntWalk.i64_in _ (by omega)
  clear h1 h2
  go_enter Tryz.func69, Tryz.ntmps69
  go_wp2_with fail
  go_quiet ((go_at_call 101; first | (with_reducible exact G1.out _ _) | (with_reducible exact G2.out _ _)))
  go_wp2_with fail
  go_ret
  exact ⟨rfl, aid.below_drewN E0.out _⟩

theorem take_next {xs : List Int} {k : Nat} {x : Int} (h : xs[k]? = some x) : xs.take (k + 1) = xs.take k ++ [x] := by
  have hl := (List.getElem?_eq_some_iff.1 h).1
  have hx := (List.getElem?_eq_some_iff.1 h).2
  rw [List.take_succ_eq_append_getElem hl, hx]
theorem has1 (xs : List Int) (d : Int) (A : Option Addr) (n c : Nat) (w : World) (hn : n ≤ 1048577) (h : RdI w w.heap.size A n xs) :
    Calls Tryz.prog 93 #[.slice A n c, .int .i64 d] w fun e w' => e = .returned (.bool (xs.contains d)) ∧ w = w' := by
  have HR := Lib.hid h
  have HL := Lib.hid h.1
  clear h
  obtain ⟨p, hp⟩ : ∃ p, xs.contains d = p := ⟨_, rfl⟩
  rw [hp]
  have HP := Lib.hid hp
  clear hp
  go_enter Tryz.func93, Tryz.ntmps93
  go_wp2_with fail
  go_loop [5] (fun i => ∃ k : Nat, k ≤ n ∧ i = .int .i64 k ∧ (xs.take k).contains d = false) (fun i => n - (intOf i).toNat)
  case atStart => exact ⟨0, Nat.zero_le _, rfl, rfl⟩
  case round =>
    obtain ⟨k, hk, rfl, hno⟩ := hrel
    have HO := Lib.hid hno
    clear hno
    by_cases hlt : k < n
    · obtain ⟨b, o, x, rfl, hb, hx, hc⟩ := HR.out.at_ hlt
      have hlt2 : (k : Int) < (n : Int) := by omega
      by_cases he : x = d
      · have h1 : (x == d) = true := beq_iff_eq.mpr he
        have HT := Lib.hid (show p = true by rw [← HP.out, List.contains_iff_mem, ← he]; exact List.mem_of_getElem? hx)
        clear he hx
        go_wp2_with fail
        go_ret
        exact ⟨by rw [HT.out]; rfl, rfl⟩
      · have h1 : (x == d) = false := beq_eq_false_iff_ne.mpr he
        have HT := Lib.hid (show (xs.take (k + 1)).contains d = false by
          have := HO.out
          rw [take_next hx]
          rw [Bool.eq_false_iff] at this ⊢
          rw [ne_eq, List.contains_iff_mem] at this ⊢
          rw [List.mem_append]
          rintro (h2 | h2)
          · exact this h2
          · simp at h2; exact he h2.symm)
        clear he hx
        go_wp2_with fail
        go_round
        case rel => exact ⟨k + 1, by omega, by go_num, HT.out⟩
        case measure => simp [intOf]; omega
    · obtain rfl : k = n := by omega
      have HT := Lib.hid (show p = false by rw [← HP.out]; have := HO.out; rw [List.take_of_length_le (by have := HL.out; omega)] at this; exact this)
      go_wp2_with fail
      go_ret
      exact ⟨by rw [HT.out]; rfl, rfl⟩

set_option maxRecDepth 100000 in
set_option maxHeartbeats 2000000 in
theorem asked15 (zs ps : List Int) (g : Int) (A C : Option Addr) (n c m cq : Nat) (w : World) (hn : n ≤ 1048577) (hm : m ≤ 1048577) (h1 : RdZ 6 w w.heap.size A n zs) (h2 : RdZ 2 w w.heap.size C m ps) :
    Calls Tryz.prog 59 #[.slice A n c, .slice C m cq, .int .i64 g] w fun e w' => e = .returned (.bool (akB zs n ps m g)) ∧ Below w.heap.size w w' := by
  have HNO := Lib.hid (fun k (hk : k < m) (h : plT ps (k + 1) = false) => show akB zs n ps m g = false by unfold akB; rw [pl_cut h hk, Bool.false_and, Bool.false_and, Bool.and_false])
  have HE := Lib.hid (show akB zs n ps m g = (tvB zs n && (decide (m ≤ 5) && (plT ps m && isIn g 0 1000))) by
    unfold akB
    rw [Bool.eq_iff_iff]
    simp only [Bool.and_eq_true, decide_eq_true_eq]
    constructor
    · rintro ⟨a1, ⟨a2, a3⟩, a4⟩; exact ⟨a1, a3, a2, a4⟩
    · rintro ⟨a1, a2, a3, a4⟩; exact ⟨a1, ⟨a3, a2⟩, a4⟩)
  have H1 := Lib.hid (fun W (hb : Below w.heap.size w W) => trks.list14 zs A n c W hn (h1.next hb))
  have HI := Lib.hid (fun W => l1In g 0 1000 W)
  have HR := Lib.hid h2
  clear h1 h2
  generalize tvB zs n = p at *
  generalize isIn g 0 1000 = gi at *
  go_enter Tryz.func59, Tryz.ntmps59
  go_wp2_with fail
  go_loopw [7] (fun i wr => ∃ k : Nat, k ≤ m ∧ k ≤ 6 ∧ i = .int .i64 k ∧ Below w.heap.size w wr ∧ plT ps k = true) (fun i _ => m - (intOf i).toNat)
  case atStart => exact ⟨0, Nat.zero_le _, by omega, rfl, Below.refl _ _, rfl⟩
  case round =>
    obtain ⟨k, hk, hk6, rfl, hb, hck⟩ := hrel
    have HB := Lib.hid hb
    have HCK := Lib.hid hck
    by_cases hgo : k < m ∧ k ≤ 5
    · obtain ⟨hlt, hk5⟩ := hgo
      have hlt2 : (k : Int) < (m : Int) := by omega
      have hk52 : (k : Int) ≤ 5 := by omega
      obtain ⟨b1, o1, rfl, l1, p0, p1⟩ := cells2 (HR.out.below hb (Nat.le_refl _)) hlt
      have HS := Lib.hid (show plT ps (k + 1) = pB (fld 2 ps k 0) (fld 2 ps k 1) by rw [plT, hck, Bool.true_and])
      have X1 := Lib.hid (fun w => poss.good7 (fld 2 ps k 0) (fld 2 ps k 1) w)
      have HNk := Lib.hid (HNO.out k hlt)
      clear hb hck
      generalize pB (fld 2 ps k 0) (fld 2 ps k 1) = pb at *
      generalize fld 2 ps k 0 = u0 at *
      generalize fld 2 ps k 1 = u1 at *
      go_wp2_with fail
      refine (X1.out _).mono ?_
      rintro e w2 ⟨rfl, hb2⟩
      have B2 := Lib.hid (HB.out.trans (hb2.mono HB.out.size))
      clear hb2 HB
      cases pb
      · have HF := Lib.hid (HNk.out HS.out)
        go_wp2_with fail
        go_ret
        exact ⟨by rw [HF.out]; rfl, B2.out⟩
      · have HT := Lib.hid HS.out
        clear HS HNk
        go_wp2_with fail
        go_roundw
        case rel => exact ⟨k + 1, by omega, by omega, by go_num, B2.out, HT.out⟩
        case measure => simp [intOf]; omega
    · have HX := Lib.hid (H1.out wr hb)
      have HEE := Lib.hid (show akB zs n ps m g = (p && (decide (m ≤ 5) && gi)) by
        rw [HE.out]
        by_cases h5 : m ≤ 5
        · obtain rfl : k = m := by omega
          rw [hck, Bool.true_and]
        · rw [decide_eq_false h5]; rfl)
      clear hb hck HNO HE HR H1
      by_cases hlt : k < m
      · have hlt2 : (k : Int) < (m : Int) := by omega
        have hk52 : ¬ (k : Int) ≤ 5 := by omega
        have g5 : ¬ (m : Int) ≤ 5 := by omega
        rw [decide_eq_false (show ¬ m ≤ 5 by omega), Bool.false_and, Bool.and_false] at HEE
        clear hgo
        go_wp2_with fail
        refine HX.out.mono ?_
        rintro e w2 ⟨rfl, hb2⟩
        have B2 := Lib.hid (HB.out.trans (hb2.mono HB.out.size))
        clear hb2 HB
        cases p
        · go_wp2_with fail
          go_ret
          exact ⟨by rw [HEE.out]; rfl, B2.out⟩
        · go_wp2_with fail
          go_ret
          exact ⟨by rw [HEE.out]; rfl, B2.out⟩
      · obtain rfl : k = m := by omega
        clear hgo
        by_cases h5 : k ≤ 5
        · have g5 : (k : Int) ≤ 5 := by omega
          rw [decide_eq_true h5, Bool.true_and] at HEE
          go_wp2_with fail
          refine HX.out.mono ?_
          rintro e w2 ⟨rfl, hb2⟩
          have B2 := Lib.hid (HB.out.trans (hb2.mono HB.out.size))
          clear hb2 HB
          cases p
          · rw [Bool.false_and] at HEE
            go_wp2_with fail
            go_ret
            exact ⟨by rw [HEE.out]; rfl, B2.out⟩
          · rw [Bool.true_and] at HEE
            go_wp2_with fail
            refine (HI.out _).mono ?_
            rintro e w3 ⟨rfl, rfl⟩
            go_wp2_with fail
            go_ret
            exact ⟨by rw [HEE.out]; rfl, B2.out⟩
        · have g5 : ¬ (k : Int) ≤ 5 := by omega
          rw [decide_eq_false h5, Bool.false_and, Bool.and_false] at HEE
          go_wp2_with fail
          refine HX.out.mono ?_
          rintro e w2 ⟨rfl, hb2⟩
          have B2 := Lib.hid (HB.out.trans (hb2.mono HB.out.size))
          clear hb2 HB
          cases p
          · go_wp2_with fail
            go_ret
            exact ⟨by rw [HEE.out]; rfl, B2.out⟩
          · go_wp2_with fail
            go_ret
            exact ⟨by rw [HEE.out]; rfl, B2.out⟩
end Go.Proofs.YtfigjfckelichaaGreatDoor.asgs
