/- spec's draw of a place near a sector. -/
import Derived.Test.YtkndfklbonkbiaaDrawS17
import Derived.Test.YtkndfklbonkbiaaDrawP7
import Derived.Test.YtkndfklbonkbiaaSctS
namespace Go.Proofs.Ytkndfklbonkbiaa.drawu17
set_option linter.unusedVariables false
set_option linter.unusedSimpArgs false
open Go.RowKit Go.Proofs.Ytkndfklbonkbiaa.cur Go.Proofs.Ytkndfklbonkbiaa.atc Go.Proofs.Ytkndfklbonkbiaa.ats Go.Proofs.Ytkndfklbonkbiaa.ints Go.Proofs.Ytkndfklbonkbiaa.lst Go.Proofs.Ytkndfklbonkbiaa.scth Go.Proofs.Ytkndfklbonkbiaa.scte Go.Proofs.Ytkndfklbonkbiaa.sctj Go.Proofs.Ytkndfklbonkbiaa.tailh Go.Proofs.Ytkndfklbonkbiaa.draws17

/-- What a draw of a place returns. -/
def PtQ (p m : Nat) (w : World) (e : Ending) (w' : World) : Prop := ∃ x y : Int, e = .returned (.agg #[.int .i64 x, .int .i64 y]) ∧ Cur w' p m ∧ w.grownBy w' (some p)
/-- All corners of a row, at a world. -/
def Rw (zs : List Int) (n g : Nat) (W : World) : Prop := ∀ k, k < n → W.cell? ⟨g, k * 2, none⟩ = some (.int .i64 (cX zs k)) ∧ W.cell? ⟨g, k * 2 + 1, none⟩ = some (.int .i64 (cY zs k))
theorem rw_of {W : World} {B g n c : Nat} {zs : List Int} (h : W.ownsRow B 31 2 (.slice (some ⟨g, 0, none⟩) n c) n (cellsI zs)) : Rw zs n g W := by
  have hl : zs.length = n * 2 := by have := h.1; unfold cellsI at this; simpa using this
  intro k hk
  have := (sctu.corner (RdZ.of_own h hl) hk (Below.refl _ W)).1
  rw [Nat.zero_add] at this
  exact this
set_option maxRecDepth 100000 in
set_option maxHeartbeats 8000000 in
theorem spot (d : Int) (zs : List Int) (A : Option Addr) (n c B p m : Nat) (w : World) (h : Cur w p m) (hm : m ≤ 200000) (hn : n ≤ 6) (hpB : p < B) (ho : w.ownsRow B 31 2 (.slice A n c) n (cellsI zs)) :
    Calls Try.prog 54 #[.pointer (some ⟨p, 0, none⟩), .agg #[.int .i64 d, .slice A n c]] w (PtQ p (m + 60) w) := by
  have hpb : p < w.heap.size := h.lt
  have hpr : p < w.heap.size + 1 := by omega
  have HT := Lib.hid ((Blk.new 42 #[.int .i64 d, .slice A n c] w).alloc (.cells #[.int .i64 0, .int .i64 0] 31))
  have HZ := Lib.hid (Blk.new 31 #[.int .i64 0, .int .i64 0] (w.alloc (.cells #[.int .i64 d, .slice A n c] 42)))
  rw [World.size_alloc] at HZ
  have HC := Lib.hid (Cur.alloc (Cur.alloc h (.cells #[.int .i64 d, .slice A n c] 42)) (.cells #[.int .i64 0, .int .i64 0] 31))
  have HG := Lib.hid (grown_trans (grown_alloc (w := w) (.cells #[.int .i64 d, .slice A n c] 42) (some p)) (grown_alloc (.cells #[.int .i64 0, .int .i64 0] 31) (some p)))
  have OW := Lib.hid (own_.own_below (own_.own_below ho ((Below.refl _ _).alloc (Nat.le_refl _) (.cells #[.int .i64 d, .slice A n c] 42))) ((Below.refl _ _).alloc (Nat.le_refl _) (.cells #[.int .i64 0, .int .i64 0] 31)))
  clear h ho
  by_cases hlt : (n : Int) < 3
  · go_enter Try.func54, Try.ntmps54
    go_upto_region 1 with fail
    generalize (w.alloc (.cells #[.int .i64 d, .slice A n c] 42)).alloc (.cells #[.int .i64 0, .int .i64 0] 31) = W0 at *
    have t1_ : W0.cell? ⟨w.heap.size, 1, none⟩ = some (.slice A n c) := HT.out.cell 1 _ rfl
    go_wp2_with fail
    clear t1_
    refine (drawp7.anyPlace p _ W0 HC.out (by omega)).mono ?_
    rintro e w1 ⟨x, y, rfl, -, hc, hg⟩
    have OW := Lib.hid (own_kept OW.out hg (fun g e => by cases e; exact hpB))
    have HT := Lib.hid (HT.out.grown hg (Nat.ne_of_gt hpb))
    have HZ := Lib.hid (HZ.out.grown hg (Nat.ne_of_gt hpr))
    have HC := Lib.hid hc
    have HG := Lib.hid (grown_trans HG.out hg)
    clear hc hg
    have z0_ : w1.cell? ⟨w.heap.size + 1, 0, none⟩ = some (.int .i64 0) := HZ.out.cell 0 _ rfl
    have z1_ : w1.cell? ⟨w.heap.size + 1, 1, none⟩ = some (.int .i64 0) := HZ.out.cell 1 _ rfl
    have zf0_ := HZ.out.frozen 0
    have zf1_ := HZ.out.frozen 1
    have HZ := Lib.hid (draws17.Blk.set (draws17.Blk.set HZ.out 0 (.int .i64 x)) 1 (.int .i64 y))
    have HC := Lib.hid (Cur.set (Cur.set HC.out hpr (i := 0) (v := .int .i64 x)) hpr (i := 1) (v := .int .i64 y))
    have HG := Lib.hid (grown_put (grown_put HG.out (Nat.le_succ _) (i := 0) (v := .int .i64 x)) (Nat.le_succ _) (i := 1) (v := .int .i64 y))
    clear HT OW
    go_wp2_with fail
    have hl := HZ.out.load Try.underlying31 rfl (by kernel_rfl)
    refine bodyPost_ret (v := .agg #[.int .i64 x, .int .i64 y]) ?_ rfl ⟨_, _, rfl, HC.out.more (by omega), HG.out⟩
    rw [results_cell1 rfl]
    simp [asAddr, Result.andThen, hl]
  · obtain ⟨g, rfl⟩ := row_some OW.out (by omega)
    have hnc := (own_le OW.out).1
    have hn3 : (3 : Int) ≤ (n : Int) := by omega
    go_enter Try.func54, Try.ntmps54
    go_upto_region 1 with fail
    generalize (w.alloc (.cells #[.int .i64 d, .slice (some ⟨g, 0, none⟩) n c] 42)).alloc (.cells #[.int .i64 0, .int .i64 0] 31) = W0 at *
    have t1_ : W0.cell? ⟨w.heap.size, 1, none⟩ = some (.slice (some ⟨g, 0, none⟩) n c) := HT.out.cell 1 _ rfl
    go_wp2_with fail
    clear t1_
    refine (one p _ 6 W0 HC.out (by omega) (by omega) (by omega)).mono ?_
    rintro e w1 ⟨k, rfl, hc, hg⟩
    have OW := Lib.hid (own_kept OW.out hg (fun g e => by cases e; exact hpB))
    have HT := Lib.hid (HT.out.grown hg (Nat.ne_of_gt hpb))
    have HZ := Lib.hid (HZ.out.grown hg (Nat.ne_of_gt hpr))
    have HC := Lib.hid hc
    have HG := Lib.hid (grown_trans HG.out hg)
    clear hc hg
    cases k
    · go_upto_region 3 with fail
      have OW := Lib.hid (own_drew OW.out)
      have HT := Lib.hid HT.out.drew
      have HZ := Lib.hid HZ.out.drew
      have HC := Lib.hid (HC.out.keep (Below.refl _ _).drew)
      have HG := Lib.hid (draws17.grown_drew HG.out)
      go_cut [5, 6] from 18 to 35 (fun u v wz => ∃ (pa pb : Nat) (x1 y1 x2 y2 : Int), u = .pointer (some ⟨pa, 0, none⟩) ∧ v = .pointer (some ⟨pb, 0, none⟩) ∧ Blk 31 #[.int .i64 x1, .int .i64 y1] wz pa ∧ Blk 31 #[.int .i64 x2, .int .i64 y2] wz pb ∧ Blk 31 #[.int .i64 0, .int .i64 0] wz (w.heap.size + 1) ∧ Cur wz p (m + 30) ∧ w.grownBy wz (some p))
      case first =>
        refine wp_region_tail (S := fun w' => World.cell? w' ⟨w.heap.size, 1, none⟩ = some (.slice (some ⟨g, 0, none⟩) n c) ∧ Rw zs n g w') 21 (by kernel_rfl) ⟨HT.out.cell 1 _ rfl, rw_of OW.out⟩ (fun hHeld => ?_)
        generalize w1.drew = W1 at *
        try simp only [Act.put, List.getElem_toArray, List.getElem_cons_succ, List.getElem_cons_zero, List.setIfInBounds_toArray, List.set_cons_succ, List.set_cons_zero]
        refine wpAnyE_take (i := 0) (v := ?vt1_0) rfl (by decide +kernel) (fun _ _ _ h => h) (Or.inl ⟨by first | rfl | kernel_rfl, ?ht1_0⟩) (by assumption) ?rt1_0
        case ht1_0 =>
          intro wS hSw
          obtain ⟨h0, h1⟩ := hSw
          go_simp
          try with_reducible rfl
        try simp only [Act.put, List.getElem_toArray, List.getElem_cons_succ, List.getElem_cons_zero, List.setIfInBounds_toArray, List.set_cons_succ, List.set_cons_zero]
        refine wpAnyE_take (i := 1) (v := ?vt1_1) rfl (by decide +kernel) (fun _ _ _ h => h) (Or.inl ⟨by first | rfl | kernel_rfl, ?ht1_1⟩) (by assumption) ?rt1_1
        case ht1_1 =>
          intro wS hSw
          obtain ⟨h0, h1⟩ := hSw
          go_simp
          try with_reducible rfl
        try simp only [Act.put, List.getElem_toArray, List.getElem_cons_succ, List.getElem_cons_zero, List.setIfInBounds_toArray, List.set_cons_succ, List.set_cons_zero]
        refine wpAnyE_take (i := 2) (v := ?vt1_2) rfl (by decide +kernel) (fun _ _ _ h => h) (Or.inl ⟨by first | rfl | kernel_rfl, ?ht1_2⟩) (by assumption) ?rt1_2
        case ht1_2 =>
          intro wS hSw
          obtain ⟨h0, h1⟩ := hSw
          go_simp
          try with_reducible rfl
        try simp only [Act.put, List.getElem_toArray, List.getElem_cons_succ, List.getElem_cons_zero, List.setIfInBounds_toArray, List.set_cons_succ, List.set_cons_zero]
        refine wpAnyE_take (i := 3) (v := ?vt1_3) rfl (by decide +kernel) (fun _ _ _ h => h) (Or.inl ⟨by first | rfl | kernel_rfl, ?ht1_3⟩) (by assumption) ?rt1_3
        case ht1_3 =>
          intro wS hSw
          obtain ⟨h0, h1⟩ := hSw
          go_simp
          try with_reducible rfl
        try simp only [Act.put, List.getElem_toArray, List.getElem_cons_succ, List.getElem_cons_zero, List.setIfInBounds_toArray, List.set_cons_succ, List.set_cons_zero]
        refine wpAnyE_take (i := 4) (v := ?vt1_4) rfl (by decide +kernel) (fun _ _ _ h => h) (Or.inl ⟨by first | rfl | kernel_rfl, ?ht1_4⟩) (by assumption) ?rt1_4
        case ht1_4 =>
          intro wS hSw
          obtain ⟨h0, h1⟩ := hSw
          go_simp
          try with_reducible rfl
        try simp only [Act.put, List.getElem_toArray, List.getElem_cons_succ, List.getElem_cons_zero, List.setIfInBounds_toArray, List.set_cons_succ, List.set_cons_zero]
        refine wpAnyE_take (i := 5) (v := ?vt1_5) rfl (by decide +kernel) (fun _ _ _ h => h) (Or.inl ⟨by first | rfl | kernel_rfl, ?ht1_5⟩) (by assumption) ?rt1_5
        case ht1_5 =>
          intro wS hSw
          obtain ⟨h0, h1⟩ := hSw
          go_simp
          try with_reducible rfl
        try simp only [Act.put, List.getElem_toArray, List.getElem_cons_succ, List.getElem_cons_zero, List.setIfInBounds_toArray, List.set_cons_succ, List.set_cons_zero]
        refine wpAnyE_take (i := 9) (v := ?vt1_9) rfl (by decide +kernel) (fun _ _ _ h => h) (Or.inl ⟨by first | rfl | kernel_rfl, ?ht1_9⟩) (by assumption) ?rt1_9
        case ht1_9 =>
          intro wS hSw
          obtain ⟨h0, h1⟩ := hSw
          go_simp
          try with_reducible rfl
        try simp only [Act.put, List.getElem_toArray, List.getElem_cons_succ, List.getElem_cons_zero, List.setIfInBounds_toArray, List.set_cons_succ, List.set_cons_zero]
        refine wpAnyE_take (i := 10) (v := ?vt1_10) rfl (by decide +kernel) (fun _ _ _ h => h) (Or.inl ⟨by first | rfl | kernel_rfl, ?ht1_10⟩) (by assumption) ?rt1_10
        case ht1_10 =>
          intro wS hSw
          obtain ⟨h0, h1⟩ := hSw
          go_simp
          try with_reducible rfl
        try simp only [Act.put, List.getElem_toArray, List.getElem_cons_succ, List.getElem_cons_zero, List.setIfInBounds_toArray, List.set_cons_succ, List.set_cons_zero]
        refine wpAnyE_take (i := 11) (v := ?vt1_11) rfl (by decide +kernel) (fun _ _ _ h => h) (Or.inl ⟨by first | rfl | kernel_rfl, ?ht1_11⟩) (by assumption) ?rt1_11
        case ht1_11 =>
          intro wS hSw
          obtain ⟨h0, h1⟩ := hSw
          go_simp
          try with_reducible rfl
        try simp only [Act.put, List.getElem_toArray, List.getElem_cons_succ, List.getElem_cons_zero, List.setIfInBounds_toArray, List.set_cons_succ, List.set_cons_zero]
        refine wpAnyE_take (i := 12) (v := ?vt1_12) rfl (by decide +kernel) (fun _ _ _ h => h) (Or.inl ⟨by first | rfl | kernel_rfl, ?ht1_12⟩) (by assumption) ?rt1_12
        case ht1_12 =>
          intro wS hSw
          obtain ⟨h0, h1⟩ := hSw
          go_simp
          try with_reducible rfl
        try simp only [Act.put, List.getElem_toArray, List.getElem_cons_succ, List.getElem_cons_zero, List.setIfInBounds_toArray, List.set_cons_succ, List.set_cons_zero]
        refine wpAnyE_take (i := 13) (v := ?vt1_13) rfl (by decide +kernel) (fun _ _ _ h => h) (Or.inl ⟨by first | rfl | kernel_rfl, ?ht1_13⟩) (by assumption) ?rt1_13
        case ht1_13 =>
          intro wS hSw
          obtain ⟨h0, h1⟩ := hSw
          go_simp
          try with_reducible rfl
        try simp only [Act.put, List.getElem_toArray, List.getElem_cons_succ, List.getElem_cons_zero, List.setIfInBounds_toArray, List.set_cons_succ, List.set_cons_zero]
        refine wpAnyE_take (i := 14) (v := ?vt1_14) rfl (by decide +kernel) (fun _ _ _ h => h) (Or.inl ⟨by first | rfl | kernel_rfl, ?ht1_14⟩) (by assumption) ?rt1_14
        case ht1_14 =>
          intro wS hSw
          obtain ⟨h0, h1⟩ := hSw
          go_simp
          try with_reducible rfl
        try simp only [Act.put, List.getElem_toArray, List.getElem_cons_succ, List.getElem_cons_zero, List.setIfInBounds_toArray, List.set_cons_succ, List.set_cons_zero]
        refine wpAnyE_ready (rs := [6, 18, 19]) (by kernel_rfl) (by simp) ?_
        refine AllReadyE.cons (i := 6) rfl (by decide) (fun K hK => ?_) (AllReadyE.cons (i := 18) rfl (by decide) (fun K hK => ?_) (AllReadyE.cons (i := 19) rfl (by decide) (fun K hK => ?_) AllReadyE.nil))
        · go_simp
          refine (pick p _ (n : Int) W1 HC.out (by omega) (by omega) (by omega)).mono ?_
          rintro e x1 ⟨j, rfl, j0, j1, hc, hg⟩
          obtain ⟨jn, rfl⟩ := Int.eq_ofNat_of_zero_le j0
          have hjn : jn < n := by omega
          have hji : (jn : Int) < (n : Int) := by omega
          have hjz : (0 : Int) ≤ (jn : Int) := j0
          have OW := Lib.hid (own_kept OW.out hg (fun g e => by cases e; exact hpB))
          have HT := Lib.hid (HT.out.grown hg (Nat.ne_of_gt hpb))
          have HZ := Lib.hid (HZ.out.grown hg (Nat.ne_of_gt hpr))
          have HC := Lib.hid hc
          have HG := Lib.hid (grown_trans HG.out hg)
          clear hc hg
          go_simp
          refine hK.out _ _ ⟨HT.out.cell 1 _ rfl, rw_of OW.out⟩ (fun hHeld => ?_)
          clear hK K
          try simp only [Act.put, List.getElem_toArray, List.getElem_cons_succ, List.getElem_cons_zero, List.setIfInBounds_toArray, List.set_cons_succ, List.set_cons_zero]
          refine wpAnyE_take (i := 7) (v := ?vt2_7) rfl (by decide +kernel) (fun _ _ _ h => h) (Or.inl ⟨by first | rfl | kernel_rfl, ?ht2_7⟩) (by assumption) ?rt2_7
          case ht2_7 =>
            intro wS hSw
            obtain ⟨h0, h1⟩ := hSw
            go_simp
            try with_reducible rfl
          try simp only [Act.put, List.getElem_toArray, List.getElem_cons_succ, List.getElem_cons_zero, List.setIfInBounds_toArray, List.set_cons_succ, List.set_cons_zero]
          refine wpAnyE_take (i := 8) (v := ?vt2_8) rfl (by decide +kernel) (fun _ _ _ h => h) (Or.inl ⟨by first | rfl | kernel_rfl, ?ht2_8⟩) (by assumption) ?rt2_8
          case ht2_8 =>
            intro wS hSw
            obtain ⟨h0, h1⟩ := hSw
            obtain ⟨q0, q1⟩ := h1 jn hjn
            clear h1
            go_simp
            try with_reducible rfl
          try simp only [Act.put, List.getElem_toArray, List.getElem_cons_succ, List.getElem_cons_zero, List.setIfInBounds_toArray, List.set_cons_succ, List.set_cons_zero]
          refine wpAnyE_ready (rs := [15, 18, 19]) (by kernel_rfl) (by simp) ?_
          refine AllReadyE.cons (i := 15) rfl (by decide) (fun K hK => ?_) (AllReadyE.cons (i := 18) rfl (by decide) (fun K hK => ?_) (AllReadyE.cons (i := 19) rfl (by decide) (fun K hK => ?_) AllReadyE.nil))
          · go_simp
            refine (pick p _ (n : Int) x1 HC.out (by omega) (by omega) (by omega)).mono ?_
            rintro e x2 ⟨q, rfl, q0, q1, hc, hg⟩
            obtain ⟨qn, rfl⟩ := Int.eq_ofNat_of_zero_le q0
            have hqn : qn < n := by omega
            have hqi : (qn : Int) < (n : Int) := by omega
            have hqz : (0 : Int) ≤ (qn : Int) := q0
            have OW := Lib.hid (own_kept OW.out hg (fun g e => by cases e; exact hpB))
            have HT := Lib.hid (HT.out.grown hg (Nat.ne_of_gt hpb))
            have HZ := Lib.hid (HZ.out.grown hg (Nat.ne_of_gt hpr))
            have HC := Lib.hid hc
            have HG := Lib.hid (grown_trans HG.out hg)
            clear hc hg
            go_simp
            refine hK.out _ _ ⟨HT.out.cell 1 _ rfl, rw_of OW.out⟩ (fun hHeld => ?_)
            clear hK K
            try simp only [Act.put, List.getElem_toArray, List.getElem_cons_succ, List.getElem_cons_zero, List.setIfInBounds_toArray, List.set_cons_succ, List.set_cons_zero]
            refine wpAnyE_take (i := 16) (v := ?vt3_16) rfl (by decide +kernel) (fun _ _ _ h => h) (Or.inl ⟨by first | rfl | kernel_rfl, ?ht3_16⟩) (by assumption) ?rt3_16
            case ht3_16 =>
              intro wS hSw
              obtain ⟨h0, h1⟩ := hSw
              go_simp
              try with_reducible rfl
            try simp only [Act.put, List.getElem_toArray, List.getElem_cons_succ, List.getElem_cons_zero, List.setIfInBounds_toArray, List.set_cons_succ, List.set_cons_zero]
            refine wpAnyE_take (i := 17) (v := ?vt3_17) rfl (by decide +kernel) (fun _ _ _ h => h) (Or.inl ⟨by first | rfl | kernel_rfl, ?ht3_17⟩) (by assumption) ?rt3_17
            case ht3_17 =>
              intro wS hSw
              obtain ⟨h0, h1⟩ := hSw
              obtain ⟨q0, q1⟩ := h1 qn hqn
              clear h1
              go_simp
              try with_reducible rfl
            try simp only [Act.put, List.getElem_toArray, List.getElem_cons_succ, List.getElem_cons_zero, List.setIfInBounds_toArray, List.set_cons_succ, List.set_cons_zero]
            refine wpAnyE_ready (rs := [18, 19]) (by kernel_rfl) (by simp) ?_
            refine AllReadyE.cons (i := 18) rfl (by decide) (fun K hK => ?_) (AllReadyE.cons (i := 19) rfl (by decide) (fun K hK => ?_) AllReadyE.nil)
            · have ls51 : g < x2.heap.size := (own_le OW.out).2.2
              have ls52 : w.heap.size + 1 < x2.heap.size := HZ.out.lt
              have HA := Lib.hid (Blk.new 31 #[.int .i64 0, .int .i64 0] x2)
              have OW := Lib.hid (own_.own_below OW.out ((Below.refl _ _).alloc (Nat.le_refl _) (.cells #[.int .i64 0, .int .i64 0] 31)))
              have HT := Lib.hid (HT.out.alloc (.cells #[.int .i64 0, .int .i64 0] 31))
              have HZ := Lib.hid (HZ.out.alloc (.cells #[.int .i64 0, .int .i64 0] 31))
              have HC := Lib.hid (Cur.alloc HC.out (.cells #[.int .i64 0, .int .i64 0] 31))
              have HG := Lib.hid (grown_trans HG.out (grown_alloc (.cells #[.int .i64 0, .int .i64 0] 31) (some p)))
              go_simp
              generalize x2.alloc (.cells #[.int .i64 0, .int .i64 0] 31) = x3 at *
              generalize x2.heap.size = s5 at *
              refine hK.out _ _ ⟨HT.out.cell 1 _ rfl, rw_of OW.out⟩ (fun hHeld => ?_)
              clear hK K
              try simp only [Act.put, List.getElem_toArray, List.getElem_cons_succ, List.getElem_cons_zero, List.setIfInBounds_toArray, List.set_cons_succ, List.set_cons_zero]
              refine wpAnyE_ready (rs := [19]) (by kernel_rfl) (by simp) ?_
              refine AllReadyE.cons (i := 19) rfl (by decide) (fun K hK => ?_) AllReadyE.nil
              have ls61 : g < x3.heap.size := (own_le OW.out).2.2
              have ls62 : w.heap.size + 1 < x3.heap.size := HZ.out.lt
              have ls63 : s5 < x3.heap.size := HA.out.lt
              have HA := Lib.hid (HA.out.alloc (.cells #[.int .i64 0, .int .i64 0] 31))
              have HB := Lib.hid (Blk.new 31 #[.int .i64 0, .int .i64 0] x3)
              have OW := Lib.hid (own_.own_below OW.out ((Below.refl _ _).alloc (Nat.le_refl _) (.cells #[.int .i64 0, .int .i64 0] 31)))
              have HT := Lib.hid (HT.out.alloc (.cells #[.int .i64 0, .int .i64 0] 31))
              have HZ := Lib.hid (HZ.out.alloc (.cells #[.int .i64 0, .int .i64 0] 31))
              have HC := Lib.hid (Cur.alloc HC.out (.cells #[.int .i64 0, .int .i64 0] 31))
              have HG := Lib.hid (grown_trans HG.out (grown_alloc (.cells #[.int .i64 0, .int .i64 0] 31) (some p)))
              go_simp
              generalize x3.alloc (.cells #[.int .i64 0, .int .i64 0] 31) = x4 at *
              generalize x3.heap.size = s6 at *
              refine hK.out _ _ ⟨HT.out.cell 1 _ rfl, rw_of OW.out⟩ (fun hHeld => ?_)
              clear hK K
              try simp only [Act.put, List.getElem_toArray, List.getElem_cons_succ, List.getElem_cons_zero, List.setIfInBounds_toArray, List.set_cons_succ, List.set_cons_zero]
              generalize cX zs jn = a1 at *
              generalize cY zs jn = a2 at *
              generalize cX zs qn = b1 at *
              generalize cY zs qn = b2 at *
              have s0_ : x4.cell? ⟨s5, 0, none⟩ = some (.int .i64 0) := HA.out.cell 0 _ rfl
              have sf0_ := HA.out.frozen 0
              have s1_ : x4.cell? ⟨s5, 1, none⟩ = some (.int .i64 0) := HA.out.cell 1 _ rfl
              have sf1_ := HA.out.frozen 1
              refine wpAnyE_ready (rs := [20]) (by kernel_rfl) (by simp) ?_
              refine AllReadyE.cons (i := 20) rfl (by decide) (fun K hK => ?_) AllReadyE.nil
              go_simp
              have HA := Lib.hid (draws17.Blk.set (draws17.Blk.set HA.out 0 (.int .i64 a1)) 1 (.int .i64 a2))
              have HB := Lib.hid (draws17.Blk.other (draws17.Blk.other HB.out (show s6 ≠ s5 by omega) 0 (.int .i64 a1)) (show s6 ≠ s5 by omega) 1 (.int .i64 a2))
              have HT := Lib.hid (draws17.Blk.other (draws17.Blk.other HT.out (show w.heap.size ≠ s5 by omega) 0 (.int .i64 a1)) (show w.heap.size ≠ s5 by omega) 1 (.int .i64 a2))
              have HZ := Lib.hid (draws17.Blk.other (draws17.Blk.other HZ.out (show w.heap.size + 1 ≠ s5 by omega) 0 (.int .i64 a1)) (show w.heap.size + 1 ≠ s5 by omega) 1 (.int .i64 a2))
              have OW := Lib.hid (own_kept_at (own_kept_at OW.out (grown_set (grown_refl _ (some (s5))) 0 (.int .i64 a1)) (fun q e h => by injection h with h; have e2 : g = q := Option.some.inj e; omega)) (grown_set (grown_refl _ (some (s5))) 1 (.int .i64 a2)) (fun q e h => by injection h with h; have e2 : g = q := Option.some.inj e; omega))
              have HC := Lib.hid (Cur.set (Cur.set HC.out (show p < s5 by omega) (i := 0) (v := .int .i64 a1)) (show p < s5 by omega) (i := 1) (v := .int .i64 a2))
              have HG := Lib.hid (grown_put (grown_put HG.out (show w.heap.size ≤ s5 by omega) (i := 0) (v := .int .i64 a1)) (show w.heap.size ≤ s5 by omega) (i := 1) (v := .int .i64 a2))
              clear s0_ s1_ sf0_ sf1_
              generalize (x4.setCell ⟨s5, 0, none⟩ (.int .i64 a1)).setCell ⟨s5, 1, none⟩ (.int .i64 a2) = x5 at *
              refine hK.out _ _ ⟨HT.out.cell 1 _ rfl, rw_of OW.out⟩ (fun hHeld => ?_)
              clear hK K
              try simp only [Act.put, List.getElem_toArray, List.getElem_cons_succ, List.getElem_cons_zero, List.setIfInBounds_toArray, List.set_cons_succ, List.set_cons_zero]
              have s0_ : x5.cell? ⟨s6, 0, none⟩ = some (.int .i64 0) := HB.out.cell 0 _ rfl
              have sf0_ := HB.out.frozen 0
              have s1_ : x5.cell? ⟨s6, 1, none⟩ = some (.int .i64 0) := HB.out.cell 1 _ rfl
              have sf1_ := HB.out.frozen 1
              refine wpAnyE_ready (rs := [21]) (by kernel_rfl) (by simp) ?_
              refine AllReadyE.last (i := 21) rfl rfl (fun K hK => ?_)
              go_simp
              refine hK.out _ _ ?_
              clear hK K
              try simp only [Act.put, List.getElem_toArray, List.getElem_cons_succ, List.getElem_cons_zero, List.setIfInBounds_toArray, List.set_cons_succ, List.set_cons_zero]
              refine wpAnyE_done (by kernel_rfl) ?_ _
              try simp only [List.getElem_toArray, List.getElem_cons_succ, List.getElem_cons_zero, List.setIfInBounds_toArray, List.set_cons_succ, List.set_cons_zero]
              have HB := Lib.hid (draws17.Blk.set (draws17.Blk.set HB.out 0 (.int .i64 b1)) 1 (.int .i64 b2))
              have HA := Lib.hid (draws17.Blk.other (draws17.Blk.other HA.out (show s5 ≠ s6 by omega) 0 (.int .i64 b1)) (show s5 ≠ s6 by omega) 1 (.int .i64 b2))
              have HT := Lib.hid (draws17.Blk.other (draws17.Blk.other HT.out (show w.heap.size ≠ s6 by omega) 0 (.int .i64 b1)) (show w.heap.size ≠ s6 by omega) 1 (.int .i64 b2))
              have HZ := Lib.hid (draws17.Blk.other (draws17.Blk.other HZ.out (show w.heap.size + 1 ≠ s6 by omega) 0 (.int .i64 b1)) (show w.heap.size + 1 ≠ s6 by omega) 1 (.int .i64 b2))
              have OW := Lib.hid (own_kept_at (own_kept_at OW.out (grown_set (grown_refl _ (some (s6))) 0 (.int .i64 b1)) (fun q e h => by injection h with h; have e2 : g = q := Option.some.inj e; omega)) (grown_set (grown_refl _ (some (s6))) 1 (.int .i64 b2)) (fun q e h => by injection h with h; have e2 : g = q := Option.some.inj e; omega))
              have HC := Lib.hid (Cur.set (Cur.set HC.out (show p < s6 by omega) (i := 0) (v := .int .i64 b1)) (show p < s6 by omega) (i := 1) (v := .int .i64 b2))
              have HG := Lib.hid (grown_put (grown_put HG.out (show w.heap.size ≤ s6 by omega) (i := 0) (v := .int .i64 b1)) (show w.heap.size ≤ s6 by omega) (i := 1) (v := .int .i64 b2))
              clear s0_ s1_ sf0_ sf1_
              go_wp2_with fail
              go_meet
              exact ⟨_, _, _, _, _, _, rfl, rfl, HA.out, HB.out, HZ.out, HC.out.more (by omega), HG.out⟩
            · have ls61 : g < x2.heap.size := (own_le OW.out).2.2
              have ls62 : w.heap.size + 1 < x2.heap.size := HZ.out.lt
              have HB := Lib.hid (Blk.new 31 #[.int .i64 0, .int .i64 0] x2)
              have OW := Lib.hid (own_.own_below OW.out ((Below.refl _ _).alloc (Nat.le_refl _) (.cells #[.int .i64 0, .int .i64 0] 31)))
              have HT := Lib.hid (HT.out.alloc (.cells #[.int .i64 0, .int .i64 0] 31))
              have HZ := Lib.hid (HZ.out.alloc (.cells #[.int .i64 0, .int .i64 0] 31))
              have HC := Lib.hid (Cur.alloc HC.out (.cells #[.int .i64 0, .int .i64 0] 31))
              have HG := Lib.hid (grown_trans HG.out (grown_alloc (.cells #[.int .i64 0, .int .i64 0] 31) (some p)))
              go_simp
              generalize x2.alloc (.cells #[.int .i64 0, .int .i64 0] 31) = x6 at *
              generalize x2.heap.size = s6 at *
              refine hK.out _ _ ⟨HT.out.cell 1 _ rfl, rw_of OW.out⟩ (fun hHeld => ?_)
              clear hK K
              try simp only [Act.put, List.getElem_toArray, List.getElem_cons_succ, List.getElem_cons_zero, List.setIfInBounds_toArray, List.set_cons_succ, List.set_cons_zero]
              refine wpAnyE_ready (rs := [18]) (by kernel_rfl) (by simp) ?_
              refine AllReadyE.cons (i := 18) rfl (by decide) (fun K hK => ?_) AllReadyE.nil
              have ls51 : g < x6.heap.size := (own_le OW.out).2.2
              have ls52 : w.heap.size + 1 < x6.heap.size := HZ.out.lt
              have ls53 : s6 < x6.heap.size := HB.out.lt
              have HB := Lib.hid (HB.out.alloc (.cells #[.int .i64 0, .int .i64 0] 31))
              have HA := Lib.hid (Blk.new 31 #[.int .i64 0, .int .i64 0] x6)
              have OW := Lib.hid (own_.own_below OW.out ((Below.refl _ _).alloc (Nat.le_refl _) (.cells #[.int .i64 0, .int .i64 0] 31)))
              have HT := Lib.hid (HT.out.alloc (.cells #[.int .i64 0, .int .i64 0] 31))
              have HZ := Lib.hid (HZ.out.alloc (.cells #[.int .i64 0, .int .i64 0] 31))
              have HC := Lib.hid (Cur.alloc HC.out (.cells #[.int .i64 0, .int .i64 0] 31))
              have HG := Lib.hid (grown_trans HG.out (grown_alloc (.cells #[.int .i64 0, .int .i64 0] 31) (some p)))
              go_simp
              generalize x6.alloc (.cells #[.int .i64 0, .int .i64 0] 31) = x7 at *
              generalize x6.heap.size = s5 at *
              refine hK.out _ _ ⟨HT.out.cell 1 _ rfl, rw_of OW.out⟩ (fun hHeld => ?_)
              clear hK K
              try simp only [Act.put, List.getElem_toArray, List.getElem_cons_succ, List.getElem_cons_zero, List.setIfInBounds_toArray, List.set_cons_succ, List.set_cons_zero]
              generalize cX zs jn = a1 at *
              generalize cY zs jn = a2 at *
              generalize cX zs qn = b1 at *
              generalize cY zs qn = b2 at *
              have s0_ : x7.cell? ⟨s5, 0, none⟩ = some (.int .i64 0) := HA.out.cell 0 _ rfl
              have sf0_ := HA.out.frozen 0
              have s1_ : x7.cell? ⟨s5, 1, none⟩ = some (.int .i64 0) := HA.out.cell 1 _ rfl
              have sf1_ := HA.out.frozen 1
              refine wpAnyE_ready (rs := [20]) (by kernel_rfl) (by simp) ?_
              refine AllReadyE.cons (i := 20) rfl (by decide) (fun K hK => ?_) AllReadyE.nil
              go_simp
              have HA := Lib.hid (draws17.Blk.set (draws17.Blk.set HA.out 0 (.int .i64 a1)) 1 (.int .i64 a2))
              have HB := Lib.hid (draws17.Blk.other (draws17.Blk.other HB.out (show s6 ≠ s5 by omega) 0 (.int .i64 a1)) (show s6 ≠ s5 by omega) 1 (.int .i64 a2))
              have HT := Lib.hid (draws17.Blk.other (draws17.Blk.other HT.out (show w.heap.size ≠ s5 by omega) 0 (.int .i64 a1)) (show w.heap.size ≠ s5 by omega) 1 (.int .i64 a2))
              have HZ := Lib.hid (draws17.Blk.other (draws17.Blk.other HZ.out (show w.heap.size + 1 ≠ s5 by omega) 0 (.int .i64 a1)) (show w.heap.size + 1 ≠ s5 by omega) 1 (.int .i64 a2))
              have OW := Lib.hid (own_kept_at (own_kept_at OW.out (grown_set (grown_refl _ (some (s5))) 0 (.int .i64 a1)) (fun q e h => by injection h with h; have e2 : g = q := Option.some.inj e; omega)) (grown_set (grown_refl _ (some (s5))) 1 (.int .i64 a2)) (fun q e h => by injection h with h; have e2 : g = q := Option.some.inj e; omega))
              have HC := Lib.hid (Cur.set (Cur.set HC.out (show p < s5 by omega) (i := 0) (v := .int .i64 a1)) (show p < s5 by omega) (i := 1) (v := .int .i64 a2))
              have HG := Lib.hid (grown_put (grown_put HG.out (show w.heap.size ≤ s5 by omega) (i := 0) (v := .int .i64 a1)) (show w.heap.size ≤ s5 by omega) (i := 1) (v := .int .i64 a2))
              clear s0_ s1_ sf0_ sf1_
              generalize (x7.setCell ⟨s5, 0, none⟩ (.int .i64 a1)).setCell ⟨s5, 1, none⟩ (.int .i64 a2) = x8 at *
              refine hK.out _ _ ⟨HT.out.cell 1 _ rfl, rw_of OW.out⟩ (fun hHeld => ?_)
              clear hK K
              try simp only [Act.put, List.getElem_toArray, List.getElem_cons_succ, List.getElem_cons_zero, List.setIfInBounds_toArray, List.set_cons_succ, List.set_cons_zero]
              have s0_ : x8.cell? ⟨s6, 0, none⟩ = some (.int .i64 0) := HB.out.cell 0 _ rfl
              have sf0_ := HB.out.frozen 0
              have s1_ : x8.cell? ⟨s6, 1, none⟩ = some (.int .i64 0) := HB.out.cell 1 _ rfl
              have sf1_ := HB.out.frozen 1
              refine wpAnyE_ready (rs := [21]) (by kernel_rfl) (by simp) ?_
              refine AllReadyE.last (i := 21) rfl rfl (fun K hK => ?_)
              go_simp
              refine hK.out _ _ ?_
              clear hK K
              try simp only [Act.put, List.getElem_toArray, List.getElem_cons_succ, List.getElem_cons_zero, List.setIfInBounds_toArray, List.set_cons_succ, List.set_cons_zero]
              refine wpAnyE_done (by kernel_rfl) ?_ _
              try simp only [List.getElem_toArray, List.getElem_cons_succ, List.getElem_cons_zero, List.setIfInBounds_toArray, List.set_cons_succ, List.set_cons_zero]
              have HB := Lib.hid (draws17.Blk.set (draws17.Blk.set HB.out 0 (.int .i64 b1)) 1 (.int .i64 b2))
              have HA := Lib.hid (draws17.Blk.other (draws17.Blk.other HA.out (show s5 ≠ s6 by omega) 0 (.int .i64 b1)) (show s5 ≠ s6 by omega) 1 (.int .i64 b2))
              have HT := Lib.hid (draws17.Blk.other (draws17.Blk.other HT.out (show w.heap.size ≠ s6 by omega) 0 (.int .i64 b1)) (show w.heap.size ≠ s6 by omega) 1 (.int .i64 b2))
              have HZ := Lib.hid (draws17.Blk.other (draws17.Blk.other HZ.out (show w.heap.size + 1 ≠ s6 by omega) 0 (.int .i64 b1)) (show w.heap.size + 1 ≠ s6 by omega) 1 (.int .i64 b2))
              have OW := Lib.hid (own_kept_at (own_kept_at OW.out (grown_set (grown_refl _ (some (s6))) 0 (.int .i64 b1)) (fun q e h => by injection h with h; have e2 : g = q := Option.some.inj e; omega)) (grown_set (grown_refl _ (some (s6))) 1 (.int .i64 b2)) (fun q e h => by injection h with h; have e2 : g = q := Option.some.inj e; omega))
              have HC := Lib.hid (Cur.set (Cur.set HC.out (show p < s6 by omega) (i := 0) (v := .int .i64 b1)) (show p < s6 by omega) (i := 1) (v := .int .i64 b2))
              have HG := Lib.hid (grown_put (grown_put HG.out (show w.heap.size ≤ s6 by omega) (i := 0) (v := .int .i64 b1)) (show w.heap.size ≤ s6 by omega) (i := 1) (v := .int .i64 b2))
              clear s0_ s1_ sf0_ sf1_
              go_wp2_with fail
              go_meet
              exact ⟨_, _, _, _, _, _, rfl, rfl, HA.out, HB.out, HZ.out, HC.out.more (by omega), HG.out⟩
          · have ls51 : g < x1.heap.size := (own_le OW.out).2.2
            have ls52 : w.heap.size + 1 < x1.heap.size := HZ.out.lt
            have HA := Lib.hid (Blk.new 31 #[.int .i64 0, .int .i64 0] x1)
            have OW := Lib.hid (own_.own_below OW.out ((Below.refl _ _).alloc (Nat.le_refl _) (.cells #[.int .i64 0, .int .i64 0] 31)))
            have HT := Lib.hid (HT.out.alloc (.cells #[.int .i64 0, .int .i64 0] 31))
            have HZ := Lib.hid (HZ.out.alloc (.cells #[.int .i64 0, .int .i64 0] 31))
            have HC := Lib.hid (Cur.alloc HC.out (.cells #[.int .i64 0, .int .i64 0] 31))
            have HG := Lib.hid (grown_trans HG.out (grown_alloc (.cells #[.int .i64 0, .int .i64 0] 31) (some p)))
            go_simp
            generalize x1.alloc (.cells #[.int .i64 0, .int .i64 0] 31) = x9 at *
            generalize x1.heap.size = s5 at *
            refine hK.out _ _ ⟨HT.out.cell 1 _ rfl, rw_of OW.out⟩ (fun hHeld => ?_)
            clear hK K
            try simp only [Act.put, List.getElem_toArray, List.getElem_cons_succ, List.getElem_cons_zero, List.setIfInBounds_toArray, List.set_cons_succ, List.set_cons_zero]
            refine wpAnyE_ready (rs := [15, 19]) (by kernel_rfl) (by simp) ?_
            refine AllReadyE.cons (i := 15) rfl (by decide) (fun K hK => ?_) (AllReadyE.cons (i := 19) rfl (by decide) (fun K hK => ?_) AllReadyE.nil)
            · go_simp
              refine (pick p _ (n : Int) x9 HC.out (by omega) (by omega) (by omega)).mono ?_
              rintro e x10 ⟨q, rfl, q0, q1, hc, hg⟩
              obtain ⟨qn, rfl⟩ := Int.eq_ofNat_of_zero_le q0
              have hqn : qn < n := by omega
              have hqi : (qn : Int) < (n : Int) := by omega
              have hqz : (0 : Int) ≤ (qn : Int) := q0
              have HA := Lib.hid (HA.out.grown hg (show s5 ≠ p by omega))
              have OW := Lib.hid (own_kept OW.out hg (fun g e => by cases e; exact hpB))
              have HT := Lib.hid (HT.out.grown hg (Nat.ne_of_gt hpb))
              have HZ := Lib.hid (HZ.out.grown hg (Nat.ne_of_gt hpr))
              have HC := Lib.hid hc
              have HG := Lib.hid (grown_trans HG.out hg)
              clear hc hg
              go_simp
              refine hK.out _ _ ⟨HT.out.cell 1 _ rfl, rw_of OW.out⟩ (fun hHeld => ?_)
              clear hK K
              try simp only [Act.put, List.getElem_toArray, List.getElem_cons_succ, List.getElem_cons_zero, List.setIfInBounds_toArray, List.set_cons_succ, List.set_cons_zero]
              refine wpAnyE_take (i := 16) (v := ?vt8_16) rfl (by decide +kernel) (fun _ _ _ h => h) (Or.inl ⟨by first | rfl | kernel_rfl, ?ht8_16⟩) (by assumption) ?rt8_16
              case ht8_16 =>
                intro wS hSw
                obtain ⟨h0, h1⟩ := hSw
                go_simp
                try with_reducible rfl
              try simp only [Act.put, List.getElem_toArray, List.getElem_cons_succ, List.getElem_cons_zero, List.setIfInBounds_toArray, List.set_cons_succ, List.set_cons_zero]
              refine wpAnyE_take (i := 17) (v := ?vt8_17) rfl (by decide +kernel) (fun _ _ _ h => h) (Or.inl ⟨by first | rfl | kernel_rfl, ?ht8_17⟩) (by assumption) ?rt8_17
              case ht8_17 =>
                intro wS hSw
                obtain ⟨h0, h1⟩ := hSw
                obtain ⟨q0, q1⟩ := h1 qn hqn
                clear h1
                go_simp
                try with_reducible rfl
              try simp only [Act.put, List.getElem_toArray, List.getElem_cons_succ, List.getElem_cons_zero, List.setIfInBounds_toArray, List.set_cons_succ, List.set_cons_zero]
              refine wpAnyE_ready (rs := [19]) (by kernel_rfl) (by simp) ?_
              refine AllReadyE.cons (i := 19) rfl (by decide) (fun K hK => ?_) AllReadyE.nil
              have ls61 : g < x10.heap.size := (own_le OW.out).2.2
              have ls62 : w.heap.size + 1 < x10.heap.size := HZ.out.lt
              have ls63 : s5 < x10.heap.size := HA.out.lt
              have HA := Lib.hid (HA.out.alloc (.cells #[.int .i64 0, .int .i64 0] 31))
              have HB := Lib.hid (Blk.new 31 #[.int .i64 0, .int .i64 0] x10)
              have OW := Lib.hid (own_.own_below OW.out ((Below.refl _ _).alloc (Nat.le_refl _) (.cells #[.int .i64 0, .int .i64 0] 31)))
              have HT := Lib.hid (HT.out.alloc (.cells #[.int .i64 0, .int .i64 0] 31))
              have HZ := Lib.hid (HZ.out.alloc (.cells #[.int .i64 0, .int .i64 0] 31))
              have HC := Lib.hid (Cur.alloc HC.out (.cells #[.int .i64 0, .int .i64 0] 31))
              have HG := Lib.hid (grown_trans HG.out (grown_alloc (.cells #[.int .i64 0, .int .i64 0] 31) (some p)))
              go_simp
              generalize x10.alloc (.cells #[.int .i64 0, .int .i64 0] 31) = x11 at *
              generalize x10.heap.size = s6 at *
              refine hK.out _ _ ⟨HT.out.cell 1 _ rfl, rw_of OW.out⟩ (fun hHeld => ?_)
              clear hK K
              try simp only [Act.put, List.getElem_toArray, List.getElem_cons_succ, List.getElem_cons_zero, List.setIfInBounds_toArray, List.set_cons_succ, List.set_cons_zero]
              generalize cX zs jn = a1 at *
              generalize cY zs jn = a2 at *
              generalize cX zs qn = b1 at *
              generalize cY zs qn = b2 at *
              have s0_ : x11.cell? ⟨s5, 0, none⟩ = some (.int .i64 0) := HA.out.cell 0 _ rfl
              have sf0_ := HA.out.frozen 0
              have s1_ : x11.cell? ⟨s5, 1, none⟩ = some (.int .i64 0) := HA.out.cell 1 _ rfl
              have sf1_ := HA.out.frozen 1
              refine wpAnyE_ready (rs := [20]) (by kernel_rfl) (by simp) ?_
              refine AllReadyE.cons (i := 20) rfl (by decide) (fun K hK => ?_) AllReadyE.nil
              go_simp
              have HA := Lib.hid (draws17.Blk.set (draws17.Blk.set HA.out 0 (.int .i64 a1)) 1 (.int .i64 a2))
              have HB := Lib.hid (draws17.Blk.other (draws17.Blk.other HB.out (show s6 ≠ s5 by omega) 0 (.int .i64 a1)) (show s6 ≠ s5 by omega) 1 (.int .i64 a2))
              have HT := Lib.hid (draws17.Blk.other (draws17.Blk.other HT.out (show w.heap.size ≠ s5 by omega) 0 (.int .i64 a1)) (show w.heap.size ≠ s5 by omega) 1 (.int .i64 a2))
              have HZ := Lib.hid (draws17.Blk.other (draws17.Blk.other HZ.out (show w.heap.size + 1 ≠ s5 by omega) 0 (.int .i64 a1)) (show w.heap.size + 1 ≠ s5 by omega) 1 (.int .i64 a2))
              have OW := Lib.hid (own_kept_at (own_kept_at OW.out (grown_set (grown_refl _ (some (s5))) 0 (.int .i64 a1)) (fun q e h => by injection h with h; have e2 : g = q := Option.some.inj e; omega)) (grown_set (grown_refl _ (some (s5))) 1 (.int .i64 a2)) (fun q e h => by injection h with h; have e2 : g = q := Option.some.inj e; omega))
              have HC := Lib.hid (Cur.set (Cur.set HC.out (show p < s5 by omega) (i := 0) (v := .int .i64 a1)) (show p < s5 by omega) (i := 1) (v := .int .i64 a2))
              have HG := Lib.hid (grown_put (grown_put HG.out (show w.heap.size ≤ s5 by omega) (i := 0) (v := .int .i64 a1)) (show w.heap.size ≤ s5 by omega) (i := 1) (v := .int .i64 a2))
              clear s0_ s1_ sf0_ sf1_
              generalize (x11.setCell ⟨s5, 0, none⟩ (.int .i64 a1)).setCell ⟨s5, 1, none⟩ (.int .i64 a2) = x12 at *
              refine hK.out _ _ ⟨HT.out.cell 1 _ rfl, rw_of OW.out⟩ (fun hHeld => ?_)
              clear hK K
              try simp only [Act.put, List.getElem_toArray, List.getElem_cons_succ, List.getElem_cons_zero, List.setIfInBounds_toArray, List.set_cons_succ, List.set_cons_zero]
              have s0_ : x12.cell? ⟨s6, 0, none⟩ = some (.int .i64 0) := HB.out.cell 0 _ rfl
              have sf0_ := HB.out.frozen 0
              have s1_ : x12.cell? ⟨s6, 1, none⟩ = some (.int .i64 0) := HB.out.cell 1 _ rfl
              have sf1_ := HB.out.frozen 1
              refine wpAnyE_ready (rs := [21]) (by kernel_rfl) (by simp) ?_
              refine AllReadyE.last (i := 21) rfl rfl (fun K hK => ?_)
              go_simp
              refine hK.out _ _ ?_
              clear hK K
              try simp only [Act.put, List.getElem_toArray, List.getElem_cons_succ, List.getElem_cons_zero, List.setIfInBounds_toArray, List.set_cons_succ, List.set_cons_zero]
              refine wpAnyE_done (by kernel_rfl) ?_ _
              try simp only [List.getElem_toArray, List.getElem_cons_succ, List.getElem_cons_zero, List.setIfInBounds_toArray, List.set_cons_succ, List.set_cons_zero]
              have HB := Lib.hid (draws17.Blk.set (draws17.Blk.set HB.out 0 (.int .i64 b1)) 1 (.int .i64 b2))
              have HA := Lib.hid (draws17.Blk.other (draws17.Blk.other HA.out (show s5 ≠ s6 by omega) 0 (.int .i64 b1)) (show s5 ≠ s6 by omega) 1 (.int .i64 b2))
              have HT := Lib.hid (draws17.Blk.other (draws17.Blk.other HT.out (show w.heap.size ≠ s6 by omega) 0 (.int .i64 b1)) (show w.heap.size ≠ s6 by omega) 1 (.int .i64 b2))
              have HZ := Lib.hid (draws17.Blk.other (draws17.Blk.other HZ.out (show w.heap.size + 1 ≠ s6 by omega) 0 (.int .i64 b1)) (show w.heap.size + 1 ≠ s6 by omega) 1 (.int .i64 b2))
              have OW := Lib.hid (own_kept_at (own_kept_at OW.out (grown_set (grown_refl _ (some (s6))) 0 (.int .i64 b1)) (fun q e h => by injection h with h; have e2 : g = q := Option.some.inj e; omega)) (grown_set (grown_refl _ (some (s6))) 1 (.int .i64 b2)) (fun q e h => by injection h with h; have e2 : g = q := Option.some.inj e; omega))
              have HC := Lib.hid (Cur.set (Cur.set HC.out (show p < s6 by omega) (i := 0) (v := .int .i64 b1)) (show p < s6 by omega) (i := 1) (v := .int .i64 b2))
              have HG := Lib.hid (grown_put (grown_put HG.out (show w.heap.size ≤ s6 by omega) (i := 0) (v := .int .i64 b1)) (show w.heap.size ≤ s6 by omega) (i := 1) (v := .int .i64 b2))
              clear s0_ s1_ sf0_ sf1_
              go_wp2_with fail
              go_meet
              exact ⟨_, _, _, _, _, _, rfl, rfl, HA.out, HB.out, HZ.out, HC.out.more (by omega), HG.out⟩
            · have ls61 : g < x9.heap.size := (own_le OW.out).2.2
              have ls62 : w.heap.size + 1 < x9.heap.size := HZ.out.lt
              have ls63 : s5 < x9.heap.size := HA.out.lt
              have HA := Lib.hid (HA.out.alloc (.cells #[.int .i64 0, .int .i64 0] 31))
              have HB := Lib.hid (Blk.new 31 #[.int .i64 0, .int .i64 0] x9)
              have OW := Lib.hid (own_.own_below OW.out ((Below.refl _ _).alloc (Nat.le_refl _) (.cells #[.int .i64 0, .int .i64 0] 31)))
              have HT := Lib.hid (HT.out.alloc (.cells #[.int .i64 0, .int .i64 0] 31))
              have HZ := Lib.hid (HZ.out.alloc (.cells #[.int .i64 0, .int .i64 0] 31))
              have HC := Lib.hid (Cur.alloc HC.out (.cells #[.int .i64 0, .int .i64 0] 31))
              have HG := Lib.hid (grown_trans HG.out (grown_alloc (.cells #[.int .i64 0, .int .i64 0] 31) (some p)))
              go_simp
              generalize x9.alloc (.cells #[.int .i64 0, .int .i64 0] 31) = x13 at *
              generalize x9.heap.size = s6 at *
              refine hK.out _ _ ⟨HT.out.cell 1 _ rfl, rw_of OW.out⟩ (fun hHeld => ?_)
              clear hK K
              try simp only [Act.put, List.getElem_toArray, List.getElem_cons_succ, List.getElem_cons_zero, List.setIfInBounds_toArray, List.set_cons_succ, List.set_cons_zero]
              refine wpAnyE_ready (rs := [15]) (by kernel_rfl) (by simp) ?_
              refine AllReadyE.cons (i := 15) rfl (by decide) (fun K hK => ?_) AllReadyE.nil
              go_simp
              refine (pick p _ (n : Int) x13 HC.out (by omega) (by omega) (by omega)).mono ?_
              rintro e x14 ⟨q, rfl, q0, q1, hc, hg⟩
              obtain ⟨qn, rfl⟩ := Int.eq_ofNat_of_zero_le q0
              have hqn : qn < n := by omega
              have hqi : (qn : Int) < (n : Int) := by omega
              have hqz : (0 : Int) ≤ (qn : Int) := q0
              have HA := Lib.hid (HA.out.grown hg (show s5 ≠ p by omega))
              have HB := Lib.hid (HB.out.grown hg (show s6 ≠ p by omega))
              have OW := Lib.hid (own_kept OW.out hg (fun g e => by cases e; exact hpB))
              have HT := Lib.hid (HT.out.grown hg (Nat.ne_of_gt hpb))
              have HZ := Lib.hid (HZ.out.grown hg (Nat.ne_of_gt hpr))
              have HC := Lib.hid hc
              have HG := Lib.hid (grown_trans HG.out hg)
              clear hc hg
              go_simp
              refine hK.out _ _ ⟨HT.out.cell 1 _ rfl, rw_of OW.out⟩ (fun hHeld => ?_)
              clear hK K
              try simp only [Act.put, List.getElem_toArray, List.getElem_cons_succ, List.getElem_cons_zero, List.setIfInBounds_toArray, List.set_cons_succ, List.set_cons_zero]
              refine wpAnyE_take (i := 16) (v := ?vt11_16) rfl (by decide +kernel) (fun _ _ _ h => h) (Or.inl ⟨by first | rfl | kernel_rfl, ?ht11_16⟩) (by assumption) ?rt11_16
              case ht11_16 =>
                intro wS hSw
                obtain ⟨h0, h1⟩ := hSw
                go_simp
                try with_reducible rfl
              try simp only [Act.put, List.getElem_toArray, List.getElem_cons_succ, List.getElem_cons_zero, List.setIfInBounds_toArray, List.set_cons_succ, List.set_cons_zero]
              refine wpAnyE_take (i := 17) (v := ?vt11_17) rfl (by decide +kernel) (fun _ _ _ h => h) (Or.inl ⟨by first | rfl | kernel_rfl, ?ht11_17⟩) (by assumption) ?rt11_17
              case ht11_17 =>
                intro wS hSw
                obtain ⟨h0, h1⟩ := hSw
                obtain ⟨q0, q1⟩ := h1 qn hqn
                clear h1
                go_simp
                try with_reducible rfl
              try simp only [Act.put, List.getElem_toArray, List.getElem_cons_succ, List.getElem_cons_zero, List.setIfInBounds_toArray, List.set_cons_succ, List.set_cons_zero]
              generalize cX zs jn = a1 at *
              generalize cY zs jn = a2 at *
              generalize cX zs qn = b1 at *
              generalize cY zs qn = b2 at *
              have s0_ : x14.cell? ⟨s5, 0, none⟩ = some (.int .i64 0) := HA.out.cell 0 _ rfl
              have sf0_ := HA.out.frozen 0
              have s1_ : x14.cell? ⟨s5, 1, none⟩ = some (.int .i64 0) := HA.out.cell 1 _ rfl
              have sf1_ := HA.out.frozen 1
              refine wpAnyE_ready (rs := [20]) (by kernel_rfl) (by simp) ?_
              refine AllReadyE.cons (i := 20) rfl (by decide) (fun K hK => ?_) AllReadyE.nil
              go_simp
              have HA := Lib.hid (draws17.Blk.set (draws17.Blk.set HA.out 0 (.int .i64 a1)) 1 (.int .i64 a2))
              have HB := Lib.hid (draws17.Blk.other (draws17.Blk.other HB.out (show s6 ≠ s5 by omega) 0 (.int .i64 a1)) (show s6 ≠ s5 by omega) 1 (.int .i64 a2))
              have HT := Lib.hid (draws17.Blk.other (draws17.Blk.other HT.out (show w.heap.size ≠ s5 by omega) 0 (.int .i64 a1)) (show w.heap.size ≠ s5 by omega) 1 (.int .i64 a2))
              have HZ := Lib.hid (draws17.Blk.other (draws17.Blk.other HZ.out (show w.heap.size + 1 ≠ s5 by omega) 0 (.int .i64 a1)) (show w.heap.size + 1 ≠ s5 by omega) 1 (.int .i64 a2))
              have OW := Lib.hid (own_kept_at (own_kept_at OW.out (grown_set (grown_refl _ (some (s5))) 0 (.int .i64 a1)) (fun q e h => by injection h with h; have e2 : g = q := Option.some.inj e; omega)) (grown_set (grown_refl _ (some (s5))) 1 (.int .i64 a2)) (fun q e h => by injection h with h; have e2 : g = q := Option.some.inj e; omega))
              have HC := Lib.hid (Cur.set (Cur.set HC.out (show p < s5 by omega) (i := 0) (v := .int .i64 a1)) (show p < s5 by omega) (i := 1) (v := .int .i64 a2))
              have HG := Lib.hid (grown_put (grown_put HG.out (show w.heap.size ≤ s5 by omega) (i := 0) (v := .int .i64 a1)) (show w.heap.size ≤ s5 by omega) (i := 1) (v := .int .i64 a2))
              clear s0_ s1_ sf0_ sf1_
              generalize (x14.setCell ⟨s5, 0, none⟩ (.int .i64 a1)).setCell ⟨s5, 1, none⟩ (.int .i64 a2) = x15 at *
              refine hK.out _ _ ⟨HT.out.cell 1 _ rfl, rw_of OW.out⟩ (fun hHeld => ?_)
              clear hK K
              try simp only [Act.put, List.getElem_toArray, List.getElem_cons_succ, List.getElem_cons_zero, List.setIfInBounds_toArray, List.set_cons_succ, List.set_cons_zero]
              have s0_ : x15.cell? ⟨s6, 0, none⟩ = some (.int .i64 0) := HB.out.cell 0 _ rfl
              have sf0_ := HB.out.frozen 0
              have s1_ : x15.cell? ⟨s6, 1, none⟩ = some (.int .i64 0) := HB.out.cell 1 _ rfl
              have sf1_ := HB.out.frozen 1
              refine wpAnyE_ready (rs := [21]) (by kernel_rfl) (by simp) ?_
              refine AllReadyE.last (i := 21) rfl rfl (fun K hK => ?_)
              go_simp
              refine hK.out _ _ ?_
              clear hK K
              try simp only [Act.put, List.getElem_toArray, List.getElem_cons_succ, List.getElem_cons_zero, List.setIfInBounds_toArray, List.set_cons_succ, List.set_cons_zero]
              refine wpAnyE_done (by kernel_rfl) ?_ _
              try simp only [List.getElem_toArray, List.getElem_cons_succ, List.getElem_cons_zero, List.setIfInBounds_toArray, List.set_cons_succ, List.set_cons_zero]
              have HB := Lib.hid (draws17.Blk.set (draws17.Blk.set HB.out 0 (.int .i64 b1)) 1 (.int .i64 b2))
              have HA := Lib.hid (draws17.Blk.other (draws17.Blk.other HA.out (show s5 ≠ s6 by omega) 0 (.int .i64 b1)) (show s5 ≠ s6 by omega) 1 (.int .i64 b2))
              have HT := Lib.hid (draws17.Blk.other (draws17.Blk.other HT.out (show w.heap.size ≠ s6 by omega) 0 (.int .i64 b1)) (show w.heap.size ≠ s6 by omega) 1 (.int .i64 b2))
              have HZ := Lib.hid (draws17.Blk.other (draws17.Blk.other HZ.out (show w.heap.size + 1 ≠ s6 by omega) 0 (.int .i64 b1)) (show w.heap.size + 1 ≠ s6 by omega) 1 (.int .i64 b2))
              have OW := Lib.hid (own_kept_at (own_kept_at OW.out (grown_set (grown_refl _ (some (s6))) 0 (.int .i64 b1)) (fun q e h => by injection h with h; have e2 : g = q := Option.some.inj e; omega)) (grown_set (grown_refl _ (some (s6))) 1 (.int .i64 b2)) (fun q e h => by injection h with h; have e2 : g = q := Option.some.inj e; omega))
              have HC := Lib.hid (Cur.set (Cur.set HC.out (show p < s6 by omega) (i := 0) (v := .int .i64 b1)) (show p < s6 by omega) (i := 1) (v := .int .i64 b2))
              have HG := Lib.hid (grown_put (grown_put HG.out (show w.heap.size ≤ s6 by omega) (i := 0) (v := .int .i64 b1)) (show w.heap.size ≤ s6 by omega) (i := 1) (v := .int .i64 b2))
              clear s0_ s1_ sf0_ sf1_
              go_wp2_with fail
              go_meet
              exact ⟨_, _, _, _, _, _, rfl, rfl, HA.out, HB.out, HZ.out, HC.out.more (by omega), HG.out⟩
          · have ls61 : g < x1.heap.size := (own_le OW.out).2.2
            have ls62 : w.heap.size + 1 < x1.heap.size := HZ.out.lt
            have HB := Lib.hid (Blk.new 31 #[.int .i64 0, .int .i64 0] x1)
            have OW := Lib.hid (own_.own_below OW.out ((Below.refl _ _).alloc (Nat.le_refl _) (.cells #[.int .i64 0, .int .i64 0] 31)))
            have HT := Lib.hid (HT.out.alloc (.cells #[.int .i64 0, .int .i64 0] 31))
            have HZ := Lib.hid (HZ.out.alloc (.cells #[.int .i64 0, .int .i64 0] 31))
            have HC := Lib.hid (Cur.alloc HC.out (.cells #[.int .i64 0, .int .i64 0] 31))
            have HG := Lib.hid (grown_trans HG.out (grown_alloc (.cells #[.int .i64 0, .int .i64 0] 31) (some p)))
            go_simp
            generalize x1.alloc (.cells #[.int .i64 0, .int .i64 0] 31) = x16 at *
            generalize x1.heap.size = s6 at *
            refine hK.out _ _ ⟨HT.out.cell 1 _ rfl, rw_of OW.out⟩ (fun hHeld => ?_)
            clear hK K
            try simp only [Act.put, List.getElem_toArray, List.getElem_cons_succ, List.getElem_cons_zero, List.setIfInBounds_toArray, List.set_cons_succ, List.set_cons_zero]
            refine wpAnyE_ready (rs := [15, 18]) (by kernel_rfl) (by simp) ?_
            refine AllReadyE.cons (i := 15) rfl (by decide) (fun K hK => ?_) (AllReadyE.cons (i := 18) rfl (by decide) (fun K hK => ?_) AllReadyE.nil)
            · go_simp
              refine (pick p _ (n : Int) x16 HC.out (by omega) (by omega) (by omega)).mono ?_
              rintro e x17 ⟨q, rfl, q0, q1, hc, hg⟩
              obtain ⟨qn, rfl⟩ := Int.eq_ofNat_of_zero_le q0
              have hqn : qn < n := by omega
              have hqi : (qn : Int) < (n : Int) := by omega
              have hqz : (0 : Int) ≤ (qn : Int) := q0
              have HB := Lib.hid (HB.out.grown hg (show s6 ≠ p by omega))
              have OW := Lib.hid (own_kept OW.out hg (fun g e => by cases e; exact hpB))
              have HT := Lib.hid (HT.out.grown hg (Nat.ne_of_gt hpb))
              have HZ := Lib.hid (HZ.out.grown hg (Nat.ne_of_gt hpr))
              have HC := Lib.hid hc
              have HG := Lib.hid (grown_trans HG.out hg)
              clear hc hg
              go_simp
              refine hK.out _ _ ⟨HT.out.cell 1 _ rfl, rw_of OW.out⟩ (fun hHeld => ?_)
              clear hK K
              try simp only [Act.put, List.getElem_toArray, List.getElem_cons_succ, List.getElem_cons_zero, List.setIfInBounds_toArray, List.set_cons_succ, List.set_cons_zero]
              refine wpAnyE_take (i := 16) (v := ?vt14_16) rfl (by decide +kernel) (fun _ _ _ h => h) (Or.inl ⟨by first | rfl | kernel_rfl, ?ht14_16⟩) (by assumption) ?rt14_16
              case ht14_16 =>
                intro wS hSw
                obtain ⟨h0, h1⟩ := hSw
                go_simp
                try with_reducible rfl
              try simp only [Act.put, List.getElem_toArray, List.getElem_cons_succ, List.getElem_cons_zero, List.setIfInBounds_toArray, List.set_cons_succ, List.set_cons_zero]
              refine wpAnyE_take (i := 17) (v := ?vt14_17) rfl (by decide +kernel) (fun _ _ _ h => h) (Or.inl ⟨by first | rfl | kernel_rfl, ?ht14_17⟩) (by assumption) ?rt14_17
              case ht14_17 =>
                intro wS hSw
                obtain ⟨h0, h1⟩ := hSw
                obtain ⟨q0, q1⟩ := h1 qn hqn
                clear h1
                go_simp
                try with_reducible rfl
              try simp only [Act.put, List.getElem_toArray, List.getElem_cons_succ, List.getElem_cons_zero, List.setIfInBounds_toArray, List.set_cons_succ, List.set_cons_zero]
              refine wpAnyE_ready (rs := [18]) (by kernel_rfl) (by simp) ?_
              refine AllReadyE.cons (i := 18) rfl (by decide) (fun K hK => ?_) AllReadyE.nil
              have ls51 : g < x17.heap.size := (own_le OW.out).2.2
              have ls52 : w.heap.size + 1 < x17.heap.size := HZ.out.lt
              have ls53 : s6 < x17.heap.size := HB.out.lt
              have HB := Lib.hid (HB.out.alloc (.cells #[.int .i64 0, .int .i64 0] 31))
              have HA := Lib.hid (Blk.new 31 #[.int .i64 0, .int .i64 0] x17)
              have OW := Lib.hid (own_.own_below OW.out ((Below.refl _ _).alloc (Nat.le_refl _) (.cells #[.int .i64 0, .int .i64 0] 31)))
              have HT := Lib.hid (HT.out.alloc (.cells #[.int .i64 0, .int .i64 0] 31))
              have HZ := Lib.hid (HZ.out.alloc (.cells #[.int .i64 0, .int .i64 0] 31))
              have HC := Lib.hid (Cur.alloc HC.out (.cells #[.int .i64 0, .int .i64 0] 31))
              have HG := Lib.hid (grown_trans HG.out (grown_alloc (.cells #[.int .i64 0, .int .i64 0] 31) (some p)))
              go_simp
              generalize x17.alloc (.cells #[.int .i64 0, .int .i64 0] 31) = x18 at *
              generalize x17.heap.size = s5 at *
              refine hK.out _ _ ⟨HT.out.cell 1 _ rfl, rw_of OW.out⟩ (fun hHeld => ?_)
              clear hK K
              try simp only [Act.put, List.getElem_toArray, List.getElem_cons_succ, List.getElem_cons_zero, List.setIfInBounds_toArray, List.set_cons_succ, List.set_cons_zero]
              generalize cX zs jn = a1 at *
              generalize cY zs jn = a2 at *
              generalize cX zs qn = b1 at *
              generalize cY zs qn = b2 at *
              have s0_ : x18.cell? ⟨s5, 0, none⟩ = some (.int .i64 0) := HA.out.cell 0 _ rfl
              have sf0_ := HA.out.frozen 0
              have s1_ : x18.cell? ⟨s5, 1, none⟩ = some (.int .i64 0) := HA.out.cell 1 _ rfl
              have sf1_ := HA.out.frozen 1
              refine wpAnyE_ready (rs := [20]) (by kernel_rfl) (by simp) ?_
              refine AllReadyE.cons (i := 20) rfl (by decide) (fun K hK => ?_) AllReadyE.nil
              go_simp
              have HA := Lib.hid (draws17.Blk.set (draws17.Blk.set HA.out 0 (.int .i64 a1)) 1 (.int .i64 a2))
              have HB := Lib.hid (draws17.Blk.other (draws17.Blk.other HB.out (show s6 ≠ s5 by omega) 0 (.int .i64 a1)) (show s6 ≠ s5 by omega) 1 (.int .i64 a2))
              have HT := Lib.hid (draws17.Blk.other (draws17.Blk.other HT.out (show w.heap.size ≠ s5 by omega) 0 (.int .i64 a1)) (show w.heap.size ≠ s5 by omega) 1 (.int .i64 a2))
              have HZ := Lib.hid (draws17.Blk.other (draws17.Blk.other HZ.out (show w.heap.size + 1 ≠ s5 by omega) 0 (.int .i64 a1)) (show w.heap.size + 1 ≠ s5 by omega) 1 (.int .i64 a2))
              have OW := Lib.hid (own_kept_at (own_kept_at OW.out (grown_set (grown_refl _ (some (s5))) 0 (.int .i64 a1)) (fun q e h => by injection h with h; have e2 : g = q := Option.some.inj e; omega)) (grown_set (grown_refl _ (some (s5))) 1 (.int .i64 a2)) (fun q e h => by injection h with h; have e2 : g = q := Option.some.inj e; omega))
              have HC := Lib.hid (Cur.set (Cur.set HC.out (show p < s5 by omega) (i := 0) (v := .int .i64 a1)) (show p < s5 by omega) (i := 1) (v := .int .i64 a2))
              have HG := Lib.hid (grown_put (grown_put HG.out (show w.heap.size ≤ s5 by omega) (i := 0) (v := .int .i64 a1)) (show w.heap.size ≤ s5 by omega) (i := 1) (v := .int .i64 a2))
              clear s0_ s1_ sf0_ sf1_
              generalize (x18.setCell ⟨s5, 0, none⟩ (.int .i64 a1)).setCell ⟨s5, 1, none⟩ (.int .i64 a2) = x19 at *
              refine hK.out _ _ ⟨HT.out.cell 1 _ rfl, rw_of OW.out⟩ (fun hHeld => ?_)
              clear hK K
              try simp only [Act.put, List.getElem_toArray, List.getElem_cons_succ, List.getElem_cons_zero, List.setIfInBounds_toArray, List.set_cons_succ, List.set_cons_zero]
              have s0_ : x19.cell? ⟨s6, 0, none⟩ = some (.int .i64 0) := HB.out.cell 0 _ rfl
              have sf0_ := HB.out.frozen 0
              have s1_ : x19.cell? ⟨s6, 1, none⟩ = some (.int .i64 0) := HB.out.cell 1 _ rfl
              have sf1_ := HB.out.frozen 1
              refine wpAnyE_ready (rs := [21]) (by kernel_rfl) (by simp) ?_
              refine AllReadyE.last (i := 21) rfl rfl (fun K hK => ?_)
              go_simp
              refine hK.out _ _ ?_
              clear hK K
              try simp only [Act.put, List.getElem_toArray, List.getElem_cons_succ, List.getElem_cons_zero, List.setIfInBounds_toArray, List.set_cons_succ, List.set_cons_zero]
              refine wpAnyE_done (by kernel_rfl) ?_ _
              try simp only [List.getElem_toArray, List.getElem_cons_succ, List.getElem_cons_zero, List.setIfInBounds_toArray, List.set_cons_succ, List.set_cons_zero]
              have HB := Lib.hid (draws17.Blk.set (draws17.Blk.set HB.out 0 (.int .i64 b1)) 1 (.int .i64 b2))
              have HA := Lib.hid (draws17.Blk.other (draws17.Blk.other HA.out (show s5 ≠ s6 by omega) 0 (.int .i64 b1)) (show s5 ≠ s6 by omega) 1 (.int .i64 b2))
              have HT := Lib.hid (draws17.Blk.other (draws17.Blk.other HT.out (show w.heap.size ≠ s6 by omega) 0 (.int .i64 b1)) (show w.heap.size ≠ s6 by omega) 1 (.int .i64 b2))
              have HZ := Lib.hid (draws17.Blk.other (draws17.Blk.other HZ.out (show w.heap.size + 1 ≠ s6 by omega) 0 (.int .i64 b1)) (show w.heap.size + 1 ≠ s6 by omega) 1 (.int .i64 b2))
              have OW := Lib.hid (own_kept_at (own_kept_at OW.out (grown_set (grown_refl _ (some (s6))) 0 (.int .i64 b1)) (fun q e h => by injection h with h; have e2 : g = q := Option.some.inj e; omega)) (grown_set (grown_refl _ (some (s6))) 1 (.int .i64 b2)) (fun q e h => by injection h with h; have e2 : g = q := Option.some.inj e; omega))
              have HC := Lib.hid (Cur.set (Cur.set HC.out (show p < s6 by omega) (i := 0) (v := .int .i64 b1)) (show p < s6 by omega) (i := 1) (v := .int .i64 b2))
              have HG := Lib.hid (grown_put (grown_put HG.out (show w.heap.size ≤ s6 by omega) (i := 0) (v := .int .i64 b1)) (show w.heap.size ≤ s6 by omega) (i := 1) (v := .int .i64 b2))
              clear s0_ s1_ sf0_ sf1_
              go_wp2_with fail
              go_meet
              exact ⟨_, _, _, _, _, _, rfl, rfl, HA.out, HB.out, HZ.out, HC.out.more (by omega), HG.out⟩
            · have ls51 : g < x16.heap.size := (own_le OW.out).2.2
              have ls52 : w.heap.size + 1 < x16.heap.size := HZ.out.lt
              have ls53 : s6 < x16.heap.size := HB.out.lt
              have HB := Lib.hid (HB.out.alloc (.cells #[.int .i64 0, .int .i64 0] 31))
              have HA := Lib.hid (Blk.new 31 #[.int .i64 0, .int .i64 0] x16)
              have OW := Lib.hid (own_.own_below OW.out ((Below.refl _ _).alloc (Nat.le_refl _) (.cells #[.int .i64 0, .int .i64 0] 31)))
              have HT := Lib.hid (HT.out.alloc (.cells #[.int .i64 0, .int .i64 0] 31))
              have HZ := Lib.hid (HZ.out.alloc (.cells #[.int .i64 0, .int .i64 0] 31))
              have HC := Lib.hid (Cur.alloc HC.out (.cells #[.int .i64 0, .int .i64 0] 31))
              have HG := Lib.hid (grown_trans HG.out (grown_alloc (.cells #[.int .i64 0, .int .i64 0] 31) (some p)))
              go_simp
              generalize x16.alloc (.cells #[.int .i64 0, .int .i64 0] 31) = x20 at *
              generalize x16.heap.size = s5 at *
              refine hK.out _ _ ⟨HT.out.cell 1 _ rfl, rw_of OW.out⟩ (fun hHeld => ?_)
              clear hK K
              try simp only [Act.put, List.getElem_toArray, List.getElem_cons_succ, List.getElem_cons_zero, List.setIfInBounds_toArray, List.set_cons_succ, List.set_cons_zero]
              refine wpAnyE_ready (rs := [15]) (by kernel_rfl) (by simp) ?_
              refine AllReadyE.cons (i := 15) rfl (by decide) (fun K hK => ?_) AllReadyE.nil
              go_simp
              refine (pick p _ (n : Int) x20 HC.out (by omega) (by omega) (by omega)).mono ?_
              rintro e x21 ⟨q, rfl, q0, q1, hc, hg⟩
              obtain ⟨qn, rfl⟩ := Int.eq_ofNat_of_zero_le q0
              have hqn : qn < n := by omega
              have hqi : (qn : Int) < (n : Int) := by omega
              have hqz : (0 : Int) ≤ (qn : Int) := q0
              have HB := Lib.hid (HB.out.grown hg (show s6 ≠ p by omega))
              have HA := Lib.hid (HA.out.grown hg (show s5 ≠ p by omega))
              have OW := Lib.hid (own_kept OW.out hg (fun g e => by cases e; exact hpB))
              have HT := Lib.hid (HT.out.grown hg (Nat.ne_of_gt hpb))
              have HZ := Lib.hid (HZ.out.grown hg (Nat.ne_of_gt hpr))
              have HC := Lib.hid hc
              have HG := Lib.hid (grown_trans HG.out hg)
              clear hc hg
              go_simp
              refine hK.out _ _ ⟨HT.out.cell 1 _ rfl, rw_of OW.out⟩ (fun hHeld => ?_)
              clear hK K
              try simp only [Act.put, List.getElem_toArray, List.getElem_cons_succ, List.getElem_cons_zero, List.setIfInBounds_toArray, List.set_cons_succ, List.set_cons_zero]
              refine wpAnyE_take (i := 16) (v := ?vt17_16) rfl (by decide +kernel) (fun _ _ _ h => h) (Or.inl ⟨by first | rfl | kernel_rfl, ?ht17_16⟩) (by assumption) ?rt17_16
              case ht17_16 =>
                intro wS hSw
                obtain ⟨h0, h1⟩ := hSw
                go_simp
                try with_reducible rfl
              try simp only [Act.put, List.getElem_toArray, List.getElem_cons_succ, List.getElem_cons_zero, List.setIfInBounds_toArray, List.set_cons_succ, List.set_cons_zero]
              refine wpAnyE_take (i := 17) (v := ?vt17_17) rfl (by decide +kernel) (fun _ _ _ h => h) (Or.inl ⟨by first | rfl | kernel_rfl, ?ht17_17⟩) (by assumption) ?rt17_17
              case ht17_17 =>
                intro wS hSw
                obtain ⟨h0, h1⟩ := hSw
                obtain ⟨q0, q1⟩ := h1 qn hqn
                clear h1
                go_simp
                try with_reducible rfl
              try simp only [Act.put, List.getElem_toArray, List.getElem_cons_succ, List.getElem_cons_zero, List.setIfInBounds_toArray, List.set_cons_succ, List.set_cons_zero]
              generalize cX zs jn = a1 at *
              generalize cY zs jn = a2 at *
              generalize cX zs qn = b1 at *
              generalize cY zs qn = b2 at *
              have s0_ : x21.cell? ⟨s5, 0, none⟩ = some (.int .i64 0) := HA.out.cell 0 _ rfl
              have sf0_ := HA.out.frozen 0
              have s1_ : x21.cell? ⟨s5, 1, none⟩ = some (.int .i64 0) := HA.out.cell 1 _ rfl
              have sf1_ := HA.out.frozen 1
              refine wpAnyE_ready (rs := [20]) (by kernel_rfl) (by simp) ?_
              refine AllReadyE.cons (i := 20) rfl (by decide) (fun K hK => ?_) AllReadyE.nil
              go_simp
              have HA := Lib.hid (draws17.Blk.set (draws17.Blk.set HA.out 0 (.int .i64 a1)) 1 (.int .i64 a2))
              have HB := Lib.hid (draws17.Blk.other (draws17.Blk.other HB.out (show s6 ≠ s5 by omega) 0 (.int .i64 a1)) (show s6 ≠ s5 by omega) 1 (.int .i64 a2))
              have HT := Lib.hid (draws17.Blk.other (draws17.Blk.other HT.out (show w.heap.size ≠ s5 by omega) 0 (.int .i64 a1)) (show w.heap.size ≠ s5 by omega) 1 (.int .i64 a2))
              have HZ := Lib.hid (draws17.Blk.other (draws17.Blk.other HZ.out (show w.heap.size + 1 ≠ s5 by omega) 0 (.int .i64 a1)) (show w.heap.size + 1 ≠ s5 by omega) 1 (.int .i64 a2))
              have OW := Lib.hid (own_kept_at (own_kept_at OW.out (grown_set (grown_refl _ (some (s5))) 0 (.int .i64 a1)) (fun q e h => by injection h with h; have e2 : g = q := Option.some.inj e; omega)) (grown_set (grown_refl _ (some (s5))) 1 (.int .i64 a2)) (fun q e h => by injection h with h; have e2 : g = q := Option.some.inj e; omega))
              have HC := Lib.hid (Cur.set (Cur.set HC.out (show p < s5 by omega) (i := 0) (v := .int .i64 a1)) (show p < s5 by omega) (i := 1) (v := .int .i64 a2))
              have HG := Lib.hid (grown_put (grown_put HG.out (show w.heap.size ≤ s5 by omega) (i := 0) (v := .int .i64 a1)) (show w.heap.size ≤ s5 by omega) (i := 1) (v := .int .i64 a2))
              clear s0_ s1_ sf0_ sf1_
              generalize (x21.setCell ⟨s5, 0, none⟩ (.int .i64 a1)).setCell ⟨s5, 1, none⟩ (.int .i64 a2) = x22 at *
              refine hK.out _ _ ⟨HT.out.cell 1 _ rfl, rw_of OW.out⟩ (fun hHeld => ?_)
              clear hK K
              try simp only [Act.put, List.getElem_toArray, List.getElem_cons_succ, List.getElem_cons_zero, List.setIfInBounds_toArray, List.set_cons_succ, List.set_cons_zero]
              have s0_ : x22.cell? ⟨s6, 0, none⟩ = some (.int .i64 0) := HB.out.cell 0 _ rfl
              have sf0_ := HB.out.frozen 0
              have s1_ : x22.cell? ⟨s6, 1, none⟩ = some (.int .i64 0) := HB.out.cell 1 _ rfl
              have sf1_ := HB.out.frozen 1
              refine wpAnyE_ready (rs := [21]) (by kernel_rfl) (by simp) ?_
              refine AllReadyE.last (i := 21) rfl rfl (fun K hK => ?_)
              go_simp
              refine hK.out _ _ ?_
              clear hK K
              try simp only [Act.put, List.getElem_toArray, List.getElem_cons_succ, List.getElem_cons_zero, List.setIfInBounds_toArray, List.set_cons_succ, List.set_cons_zero]
              refine wpAnyE_done (by kernel_rfl) ?_ _
              try simp only [List.getElem_toArray, List.getElem_cons_succ, List.getElem_cons_zero, List.setIfInBounds_toArray, List.set_cons_succ, List.set_cons_zero]
              have HB := Lib.hid (draws17.Blk.set (draws17.Blk.set HB.out 0 (.int .i64 b1)) 1 (.int .i64 b2))
              have HA := Lib.hid (draws17.Blk.other (draws17.Blk.other HA.out (show s5 ≠ s6 by omega) 0 (.int .i64 b1)) (show s5 ≠ s6 by omega) 1 (.int .i64 b2))
              have HT := Lib.hid (draws17.Blk.other (draws17.Blk.other HT.out (show w.heap.size ≠ s6 by omega) 0 (.int .i64 b1)) (show w.heap.size ≠ s6 by omega) 1 (.int .i64 b2))
              have HZ := Lib.hid (draws17.Blk.other (draws17.Blk.other HZ.out (show w.heap.size + 1 ≠ s6 by omega) 0 (.int .i64 b1)) (show w.heap.size + 1 ≠ s6 by omega) 1 (.int .i64 b2))
              have OW := Lib.hid (own_kept_at (own_kept_at OW.out (grown_set (grown_refl _ (some (s6))) 0 (.int .i64 b1)) (fun q e h => by injection h with h; have e2 : g = q := Option.some.inj e; omega)) (grown_set (grown_refl _ (some (s6))) 1 (.int .i64 b2)) (fun q e h => by injection h with h; have e2 : g = q := Option.some.inj e; omega))
              have HC := Lib.hid (Cur.set (Cur.set HC.out (show p < s6 by omega) (i := 0) (v := .int .i64 b1)) (show p < s6 by omega) (i := 1) (v := .int .i64 b2))
              have HG := Lib.hid (grown_put (grown_put HG.out (show w.heap.size ≤ s6 by omega) (i := 0) (v := .int .i64 b1)) (show w.heap.size ≤ s6 by omega) (i := 1) (v := .int .i64 b2))
              clear s0_ s1_ sf0_ sf1_
              go_wp2_with fail
              go_meet
              exact ⟨_, _, _, _, _, _, rfl, rfl, HA.out, HB.out, HZ.out, HC.out.more (by omega), HG.out⟩
        · have ls51 : g < W1.heap.size := (own_le OW.out).2.2
          have ls52 : w.heap.size + 1 < W1.heap.size := HZ.out.lt
          have HA := Lib.hid (Blk.new 31 #[.int .i64 0, .int .i64 0] W1)
          have OW := Lib.hid (own_.own_below OW.out ((Below.refl _ _).alloc (Nat.le_refl _) (.cells #[.int .i64 0, .int .i64 0] 31)))
          have HT := Lib.hid (HT.out.alloc (.cells #[.int .i64 0, .int .i64 0] 31))
          have HZ := Lib.hid (HZ.out.alloc (.cells #[.int .i64 0, .int .i64 0] 31))
          have HC := Lib.hid (Cur.alloc HC.out (.cells #[.int .i64 0, .int .i64 0] 31))
          have HG := Lib.hid (grown_trans HG.out (grown_alloc (.cells #[.int .i64 0, .int .i64 0] 31) (some p)))
          go_simp
          generalize W1.alloc (.cells #[.int .i64 0, .int .i64 0] 31) = x23 at *
          generalize W1.heap.size = s5 at *
          refine hK.out _ _ ⟨HT.out.cell 1 _ rfl, rw_of OW.out⟩ (fun hHeld => ?_)
          clear hK K
          try simp only [Act.put, List.getElem_toArray, List.getElem_cons_succ, List.getElem_cons_zero, List.setIfInBounds_toArray, List.set_cons_succ, List.set_cons_zero]
          refine wpAnyE_ready (rs := [6, 19]) (by kernel_rfl) (by simp) ?_
          refine AllReadyE.cons (i := 6) rfl (by decide) (fun K hK => ?_) (AllReadyE.cons (i := 19) rfl (by decide) (fun K hK => ?_) AllReadyE.nil)
          · go_simp
            refine (pick p _ (n : Int) x23 HC.out (by omega) (by omega) (by omega)).mono ?_
            rintro e x24 ⟨j, rfl, j0, j1, hc, hg⟩
            obtain ⟨jn, rfl⟩ := Int.eq_ofNat_of_zero_le j0
            have hjn : jn < n := by omega
            have hji : (jn : Int) < (n : Int) := by omega
            have hjz : (0 : Int) ≤ (jn : Int) := j0
            have HA := Lib.hid (HA.out.grown hg (show s5 ≠ p by omega))
            have OW := Lib.hid (own_kept OW.out hg (fun g e => by cases e; exact hpB))
            have HT := Lib.hid (HT.out.grown hg (Nat.ne_of_gt hpb))
            have HZ := Lib.hid (HZ.out.grown hg (Nat.ne_of_gt hpr))
            have HC := Lib.hid hc
            have HG := Lib.hid (grown_trans HG.out hg)
            clear hc hg
            go_simp
            refine hK.out _ _ ⟨HT.out.cell 1 _ rfl, rw_of OW.out⟩ (fun hHeld => ?_)
            clear hK K
            try simp only [Act.put, List.getElem_toArray, List.getElem_cons_succ, List.getElem_cons_zero, List.setIfInBounds_toArray, List.set_cons_succ, List.set_cons_zero]
            refine wpAnyE_take (i := 7) (v := ?vt20_7) rfl (by decide +kernel) (fun _ _ _ h => h) (Or.inl ⟨by first | rfl | kernel_rfl, ?ht20_7⟩) (by assumption) ?rt20_7
            case ht20_7 =>
              intro wS hSw
              obtain ⟨h0, h1⟩ := hSw
              go_simp
              try with_reducible rfl
            try simp only [Act.put, List.getElem_toArray, List.getElem_cons_succ, List.getElem_cons_zero, List.setIfInBounds_toArray, List.set_cons_succ, List.set_cons_zero]
            refine wpAnyE_take (i := 8) (v := ?vt20_8) rfl (by decide +kernel) (fun _ _ _ h => h) (Or.inl ⟨by first | rfl | kernel_rfl, ?ht20_8⟩) (by assumption) ?rt20_8
            case ht20_8 =>
              intro wS hSw
              obtain ⟨h0, h1⟩ := hSw
              obtain ⟨q0, q1⟩ := h1 jn hjn
              clear h1
              go_simp
              try with_reducible rfl
            try simp only [Act.put, List.getElem_toArray, List.getElem_cons_succ, List.getElem_cons_zero, List.setIfInBounds_toArray, List.set_cons_succ, List.set_cons_zero]
            refine wpAnyE_ready (rs := [15, 19]) (by kernel_rfl) (by simp) ?_
            refine AllReadyE.cons (i := 15) rfl (by decide) (fun K hK => ?_) (AllReadyE.cons (i := 19) rfl (by decide) (fun K hK => ?_) AllReadyE.nil)
            · go_simp
              refine (pick p _ (n : Int) x24 HC.out (by omega) (by omega) (by omega)).mono ?_
              rintro e x25 ⟨q, rfl, q0, q1, hc, hg⟩
              obtain ⟨qn, rfl⟩ := Int.eq_ofNat_of_zero_le q0
              have hqn : qn < n := by omega
              have hqi : (qn : Int) < (n : Int) := by omega
              have hqz : (0 : Int) ≤ (qn : Int) := q0
              have HA := Lib.hid (HA.out.grown hg (show s5 ≠ p by omega))
              have OW := Lib.hid (own_kept OW.out hg (fun g e => by cases e; exact hpB))
              have HT := Lib.hid (HT.out.grown hg (Nat.ne_of_gt hpb))
              have HZ := Lib.hid (HZ.out.grown hg (Nat.ne_of_gt hpr))
              have HC := Lib.hid hc
              have HG := Lib.hid (grown_trans HG.out hg)
              clear hc hg
              go_simp
              refine hK.out _ _ ⟨HT.out.cell 1 _ rfl, rw_of OW.out⟩ (fun hHeld => ?_)
              clear hK K
              try simp only [Act.put, List.getElem_toArray, List.getElem_cons_succ, List.getElem_cons_zero, List.setIfInBounds_toArray, List.set_cons_succ, List.set_cons_zero]
              refine wpAnyE_take (i := 16) (v := ?vt21_16) rfl (by decide +kernel) (fun _ _ _ h => h) (Or.inl ⟨by first | rfl | kernel_rfl, ?ht21_16⟩) (by assumption) ?rt21_16
              case ht21_16 =>
                intro wS hSw
                obtain ⟨h0, h1⟩ := hSw
                go_simp
                try with_reducible rfl
              try simp only [Act.put, List.getElem_toArray, List.getElem_cons_succ, List.getElem_cons_zero, List.setIfInBounds_toArray, List.set_cons_succ, List.set_cons_zero]
              refine wpAnyE_take (i := 17) (v := ?vt21_17) rfl (by decide +kernel) (fun _ _ _ h => h) (Or.inl ⟨by first | rfl | kernel_rfl, ?ht21_17⟩) (by assumption) ?rt21_17
              case ht21_17 =>
                intro wS hSw
                obtain ⟨h0, h1⟩ := hSw
                obtain ⟨q0, q1⟩ := h1 qn hqn
                clear h1
                go_simp
                try with_reducible rfl
              try simp only [Act.put, List.getElem_toArray, List.getElem_cons_succ, List.getElem_cons_zero, List.setIfInBounds_toArray, List.set_cons_succ, List.set_cons_zero]
              refine wpAnyE_ready (rs := [19]) (by kernel_rfl) (by simp) ?_
              refine AllReadyE.cons (i := 19) rfl (by decide) (fun K hK => ?_) AllReadyE.nil
              have ls61 : g < x25.heap.size := (own_le OW.out).2.2
              have ls62 : w.heap.size + 1 < x25.heap.size := HZ.out.lt
              have ls63 : s5 < x25.heap.size := HA.out.lt
              have HA := Lib.hid (HA.out.alloc (.cells #[.int .i64 0, .int .i64 0] 31))
              have HB := Lib.hid (Blk.new 31 #[.int .i64 0, .int .i64 0] x25)
              have OW := Lib.hid (own_.own_below OW.out ((Below.refl _ _).alloc (Nat.le_refl _) (.cells #[.int .i64 0, .int .i64 0] 31)))
              have HT := Lib.hid (HT.out.alloc (.cells #[.int .i64 0, .int .i64 0] 31))
              have HZ := Lib.hid (HZ.out.alloc (.cells #[.int .i64 0, .int .i64 0] 31))
              have HC := Lib.hid (Cur.alloc HC.out (.cells #[.int .i64 0, .int .i64 0] 31))
              have HG := Lib.hid (grown_trans HG.out (grown_alloc (.cells #[.int .i64 0, .int .i64 0] 31) (some p)))
              go_simp
              generalize x25.alloc (.cells #[.int .i64 0, .int .i64 0] 31) = x26 at *
              generalize x25.heap.size = s6 at *
              refine hK.out _ _ ⟨HT.out.cell 1 _ rfl, rw_of OW.out⟩ (fun hHeld => ?_)
              clear hK K
              try simp only [Act.put, List.getElem_toArray, List.getElem_cons_succ, List.getElem_cons_zero, List.setIfInBounds_toArray, List.set_cons_succ, List.set_cons_zero]
              generalize cX zs jn = a1 at *
              generalize cY zs jn = a2 at *
              generalize cX zs qn = b1 at *
              generalize cY zs qn = b2 at *
              have s0_ : x26.cell? ⟨s5, 0, none⟩ = some (.int .i64 0) := HA.out.cell 0 _ rfl
              have sf0_ := HA.out.frozen 0
              have s1_ : x26.cell? ⟨s5, 1, none⟩ = some (.int .i64 0) := HA.out.cell 1 _ rfl
              have sf1_ := HA.out.frozen 1
              refine wpAnyE_ready (rs := [20]) (by kernel_rfl) (by simp) ?_
              refine AllReadyE.cons (i := 20) rfl (by decide) (fun K hK => ?_) AllReadyE.nil
              go_simp
              have HA := Lib.hid (draws17.Blk.set (draws17.Blk.set HA.out 0 (.int .i64 a1)) 1 (.int .i64 a2))
              have HB := Lib.hid (draws17.Blk.other (draws17.Blk.other HB.out (show s6 ≠ s5 by omega) 0 (.int .i64 a1)) (show s6 ≠ s5 by omega) 1 (.int .i64 a2))
              have HT := Lib.hid (draws17.Blk.other (draws17.Blk.other HT.out (show w.heap.size ≠ s5 by omega) 0 (.int .i64 a1)) (show w.heap.size ≠ s5 by omega) 1 (.int .i64 a2))
              have HZ := Lib.hid (draws17.Blk.other (draws17.Blk.other HZ.out (show w.heap.size + 1 ≠ s5 by omega) 0 (.int .i64 a1)) (show w.heap.size + 1 ≠ s5 by omega) 1 (.int .i64 a2))
              have OW := Lib.hid (own_kept_at (own_kept_at OW.out (grown_set (grown_refl _ (some (s5))) 0 (.int .i64 a1)) (fun q e h => by injection h with h; have e2 : g = q := Option.some.inj e; omega)) (grown_set (grown_refl _ (some (s5))) 1 (.int .i64 a2)) (fun q e h => by injection h with h; have e2 : g = q := Option.some.inj e; omega))
              have HC := Lib.hid (Cur.set (Cur.set HC.out (show p < s5 by omega) (i := 0) (v := .int .i64 a1)) (show p < s5 by omega) (i := 1) (v := .int .i64 a2))
              have HG := Lib.hid (grown_put (grown_put HG.out (show w.heap.size ≤ s5 by omega) (i := 0) (v := .int .i64 a1)) (show w.heap.size ≤ s5 by omega) (i := 1) (v := .int .i64 a2))
              clear s0_ s1_ sf0_ sf1_
              generalize (x26.setCell ⟨s5, 0, none⟩ (.int .i64 a1)).setCell ⟨s5, 1, none⟩ (.int .i64 a2) = x27 at *
              refine hK.out _ _ ⟨HT.out.cell 1 _ rfl, rw_of OW.out⟩ (fun hHeld => ?_)
              clear hK K
              try simp only [Act.put, List.getElem_toArray, List.getElem_cons_succ, List.getElem_cons_zero, List.setIfInBounds_toArray, List.set_cons_succ, List.set_cons_zero]
              have s0_ : x27.cell? ⟨s6, 0, none⟩ = some (.int .i64 0) := HB.out.cell 0 _ rfl
              have sf0_ := HB.out.frozen 0
              have s1_ : x27.cell? ⟨s6, 1, none⟩ = some (.int .i64 0) := HB.out.cell 1 _ rfl
              have sf1_ := HB.out.frozen 1
              refine wpAnyE_ready (rs := [21]) (by kernel_rfl) (by simp) ?_
              refine AllReadyE.last (i := 21) rfl rfl (fun K hK => ?_)
              go_simp
              refine hK.out _ _ ?_
              clear hK K
              try simp only [Act.put, List.getElem_toArray, List.getElem_cons_succ, List.getElem_cons_zero, List.setIfInBounds_toArray, List.set_cons_succ, List.set_cons_zero]
              refine wpAnyE_done (by kernel_rfl) ?_ _
              try simp only [List.getElem_toArray, List.getElem_cons_succ, List.getElem_cons_zero, List.setIfInBounds_toArray, List.set_cons_succ, List.set_cons_zero]
              have HB := Lib.hid (draws17.Blk.set (draws17.Blk.set HB.out 0 (.int .i64 b1)) 1 (.int .i64 b2))
              have HA := Lib.hid (draws17.Blk.other (draws17.Blk.other HA.out (show s5 ≠ s6 by omega) 0 (.int .i64 b1)) (show s5 ≠ s6 by omega) 1 (.int .i64 b2))
              have HT := Lib.hid (draws17.Blk.other (draws17.Blk.other HT.out (show w.heap.size ≠ s6 by omega) 0 (.int .i64 b1)) (show w.heap.size ≠ s6 by omega) 1 (.int .i64 b2))
              have HZ := Lib.hid (draws17.Blk.other (draws17.Blk.other HZ.out (show w.heap.size + 1 ≠ s6 by omega) 0 (.int .i64 b1)) (show w.heap.size + 1 ≠ s6 by omega) 1 (.int .i64 b2))
              have OW := Lib.hid (own_kept_at (own_kept_at OW.out (grown_set (grown_refl _ (some (s6))) 0 (.int .i64 b1)) (fun q e h => by injection h with h; have e2 : g = q := Option.some.inj e; omega)) (grown_set (grown_refl _ (some (s6))) 1 (.int .i64 b2)) (fun q e h => by injection h with h; have e2 : g = q := Option.some.inj e; omega))
              have HC := Lib.hid (Cur.set (Cur.set HC.out (show p < s6 by omega) (i := 0) (v := .int .i64 b1)) (show p < s6 by omega) (i := 1) (v := .int .i64 b2))
              have HG := Lib.hid (grown_put (grown_put HG.out (show w.heap.size ≤ s6 by omega) (i := 0) (v := .int .i64 b1)) (show w.heap.size ≤ s6 by omega) (i := 1) (v := .int .i64 b2))
              clear s0_ s1_ sf0_ sf1_
              go_wp2_with fail
              go_meet
              exact ⟨_, _, _, _, _, _, rfl, rfl, HA.out, HB.out, HZ.out, HC.out.more (by omega), HG.out⟩
            · have ls61 : g < x24.heap.size := (own_le OW.out).2.2
              have ls62 : w.heap.size + 1 < x24.heap.size := HZ.out.lt
              have ls63 : s5 < x24.heap.size := HA.out.lt
              have HA := Lib.hid (HA.out.alloc (.cells #[.int .i64 0, .int .i64 0] 31))
              have HB := Lib.hid (Blk.new 31 #[.int .i64 0, .int .i64 0] x24)
              have OW := Lib.hid (own_.own_below OW.out ((Below.refl _ _).alloc (Nat.le_refl _) (.cells #[.int .i64 0, .int .i64 0] 31)))
              have HT := Lib.hid (HT.out.alloc (.cells #[.int .i64 0, .int .i64 0] 31))
              have HZ := Lib.hid (HZ.out.alloc (.cells #[.int .i64 0, .int .i64 0] 31))
              have HC := Lib.hid (Cur.alloc HC.out (.cells #[.int .i64 0, .int .i64 0] 31))
              have HG := Lib.hid (grown_trans HG.out (grown_alloc (.cells #[.int .i64 0, .int .i64 0] 31) (some p)))
              go_simp
              generalize x24.alloc (.cells #[.int .i64 0, .int .i64 0] 31) = x28 at *
              generalize x24.heap.size = s6 at *
              refine hK.out _ _ ⟨HT.out.cell 1 _ rfl, rw_of OW.out⟩ (fun hHeld => ?_)
              clear hK K
              try simp only [Act.put, List.getElem_toArray, List.getElem_cons_succ, List.getElem_cons_zero, List.setIfInBounds_toArray, List.set_cons_succ, List.set_cons_zero]
              refine wpAnyE_ready (rs := [15]) (by kernel_rfl) (by simp) ?_
              refine AllReadyE.cons (i := 15) rfl (by decide) (fun K hK => ?_) AllReadyE.nil
              go_simp
              refine (pick p _ (n : Int) x28 HC.out (by omega) (by omega) (by omega)).mono ?_
              rintro e x29 ⟨q, rfl, q0, q1, hc, hg⟩
              obtain ⟨qn, rfl⟩ := Int.eq_ofNat_of_zero_le q0
              have hqn : qn < n := by omega
              have hqi : (qn : Int) < (n : Int) := by omega
              have hqz : (0 : Int) ≤ (qn : Int) := q0
              have HA := Lib.hid (HA.out.grown hg (show s5 ≠ p by omega))
              have HB := Lib.hid (HB.out.grown hg (show s6 ≠ p by omega))
              have OW := Lib.hid (own_kept OW.out hg (fun g e => by cases e; exact hpB))
              have HT := Lib.hid (HT.out.grown hg (Nat.ne_of_gt hpb))
              have HZ := Lib.hid (HZ.out.grown hg (Nat.ne_of_gt hpr))
              have HC := Lib.hid hc
              have HG := Lib.hid (grown_trans HG.out hg)
              clear hc hg
              go_simp
              refine hK.out _ _ ⟨HT.out.cell 1 _ rfl, rw_of OW.out⟩ (fun hHeld => ?_)
              clear hK K
              try simp only [Act.put, List.getElem_toArray, List.getElem_cons_succ, List.getElem_cons_zero, List.setIfInBounds_toArray, List.set_cons_succ, List.set_cons_zero]
              refine wpAnyE_take (i := 16) (v := ?vt24_16) rfl (by decide +kernel) (fun _ _ _ h => h) (Or.inl ⟨by first | rfl | kernel_rfl, ?ht24_16⟩) (by assumption) ?rt24_16
              case ht24_16 =>
                intro wS hSw
                obtain ⟨h0, h1⟩ := hSw
                go_simp
                try with_reducible rfl
              try simp only [Act.put, List.getElem_toArray, List.getElem_cons_succ, List.getElem_cons_zero, List.setIfInBounds_toArray, List.set_cons_succ, List.set_cons_zero]
              refine wpAnyE_take (i := 17) (v := ?vt24_17) rfl (by decide +kernel) (fun _ _ _ h => h) (Or.inl ⟨by first | rfl | kernel_rfl, ?ht24_17⟩) (by assumption) ?rt24_17
              case ht24_17 =>
                intro wS hSw
                obtain ⟨h0, h1⟩ := hSw
                obtain ⟨q0, q1⟩ := h1 qn hqn
                clear h1
                go_simp
                try with_reducible rfl
              try simp only [Act.put, List.getElem_toArray, List.getElem_cons_succ, List.getElem_cons_zero, List.setIfInBounds_toArray, List.set_cons_succ, List.set_cons_zero]
              generalize cX zs jn = a1 at *
              generalize cY zs jn = a2 at *
              generalize cX zs qn = b1 at *
              generalize cY zs qn = b2 at *
              have s0_ : x29.cell? ⟨s5, 0, none⟩ = some (.int .i64 0) := HA.out.cell 0 _ rfl
              have sf0_ := HA.out.frozen 0
              have s1_ : x29.cell? ⟨s5, 1, none⟩ = some (.int .i64 0) := HA.out.cell 1 _ rfl
              have sf1_ := HA.out.frozen 1
              refine wpAnyE_ready (rs := [20]) (by kernel_rfl) (by simp) ?_
              refine AllReadyE.cons (i := 20) rfl (by decide) (fun K hK => ?_) AllReadyE.nil
              go_simp
              have HA := Lib.hid (draws17.Blk.set (draws17.Blk.set HA.out 0 (.int .i64 a1)) 1 (.int .i64 a2))
              have HB := Lib.hid (draws17.Blk.other (draws17.Blk.other HB.out (show s6 ≠ s5 by omega) 0 (.int .i64 a1)) (show s6 ≠ s5 by omega) 1 (.int .i64 a2))
              have HT := Lib.hid (draws17.Blk.other (draws17.Blk.other HT.out (show w.heap.size ≠ s5 by omega) 0 (.int .i64 a1)) (show w.heap.size ≠ s5 by omega) 1 (.int .i64 a2))
              have HZ := Lib.hid (draws17.Blk.other (draws17.Blk.other HZ.out (show w.heap.size + 1 ≠ s5 by omega) 0 (.int .i64 a1)) (show w.heap.size + 1 ≠ s5 by omega) 1 (.int .i64 a2))
              have OW := Lib.hid (own_kept_at (own_kept_at OW.out (grown_set (grown_refl _ (some (s5))) 0 (.int .i64 a1)) (fun q e h => by injection h with h; have e2 : g = q := Option.some.inj e; omega)) (grown_set (grown_refl _ (some (s5))) 1 (.int .i64 a2)) (fun q e h => by injection h with h; have e2 : g = q := Option.some.inj e; omega))
              have HC := Lib.hid (Cur.set (Cur.set HC.out (show p < s5 by omega) (i := 0) (v := .int .i64 a1)) (show p < s5 by omega) (i := 1) (v := .int .i64 a2))
              have HG := Lib.hid (grown_put (grown_put HG.out (show w.heap.size ≤ s5 by omega) (i := 0) (v := .int .i64 a1)) (show w.heap.size ≤ s5 by omega) (i := 1) (v := .int .i64 a2))
              clear s0_ s1_ sf0_ sf1_
              generalize (x29.setCell ⟨s5, 0, none⟩ (.int .i64 a1)).setCell ⟨s5, 1, none⟩ (.int .i64 a2) = x30 at *
              refine hK.out _ _ ⟨HT.out.cell 1 _ rfl, rw_of OW.out⟩ (fun hHeld => ?_)
              clear hK K
              try simp only [Act.put, List.getElem_toArray, List.getElem_cons_succ, List.getElem_cons_zero, List.setIfInBounds_toArray, List.set_cons_succ, List.set_cons_zero]
              have s0_ : x30.cell? ⟨s6, 0, none⟩ = some (.int .i64 0) := HB.out.cell 0 _ rfl
              have sf0_ := HB.out.frozen 0
              have s1_ : x30.cell? ⟨s6, 1, none⟩ = some (.int .i64 0) := HB.out.cell 1 _ rfl
              have sf1_ := HB.out.frozen 1
              refine wpAnyE_ready (rs := [21]) (by kernel_rfl) (by simp) ?_
              refine AllReadyE.last (i := 21) rfl rfl (fun K hK => ?_)
              go_simp
              refine hK.out _ _ ?_
              clear hK K
              try simp only [Act.put, List.getElem_toArray, List.getElem_cons_succ, List.getElem_cons_zero, List.setIfInBounds_toArray, List.set_cons_succ, List.set_cons_zero]
              refine wpAnyE_done (by kernel_rfl) ?_ _
              try simp only [List.getElem_toArray, List.getElem_cons_succ, List.getElem_cons_zero, List.setIfInBounds_toArray, List.set_cons_succ, List.set_cons_zero]
              have HB := Lib.hid (draws17.Blk.set (draws17.Blk.set HB.out 0 (.int .i64 b1)) 1 (.int .i64 b2))
              have HA := Lib.hid (draws17.Blk.other (draws17.Blk.other HA.out (show s5 ≠ s6 by omega) 0 (.int .i64 b1)) (show s5 ≠ s6 by omega) 1 (.int .i64 b2))
              have HT := Lib.hid (draws17.Blk.other (draws17.Blk.other HT.out (show w.heap.size ≠ s6 by omega) 0 (.int .i64 b1)) (show w.heap.size ≠ s6 by omega) 1 (.int .i64 b2))
              have HZ := Lib.hid (draws17.Blk.other (draws17.Blk.other HZ.out (show w.heap.size + 1 ≠ s6 by omega) 0 (.int .i64 b1)) (show w.heap.size + 1 ≠ s6 by omega) 1 (.int .i64 b2))
              have OW := Lib.hid (own_kept_at (own_kept_at OW.out (grown_set (grown_refl _ (some (s6))) 0 (.int .i64 b1)) (fun q e h => by injection h with h; have e2 : g = q := Option.some.inj e; omega)) (grown_set (grown_refl _ (some (s6))) 1 (.int .i64 b2)) (fun q e h => by injection h with h; have e2 : g = q := Option.some.inj e; omega))
              have HC := Lib.hid (Cur.set (Cur.set HC.out (show p < s6 by omega) (i := 0) (v := .int .i64 b1)) (show p < s6 by omega) (i := 1) (v := .int .i64 b2))
              have HG := Lib.hid (grown_put (grown_put HG.out (show w.heap.size ≤ s6 by omega) (i := 0) (v := .int .i64 b1)) (show w.heap.size ≤ s6 by omega) (i := 1) (v := .int .i64 b2))
              clear s0_ s1_ sf0_ sf1_
              go_wp2_with fail
              go_meet
              exact ⟨_, _, _, _, _, _, rfl, rfl, HA.out, HB.out, HZ.out, HC.out.more (by omega), HG.out⟩
          · have ls61 : g < x23.heap.size := (own_le OW.out).2.2
            have ls62 : w.heap.size + 1 < x23.heap.size := HZ.out.lt
            have ls63 : s5 < x23.heap.size := HA.out.lt
            have HA := Lib.hid (HA.out.alloc (.cells #[.int .i64 0, .int .i64 0] 31))
            have HB := Lib.hid (Blk.new 31 #[.int .i64 0, .int .i64 0] x23)
            have OW := Lib.hid (own_.own_below OW.out ((Below.refl _ _).alloc (Nat.le_refl _) (.cells #[.int .i64 0, .int .i64 0] 31)))
            have HT := Lib.hid (HT.out.alloc (.cells #[.int .i64 0, .int .i64 0] 31))
            have HZ := Lib.hid (HZ.out.alloc (.cells #[.int .i64 0, .int .i64 0] 31))
            have HC := Lib.hid (Cur.alloc HC.out (.cells #[.int .i64 0, .int .i64 0] 31))
            have HG := Lib.hid (grown_trans HG.out (grown_alloc (.cells #[.int .i64 0, .int .i64 0] 31) (some p)))
            go_simp
            generalize x23.alloc (.cells #[.int .i64 0, .int .i64 0] 31) = x31 at *
            generalize x23.heap.size = s6 at *
            refine hK.out _ _ ⟨HT.out.cell 1 _ rfl, rw_of OW.out⟩ (fun hHeld => ?_)
            clear hK K
            try simp only [Act.put, List.getElem_toArray, List.getElem_cons_succ, List.getElem_cons_zero, List.setIfInBounds_toArray, List.set_cons_succ, List.set_cons_zero]
            refine wpAnyE_ready (rs := [6]) (by kernel_rfl) (by simp) ?_
            refine AllReadyE.cons (i := 6) rfl (by decide) (fun K hK => ?_) AllReadyE.nil
            go_simp
            refine (pick p _ (n : Int) x31 HC.out (by omega) (by omega) (by omega)).mono ?_
            rintro e x32 ⟨j, rfl, j0, j1, hc, hg⟩
            obtain ⟨jn, rfl⟩ := Int.eq_ofNat_of_zero_le j0
            have hjn : jn < n := by omega
            have hji : (jn : Int) < (n : Int) := by omega
            have hjz : (0 : Int) ≤ (jn : Int) := j0
            have HA := Lib.hid (HA.out.grown hg (show s5 ≠ p by omega))
            have HB := Lib.hid (HB.out.grown hg (show s6 ≠ p by omega))
            have OW := Lib.hid (own_kept OW.out hg (fun g e => by cases e; exact hpB))
            have HT := Lib.hid (HT.out.grown hg (Nat.ne_of_gt hpb))
            have HZ := Lib.hid (HZ.out.grown hg (Nat.ne_of_gt hpr))
            have HC := Lib.hid hc
            have HG := Lib.hid (grown_trans HG.out hg)
            clear hc hg
            go_simp
            refine hK.out _ _ ⟨HT.out.cell 1 _ rfl, rw_of OW.out⟩ (fun hHeld => ?_)
            clear hK K
            try simp only [Act.put, List.getElem_toArray, List.getElem_cons_succ, List.getElem_cons_zero, List.setIfInBounds_toArray, List.set_cons_succ, List.set_cons_zero]
            refine wpAnyE_take (i := 7) (v := ?vt27_7) rfl (by decide +kernel) (fun _ _ _ h => h) (Or.inl ⟨by first | rfl | kernel_rfl, ?ht27_7⟩) (by assumption) ?rt27_7
            case ht27_7 =>
              intro wS hSw
              obtain ⟨h0, h1⟩ := hSw
              go_simp
              try with_reducible rfl
            try simp only [Act.put, List.getElem_toArray, List.getElem_cons_succ, List.getElem_cons_zero, List.setIfInBounds_toArray, List.set_cons_succ, List.set_cons_zero]
            refine wpAnyE_take (i := 8) (v := ?vt27_8) rfl (by decide +kernel) (fun _ _ _ h => h) (Or.inl ⟨by first | rfl | kernel_rfl, ?ht27_8⟩) (by assumption) ?rt27_8
            case ht27_8 =>
              intro wS hSw
              obtain ⟨h0, h1⟩ := hSw
              obtain ⟨q0, q1⟩ := h1 jn hjn
              clear h1
              go_simp
              try with_reducible rfl
            try simp only [Act.put, List.getElem_toArray, List.getElem_cons_succ, List.getElem_cons_zero, List.setIfInBounds_toArray, List.set_cons_succ, List.set_cons_zero]
            refine wpAnyE_ready (rs := [15]) (by kernel_rfl) (by simp) ?_
            refine AllReadyE.cons (i := 15) rfl (by decide) (fun K hK => ?_) AllReadyE.nil
            go_simp
            refine (pick p _ (n : Int) x32 HC.out (by omega) (by omega) (by omega)).mono ?_
            rintro e x33 ⟨q, rfl, q0, q1, hc, hg⟩
            obtain ⟨qn, rfl⟩ := Int.eq_ofNat_of_zero_le q0
            have hqn : qn < n := by omega
            have hqi : (qn : Int) < (n : Int) := by omega
            have hqz : (0 : Int) ≤ (qn : Int) := q0
            have HA := Lib.hid (HA.out.grown hg (show s5 ≠ p by omega))
            have HB := Lib.hid (HB.out.grown hg (show s6 ≠ p by omega))
            have OW := Lib.hid (own_kept OW.out hg (fun g e => by cases e; exact hpB))
            have HT := Lib.hid (HT.out.grown hg (Nat.ne_of_gt hpb))
            have HZ := Lib.hid (HZ.out.grown hg (Nat.ne_of_gt hpr))
            have HC := Lib.hid hc
            have HG := Lib.hid (grown_trans HG.out hg)
            clear hc hg
            go_simp
            refine hK.out _ _ ⟨HT.out.cell 1 _ rfl, rw_of OW.out⟩ (fun hHeld => ?_)
            clear hK K
            try simp only [Act.put, List.getElem_toArray, List.getElem_cons_succ, List.getElem_cons_zero, List.setIfInBounds_toArray, List.set_cons_succ, List.set_cons_zero]
            refine wpAnyE_take (i := 16) (v := ?vt28_16) rfl (by decide +kernel) (fun _ _ _ h => h) (Or.inl ⟨by first | rfl | kernel_rfl, ?ht28_16⟩) (by assumption) ?rt28_16
            case ht28_16 =>
              intro wS hSw
              obtain ⟨h0, h1⟩ := hSw
              go_simp
              try with_reducible rfl
            try simp only [Act.put, List.getElem_toArray, List.getElem_cons_succ, List.getElem_cons_zero, List.setIfInBounds_toArray, List.set_cons_succ, List.set_cons_zero]
            refine wpAnyE_take (i := 17) (v := ?vt28_17) rfl (by decide +kernel) (fun _ _ _ h => h) (Or.inl ⟨by first | rfl | kernel_rfl, ?ht28_17⟩) (by assumption) ?rt28_17
            case ht28_17 =>
              intro wS hSw
              obtain ⟨h0, h1⟩ := hSw
              obtain ⟨q0, q1⟩ := h1 qn hqn
              clear h1
              go_simp
              try with_reducible rfl
            try simp only [Act.put, List.getElem_toArray, List.getElem_cons_succ, List.getElem_cons_zero, List.setIfInBounds_toArray, List.set_cons_succ, List.set_cons_zero]
            generalize cX zs jn = a1 at *
            generalize cY zs jn = a2 at *
            generalize cX zs qn = b1 at *
            generalize cY zs qn = b2 at *
            have s0_ : x33.cell? ⟨s5, 0, none⟩ = some (.int .i64 0) := HA.out.cell 0 _ rfl
            have sf0_ := HA.out.frozen 0
            have s1_ : x33.cell? ⟨s5, 1, none⟩ = some (.int .i64 0) := HA.out.cell 1 _ rfl
            have sf1_ := HA.out.frozen 1
            refine wpAnyE_ready (rs := [20]) (by kernel_rfl) (by simp) ?_
            refine AllReadyE.cons (i := 20) rfl (by decide) (fun K hK => ?_) AllReadyE.nil
            go_simp
            have HA := Lib.hid (draws17.Blk.set (draws17.Blk.set HA.out 0 (.int .i64 a1)) 1 (.int .i64 a2))
            have HB := Lib.hid (draws17.Blk.other (draws17.Blk.other HB.out (show s6 ≠ s5 by omega) 0 (.int .i64 a1)) (show s6 ≠ s5 by omega) 1 (.int .i64 a2))
            have HT := Lib.hid (draws17.Blk.other (draws17.Blk.other HT.out (show w.heap.size ≠ s5 by omega) 0 (.int .i64 a1)) (show w.heap.size ≠ s5 by omega) 1 (.int .i64 a2))
            have HZ := Lib.hid (draws17.Blk.other (draws17.Blk.other HZ.out (show w.heap.size + 1 ≠ s5 by omega) 0 (.int .i64 a1)) (show w.heap.size + 1 ≠ s5 by omega) 1 (.int .i64 a2))
            have OW := Lib.hid (own_kept_at (own_kept_at OW.out (grown_set (grown_refl _ (some (s5))) 0 (.int .i64 a1)) (fun q e h => by injection h with h; have e2 : g = q := Option.some.inj e; omega)) (grown_set (grown_refl _ (some (s5))) 1 (.int .i64 a2)) (fun q e h => by injection h with h; have e2 : g = q := Option.some.inj e; omega))
            have HC := Lib.hid (Cur.set (Cur.set HC.out (show p < s5 by omega) (i := 0) (v := .int .i64 a1)) (show p < s5 by omega) (i := 1) (v := .int .i64 a2))
            have HG := Lib.hid (grown_put (grown_put HG.out (show w.heap.size ≤ s5 by omega) (i := 0) (v := .int .i64 a1)) (show w.heap.size ≤ s5 by omega) (i := 1) (v := .int .i64 a2))
            clear s0_ s1_ sf0_ sf1_
            generalize (x33.setCell ⟨s5, 0, none⟩ (.int .i64 a1)).setCell ⟨s5, 1, none⟩ (.int .i64 a2) = x34 at *
            refine hK.out _ _ ⟨HT.out.cell 1 _ rfl, rw_of OW.out⟩ (fun hHeld => ?_)
            clear hK K
            try simp only [Act.put, List.getElem_toArray, List.getElem_cons_succ, List.getElem_cons_zero, List.setIfInBounds_toArray, List.set_cons_succ, List.set_cons_zero]
            have s0_ : x34.cell? ⟨s6, 0, none⟩ = some (.int .i64 0) := HB.out.cell 0 _ rfl
            have sf0_ := HB.out.frozen 0
            have s1_ : x34.cell? ⟨s6, 1, none⟩ = some (.int .i64 0) := HB.out.cell 1 _ rfl
            have sf1_ := HB.out.frozen 1
            refine wpAnyE_ready (rs := [21]) (by kernel_rfl) (by simp) ?_
            refine AllReadyE.last (i := 21) rfl rfl (fun K hK => ?_)
            go_simp
            refine hK.out _ _ ?_
            clear hK K
            try simp only [Act.put, List.getElem_toArray, List.getElem_cons_succ, List.getElem_cons_zero, List.setIfInBounds_toArray, List.set_cons_succ, List.set_cons_zero]
            refine wpAnyE_done (by kernel_rfl) ?_ _
            try simp only [List.getElem_toArray, List.getElem_cons_succ, List.getElem_cons_zero, List.setIfInBounds_toArray, List.set_cons_succ, List.set_cons_zero]
            have HB := Lib.hid (draws17.Blk.set (draws17.Blk.set HB.out 0 (.int .i64 b1)) 1 (.int .i64 b2))
            have HA := Lib.hid (draws17.Blk.other (draws17.Blk.other HA.out (show s5 ≠ s6 by omega) 0 (.int .i64 b1)) (show s5 ≠ s6 by omega) 1 (.int .i64 b2))
            have HT := Lib.hid (draws17.Blk.other (draws17.Blk.other HT.out (show w.heap.size ≠ s6 by omega) 0 (.int .i64 b1)) (show w.heap.size ≠ s6 by omega) 1 (.int .i64 b2))
            have HZ := Lib.hid (draws17.Blk.other (draws17.Blk.other HZ.out (show w.heap.size + 1 ≠ s6 by omega) 0 (.int .i64 b1)) (show w.heap.size + 1 ≠ s6 by omega) 1 (.int .i64 b2))
            have OW := Lib.hid (own_kept_at (own_kept_at OW.out (grown_set (grown_refl _ (some (s6))) 0 (.int .i64 b1)) (fun q e h => by injection h with h; have e2 : g = q := Option.some.inj e; omega)) (grown_set (grown_refl _ (some (s6))) 1 (.int .i64 b2)) (fun q e h => by injection h with h; have e2 : g = q := Option.some.inj e; omega))
            have HC := Lib.hid (Cur.set (Cur.set HC.out (show p < s6 by omega) (i := 0) (v := .int .i64 b1)) (show p < s6 by omega) (i := 1) (v := .int .i64 b2))
            have HG := Lib.hid (grown_put (grown_put HG.out (show w.heap.size ≤ s6 by omega) (i := 0) (v := .int .i64 b1)) (show w.heap.size ≤ s6 by omega) (i := 1) (v := .int .i64 b2))
            clear s0_ s1_ sf0_ sf1_
            go_wp2_with fail
            go_meet
            exact ⟨_, _, _, _, _, _, rfl, rfl, HA.out, HB.out, HZ.out, HC.out.more (by omega), HG.out⟩
        · have ls61 : g < W1.heap.size := (own_le OW.out).2.2
          have ls62 : w.heap.size + 1 < W1.heap.size := HZ.out.lt
          have HB := Lib.hid (Blk.new 31 #[.int .i64 0, .int .i64 0] W1)
          have OW := Lib.hid (own_.own_below OW.out ((Below.refl _ _).alloc (Nat.le_refl _) (.cells #[.int .i64 0, .int .i64 0] 31)))
          have HT := Lib.hid (HT.out.alloc (.cells #[.int .i64 0, .int .i64 0] 31))
          have HZ := Lib.hid (HZ.out.alloc (.cells #[.int .i64 0, .int .i64 0] 31))
          have HC := Lib.hid (Cur.alloc HC.out (.cells #[.int .i64 0, .int .i64 0] 31))
          have HG := Lib.hid (grown_trans HG.out (grown_alloc (.cells #[.int .i64 0, .int .i64 0] 31) (some p)))
          go_simp
          generalize W1.alloc (.cells #[.int .i64 0, .int .i64 0] 31) = x35 at *
          generalize W1.heap.size = s6 at *
          refine hK.out _ _ ⟨HT.out.cell 1 _ rfl, rw_of OW.out⟩ (fun hHeld => ?_)
          clear hK K
          try simp only [Act.put, List.getElem_toArray, List.getElem_cons_succ, List.getElem_cons_zero, List.setIfInBounds_toArray, List.set_cons_succ, List.set_cons_zero]
          refine wpAnyE_ready (rs := [6, 18]) (by kernel_rfl) (by simp) ?_
          refine AllReadyE.cons (i := 6) rfl (by decide) (fun K hK => ?_) (AllReadyE.cons (i := 18) rfl (by decide) (fun K hK => ?_) AllReadyE.nil)
          · go_simp
            refine (pick p _ (n : Int) x35 HC.out (by omega) (by omega) (by omega)).mono ?_
            rintro e x36 ⟨j, rfl, j0, j1, hc, hg⟩
            obtain ⟨jn, rfl⟩ := Int.eq_ofNat_of_zero_le j0
            have hjn : jn < n := by omega
            have hji : (jn : Int) < (n : Int) := by omega
            have hjz : (0 : Int) ≤ (jn : Int) := j0
            have HB := Lib.hid (HB.out.grown hg (show s6 ≠ p by omega))
            have OW := Lib.hid (own_kept OW.out hg (fun g e => by cases e; exact hpB))
            have HT := Lib.hid (HT.out.grown hg (Nat.ne_of_gt hpb))
            have HZ := Lib.hid (HZ.out.grown hg (Nat.ne_of_gt hpr))
            have HC := Lib.hid hc
            have HG := Lib.hid (grown_trans HG.out hg)
            clear hc hg
            go_simp
            refine hK.out _ _ ⟨HT.out.cell 1 _ rfl, rw_of OW.out⟩ (fun hHeld => ?_)
            clear hK K
            try simp only [Act.put, List.getElem_toArray, List.getElem_cons_succ, List.getElem_cons_zero, List.setIfInBounds_toArray, List.set_cons_succ, List.set_cons_zero]
            refine wpAnyE_take (i := 7) (v := ?vt31_7) rfl (by decide +kernel) (fun _ _ _ h => h) (Or.inl ⟨by first | rfl | kernel_rfl, ?ht31_7⟩) (by assumption) ?rt31_7
            case ht31_7 =>
              intro wS hSw
              obtain ⟨h0, h1⟩ := hSw
              go_simp
              try with_reducible rfl
            try simp only [Act.put, List.getElem_toArray, List.getElem_cons_succ, List.getElem_cons_zero, List.setIfInBounds_toArray, List.set_cons_succ, List.set_cons_zero]
            refine wpAnyE_take (i := 8) (v := ?vt31_8) rfl (by decide +kernel) (fun _ _ _ h => h) (Or.inl ⟨by first | rfl | kernel_rfl, ?ht31_8⟩) (by assumption) ?rt31_8
            case ht31_8 =>
              intro wS hSw
              obtain ⟨h0, h1⟩ := hSw
              obtain ⟨q0, q1⟩ := h1 jn hjn
              clear h1
              go_simp
              try with_reducible rfl
            try simp only [Act.put, List.getElem_toArray, List.getElem_cons_succ, List.getElem_cons_zero, List.setIfInBounds_toArray, List.set_cons_succ, List.set_cons_zero]
            refine wpAnyE_ready (rs := [15, 18]) (by kernel_rfl) (by simp) ?_
            refine AllReadyE.cons (i := 15) rfl (by decide) (fun K hK => ?_) (AllReadyE.cons (i := 18) rfl (by decide) (fun K hK => ?_) AllReadyE.nil)
            · go_simp
              refine (pick p _ (n : Int) x36 HC.out (by omega) (by omega) (by omega)).mono ?_
              rintro e x37 ⟨q, rfl, q0, q1, hc, hg⟩
              obtain ⟨qn, rfl⟩ := Int.eq_ofNat_of_zero_le q0
              have hqn : qn < n := by omega
              have hqi : (qn : Int) < (n : Int) := by omega
              have hqz : (0 : Int) ≤ (qn : Int) := q0
              have HB := Lib.hid (HB.out.grown hg (show s6 ≠ p by omega))
              have OW := Lib.hid (own_kept OW.out hg (fun g e => by cases e; exact hpB))
              have HT := Lib.hid (HT.out.grown hg (Nat.ne_of_gt hpb))
              have HZ := Lib.hid (HZ.out.grown hg (Nat.ne_of_gt hpr))
              have HC := Lib.hid hc
              have HG := Lib.hid (grown_trans HG.out hg)
              clear hc hg
              go_simp
              refine hK.out _ _ ⟨HT.out.cell 1 _ rfl, rw_of OW.out⟩ (fun hHeld => ?_)
              clear hK K
              try simp only [Act.put, List.getElem_toArray, List.getElem_cons_succ, List.getElem_cons_zero, List.setIfInBounds_toArray, List.set_cons_succ, List.set_cons_zero]
              refine wpAnyE_take (i := 16) (v := ?vt32_16) rfl (by decide +kernel) (fun _ _ _ h => h) (Or.inl ⟨by first | rfl | kernel_rfl, ?ht32_16⟩) (by assumption) ?rt32_16
              case ht32_16 =>
                intro wS hSw
                obtain ⟨h0, h1⟩ := hSw
                go_simp
                try with_reducible rfl
              try simp only [Act.put, List.getElem_toArray, List.getElem_cons_succ, List.getElem_cons_zero, List.setIfInBounds_toArray, List.set_cons_succ, List.set_cons_zero]
              refine wpAnyE_take (i := 17) (v := ?vt32_17) rfl (by decide +kernel) (fun _ _ _ h => h) (Or.inl ⟨by first | rfl | kernel_rfl, ?ht32_17⟩) (by assumption) ?rt32_17
              case ht32_17 =>
                intro wS hSw
                obtain ⟨h0, h1⟩ := hSw
                obtain ⟨q0, q1⟩ := h1 qn hqn
                clear h1
                go_simp
                try with_reducible rfl
              try simp only [Act.put, List.getElem_toArray, List.getElem_cons_succ, List.getElem_cons_zero, List.setIfInBounds_toArray, List.set_cons_succ, List.set_cons_zero]
              refine wpAnyE_ready (rs := [18]) (by kernel_rfl) (by simp) ?_
              refine AllReadyE.cons (i := 18) rfl (by decide) (fun K hK => ?_) AllReadyE.nil
              have ls51 : g < x37.heap.size := (own_le OW.out).2.2
              have ls52 : w.heap.size + 1 < x37.heap.size := HZ.out.lt
              have ls53 : s6 < x37.heap.size := HB.out.lt
              have HB := Lib.hid (HB.out.alloc (.cells #[.int .i64 0, .int .i64 0] 31))
              have HA := Lib.hid (Blk.new 31 #[.int .i64 0, .int .i64 0] x37)
              have OW := Lib.hid (own_.own_below OW.out ((Below.refl _ _).alloc (Nat.le_refl _) (.cells #[.int .i64 0, .int .i64 0] 31)))
              have HT := Lib.hid (HT.out.alloc (.cells #[.int .i64 0, .int .i64 0] 31))
              have HZ := Lib.hid (HZ.out.alloc (.cells #[.int .i64 0, .int .i64 0] 31))
              have HC := Lib.hid (Cur.alloc HC.out (.cells #[.int .i64 0, .int .i64 0] 31))
              have HG := Lib.hid (grown_trans HG.out (grown_alloc (.cells #[.int .i64 0, .int .i64 0] 31) (some p)))
              go_simp
              generalize x37.alloc (.cells #[.int .i64 0, .int .i64 0] 31) = x38 at *
              generalize x37.heap.size = s5 at *
              refine hK.out _ _ ⟨HT.out.cell 1 _ rfl, rw_of OW.out⟩ (fun hHeld => ?_)
              clear hK K
              try simp only [Act.put, List.getElem_toArray, List.getElem_cons_succ, List.getElem_cons_zero, List.setIfInBounds_toArray, List.set_cons_succ, List.set_cons_zero]
              generalize cX zs jn = a1 at *
              generalize cY zs jn = a2 at *
              generalize cX zs qn = b1 at *
              generalize cY zs qn = b2 at *
              have s0_ : x38.cell? ⟨s5, 0, none⟩ = some (.int .i64 0) := HA.out.cell 0 _ rfl
              have sf0_ := HA.out.frozen 0
              have s1_ : x38.cell? ⟨s5, 1, none⟩ = some (.int .i64 0) := HA.out.cell 1 _ rfl
              have sf1_ := HA.out.frozen 1
              refine wpAnyE_ready (rs := [20]) (by kernel_rfl) (by simp) ?_
              refine AllReadyE.cons (i := 20) rfl (by decide) (fun K hK => ?_) AllReadyE.nil
              go_simp
              have HA := Lib.hid (draws17.Blk.set (draws17.Blk.set HA.out 0 (.int .i64 a1)) 1 (.int .i64 a2))
              have HB := Lib.hid (draws17.Blk.other (draws17.Blk.other HB.out (show s6 ≠ s5 by omega) 0 (.int .i64 a1)) (show s6 ≠ s5 by omega) 1 (.int .i64 a2))
              have HT := Lib.hid (draws17.Blk.other (draws17.Blk.other HT.out (show w.heap.size ≠ s5 by omega) 0 (.int .i64 a1)) (show w.heap.size ≠ s5 by omega) 1 (.int .i64 a2))
              have HZ := Lib.hid (draws17.Blk.other (draws17.Blk.other HZ.out (show w.heap.size + 1 ≠ s5 by omega) 0 (.int .i64 a1)) (show w.heap.size + 1 ≠ s5 by omega) 1 (.int .i64 a2))
              have OW := Lib.hid (own_kept_at (own_kept_at OW.out (grown_set (grown_refl _ (some (s5))) 0 (.int .i64 a1)) (fun q e h => by injection h with h; have e2 : g = q := Option.some.inj e; omega)) (grown_set (grown_refl _ (some (s5))) 1 (.int .i64 a2)) (fun q e h => by injection h with h; have e2 : g = q := Option.some.inj e; omega))
              have HC := Lib.hid (Cur.set (Cur.set HC.out (show p < s5 by omega) (i := 0) (v := .int .i64 a1)) (show p < s5 by omega) (i := 1) (v := .int .i64 a2))
              have HG := Lib.hid (grown_put (grown_put HG.out (show w.heap.size ≤ s5 by omega) (i := 0) (v := .int .i64 a1)) (show w.heap.size ≤ s5 by omega) (i := 1) (v := .int .i64 a2))
              clear s0_ s1_ sf0_ sf1_
              generalize (x38.setCell ⟨s5, 0, none⟩ (.int .i64 a1)).setCell ⟨s5, 1, none⟩ (.int .i64 a2) = x39 at *
              refine hK.out _ _ ⟨HT.out.cell 1 _ rfl, rw_of OW.out⟩ (fun hHeld => ?_)
              clear hK K
              try simp only [Act.put, List.getElem_toArray, List.getElem_cons_succ, List.getElem_cons_zero, List.setIfInBounds_toArray, List.set_cons_succ, List.set_cons_zero]
              have s0_ : x39.cell? ⟨s6, 0, none⟩ = some (.int .i64 0) := HB.out.cell 0 _ rfl
              have sf0_ := HB.out.frozen 0
              have s1_ : x39.cell? ⟨s6, 1, none⟩ = some (.int .i64 0) := HB.out.cell 1 _ rfl
              have sf1_ := HB.out.frozen 1
              refine wpAnyE_ready (rs := [21]) (by kernel_rfl) (by simp) ?_
              refine AllReadyE.last (i := 21) rfl rfl (fun K hK => ?_)
              go_simp
              refine hK.out _ _ ?_
              clear hK K
              try simp only [Act.put, List.getElem_toArray, List.getElem_cons_succ, List.getElem_cons_zero, List.setIfInBounds_toArray, List.set_cons_succ, List.set_cons_zero]
              refine wpAnyE_done (by kernel_rfl) ?_ _
              try simp only [List.getElem_toArray, List.getElem_cons_succ, List.getElem_cons_zero, List.setIfInBounds_toArray, List.set_cons_succ, List.set_cons_zero]
              have HB := Lib.hid (draws17.Blk.set (draws17.Blk.set HB.out 0 (.int .i64 b1)) 1 (.int .i64 b2))
              have HA := Lib.hid (draws17.Blk.other (draws17.Blk.other HA.out (show s5 ≠ s6 by omega) 0 (.int .i64 b1)) (show s5 ≠ s6 by omega) 1 (.int .i64 b2))
              have HT := Lib.hid (draws17.Blk.other (draws17.Blk.other HT.out (show w.heap.size ≠ s6 by omega) 0 (.int .i64 b1)) (show w.heap.size ≠ s6 by omega) 1 (.int .i64 b2))
              have HZ := Lib.hid (draws17.Blk.other (draws17.Blk.other HZ.out (show w.heap.size + 1 ≠ s6 by omega) 0 (.int .i64 b1)) (show w.heap.size + 1 ≠ s6 by omega) 1 (.int .i64 b2))
              have OW := Lib.hid (own_kept_at (own_kept_at OW.out (grown_set (grown_refl _ (some (s6))) 0 (.int .i64 b1)) (fun q e h => by injection h with h; have e2 : g = q := Option.some.inj e; omega)) (grown_set (grown_refl _ (some (s6))) 1 (.int .i64 b2)) (fun q e h => by injection h with h; have e2 : g = q := Option.some.inj e; omega))
              have HC := Lib.hid (Cur.set (Cur.set HC.out (show p < s6 by omega) (i := 0) (v := .int .i64 b1)) (show p < s6 by omega) (i := 1) (v := .int .i64 b2))
              have HG := Lib.hid (grown_put (grown_put HG.out (show w.heap.size ≤ s6 by omega) (i := 0) (v := .int .i64 b1)) (show w.heap.size ≤ s6 by omega) (i := 1) (v := .int .i64 b2))
              clear s0_ s1_ sf0_ sf1_
              go_wp2_with fail
              go_meet
              exact ⟨_, _, _, _, _, _, rfl, rfl, HA.out, HB.out, HZ.out, HC.out.more (by omega), HG.out⟩
            · have ls51 : g < x36.heap.size := (own_le OW.out).2.2
              have ls52 : w.heap.size + 1 < x36.heap.size := HZ.out.lt
              have ls53 : s6 < x36.heap.size := HB.out.lt
              have HB := Lib.hid (HB.out.alloc (.cells #[.int .i64 0, .int .i64 0] 31))
              have HA := Lib.hid (Blk.new 31 #[.int .i64 0, .int .i64 0] x36)
              have OW := Lib.hid (own_.own_below OW.out ((Below.refl _ _).alloc (Nat.le_refl _) (.cells #[.int .i64 0, .int .i64 0] 31)))
              have HT := Lib.hid (HT.out.alloc (.cells #[.int .i64 0, .int .i64 0] 31))
              have HZ := Lib.hid (HZ.out.alloc (.cells #[.int .i64 0, .int .i64 0] 31))
              have HC := Lib.hid (Cur.alloc HC.out (.cells #[.int .i64 0, .int .i64 0] 31))
              have HG := Lib.hid (grown_trans HG.out (grown_alloc (.cells #[.int .i64 0, .int .i64 0] 31) (some p)))
              go_simp
              generalize x36.alloc (.cells #[.int .i64 0, .int .i64 0] 31) = x40 at *
              generalize x36.heap.size = s5 at *
              refine hK.out _ _ ⟨HT.out.cell 1 _ rfl, rw_of OW.out⟩ (fun hHeld => ?_)
              clear hK K
              try simp only [Act.put, List.getElem_toArray, List.getElem_cons_succ, List.getElem_cons_zero, List.setIfInBounds_toArray, List.set_cons_succ, List.set_cons_zero]
              refine wpAnyE_ready (rs := [15]) (by kernel_rfl) (by simp) ?_
              refine AllReadyE.cons (i := 15) rfl (by decide) (fun K hK => ?_) AllReadyE.nil
              go_simp
              refine (pick p _ (n : Int) x40 HC.out (by omega) (by omega) (by omega)).mono ?_
              rintro e x41 ⟨q, rfl, q0, q1, hc, hg⟩
              obtain ⟨qn, rfl⟩ := Int.eq_ofNat_of_zero_le q0
              have hqn : qn < n := by omega
              have hqi : (qn : Int) < (n : Int) := by omega
              have hqz : (0 : Int) ≤ (qn : Int) := q0
              have HB := Lib.hid (HB.out.grown hg (show s6 ≠ p by omega))
              have HA := Lib.hid (HA.out.grown hg (show s5 ≠ p by omega))
              have OW := Lib.hid (own_kept OW.out hg (fun g e => by cases e; exact hpB))
              have HT := Lib.hid (HT.out.grown hg (Nat.ne_of_gt hpb))
              have HZ := Lib.hid (HZ.out.grown hg (Nat.ne_of_gt hpr))
              have HC := Lib.hid hc
              have HG := Lib.hid (grown_trans HG.out hg)
              clear hc hg
              go_simp
              refine hK.out _ _ ⟨HT.out.cell 1 _ rfl, rw_of OW.out⟩ (fun hHeld => ?_)
              clear hK K
              try simp only [Act.put, List.getElem_toArray, List.getElem_cons_succ, List.getElem_cons_zero, List.setIfInBounds_toArray, List.set_cons_succ, List.set_cons_zero]
              refine wpAnyE_take (i := 16) (v := ?vt35_16) rfl (by decide +kernel) (fun _ _ _ h => h) (Or.inl ⟨by first | rfl | kernel_rfl, ?ht35_16⟩) (by assumption) ?rt35_16
              case ht35_16 =>
                intro wS hSw
                obtain ⟨h0, h1⟩ := hSw
                go_simp
                try with_reducible rfl
              try simp only [Act.put, List.getElem_toArray, List.getElem_cons_succ, List.getElem_cons_zero, List.setIfInBounds_toArray, List.set_cons_succ, List.set_cons_zero]
              refine wpAnyE_take (i := 17) (v := ?vt35_17) rfl (by decide +kernel) (fun _ _ _ h => h) (Or.inl ⟨by first | rfl | kernel_rfl, ?ht35_17⟩) (by assumption) ?rt35_17
              case ht35_17 =>
                intro wS hSw
                obtain ⟨h0, h1⟩ := hSw
                obtain ⟨q0, q1⟩ := h1 qn hqn
                clear h1
                go_simp
                try with_reducible rfl
              try simp only [Act.put, List.getElem_toArray, List.getElem_cons_succ, List.getElem_cons_zero, List.setIfInBounds_toArray, List.set_cons_succ, List.set_cons_zero]
              generalize cX zs jn = a1 at *
              generalize cY zs jn = a2 at *
              generalize cX zs qn = b1 at *
              generalize cY zs qn = b2 at *
              have s0_ : x41.cell? ⟨s5, 0, none⟩ = some (.int .i64 0) := HA.out.cell 0 _ rfl
              have sf0_ := HA.out.frozen 0
              have s1_ : x41.cell? ⟨s5, 1, none⟩ = some (.int .i64 0) := HA.out.cell 1 _ rfl
              have sf1_ := HA.out.frozen 1
              refine wpAnyE_ready (rs := [20]) (by kernel_rfl) (by simp) ?_
              refine AllReadyE.cons (i := 20) rfl (by decide) (fun K hK => ?_) AllReadyE.nil
              go_simp
              have HA := Lib.hid (draws17.Blk.set (draws17.Blk.set HA.out 0 (.int .i64 a1)) 1 (.int .i64 a2))
              have HB := Lib.hid (draws17.Blk.other (draws17.Blk.other HB.out (show s6 ≠ s5 by omega) 0 (.int .i64 a1)) (show s6 ≠ s5 by omega) 1 (.int .i64 a2))
              have HT := Lib.hid (draws17.Blk.other (draws17.Blk.other HT.out (show w.heap.size ≠ s5 by omega) 0 (.int .i64 a1)) (show w.heap.size ≠ s5 by omega) 1 (.int .i64 a2))
              have HZ := Lib.hid (draws17.Blk.other (draws17.Blk.other HZ.out (show w.heap.size + 1 ≠ s5 by omega) 0 (.int .i64 a1)) (show w.heap.size + 1 ≠ s5 by omega) 1 (.int .i64 a2))
              have OW := Lib.hid (own_kept_at (own_kept_at OW.out (grown_set (grown_refl _ (some (s5))) 0 (.int .i64 a1)) (fun q e h => by injection h with h; have e2 : g = q := Option.some.inj e; omega)) (grown_set (grown_refl _ (some (s5))) 1 (.int .i64 a2)) (fun q e h => by injection h with h; have e2 : g = q := Option.some.inj e; omega))
              have HC := Lib.hid (Cur.set (Cur.set HC.out (show p < s5 by omega) (i := 0) (v := .int .i64 a1)) (show p < s5 by omega) (i := 1) (v := .int .i64 a2))
              have HG := Lib.hid (grown_put (grown_put HG.out (show w.heap.size ≤ s5 by omega) (i := 0) (v := .int .i64 a1)) (show w.heap.size ≤ s5 by omega) (i := 1) (v := .int .i64 a2))
              clear s0_ s1_ sf0_ sf1_
              generalize (x41.setCell ⟨s5, 0, none⟩ (.int .i64 a1)).setCell ⟨s5, 1, none⟩ (.int .i64 a2) = x42 at *
              refine hK.out _ _ ⟨HT.out.cell 1 _ rfl, rw_of OW.out⟩ (fun hHeld => ?_)
              clear hK K
              try simp only [Act.put, List.getElem_toArray, List.getElem_cons_succ, List.getElem_cons_zero, List.setIfInBounds_toArray, List.set_cons_succ, List.set_cons_zero]
              have s0_ : x42.cell? ⟨s6, 0, none⟩ = some (.int .i64 0) := HB.out.cell 0 _ rfl
              have sf0_ := HB.out.frozen 0
              have s1_ : x42.cell? ⟨s6, 1, none⟩ = some (.int .i64 0) := HB.out.cell 1 _ rfl
              have sf1_ := HB.out.frozen 1
              refine wpAnyE_ready (rs := [21]) (by kernel_rfl) (by simp) ?_
              refine AllReadyE.last (i := 21) rfl rfl (fun K hK => ?_)
              go_simp
              refine hK.out _ _ ?_
              clear hK K
              try simp only [Act.put, List.getElem_toArray, List.getElem_cons_succ, List.getElem_cons_zero, List.setIfInBounds_toArray, List.set_cons_succ, List.set_cons_zero]
              refine wpAnyE_done (by kernel_rfl) ?_ _
              try simp only [List.getElem_toArray, List.getElem_cons_succ, List.getElem_cons_zero, List.setIfInBounds_toArray, List.set_cons_succ, List.set_cons_zero]
              have HB := Lib.hid (draws17.Blk.set (draws17.Blk.set HB.out 0 (.int .i64 b1)) 1 (.int .i64 b2))
              have HA := Lib.hid (draws17.Blk.other (draws17.Blk.other HA.out (show s5 ≠ s6 by omega) 0 (.int .i64 b1)) (show s5 ≠ s6 by omega) 1 (.int .i64 b2))
              have HT := Lib.hid (draws17.Blk.other (draws17.Blk.other HT.out (show w.heap.size ≠ s6 by omega) 0 (.int .i64 b1)) (show w.heap.size ≠ s6 by omega) 1 (.int .i64 b2))
              have HZ := Lib.hid (draws17.Blk.other (draws17.Blk.other HZ.out (show w.heap.size + 1 ≠ s6 by omega) 0 (.int .i64 b1)) (show w.heap.size + 1 ≠ s6 by omega) 1 (.int .i64 b2))
              have OW := Lib.hid (own_kept_at (own_kept_at OW.out (grown_set (grown_refl _ (some (s6))) 0 (.int .i64 b1)) (fun q e h => by injection h with h; have e2 : g = q := Option.some.inj e; omega)) (grown_set (grown_refl _ (some (s6))) 1 (.int .i64 b2)) (fun q e h => by injection h with h; have e2 : g = q := Option.some.inj e; omega))
              have HC := Lib.hid (Cur.set (Cur.set HC.out (show p < s6 by omega) (i := 0) (v := .int .i64 b1)) (show p < s6 by omega) (i := 1) (v := .int .i64 b2))
              have HG := Lib.hid (grown_put (grown_put HG.out (show w.heap.size ≤ s6 by omega) (i := 0) (v := .int .i64 b1)) (show w.heap.size ≤ s6 by omega) (i := 1) (v := .int .i64 b2))
              clear s0_ s1_ sf0_ sf1_
              go_wp2_with fail
              go_meet
              exact ⟨_, _, _, _, _, _, rfl, rfl, HA.out, HB.out, HZ.out, HC.out.more (by omega), HG.out⟩
          · have ls51 : g < x35.heap.size := (own_le OW.out).2.2
            have ls52 : w.heap.size + 1 < x35.heap.size := HZ.out.lt
            have ls53 : s6 < x35.heap.size := HB.out.lt
            have HB := Lib.hid (HB.out.alloc (.cells #[.int .i64 0, .int .i64 0] 31))
            have HA := Lib.hid (Blk.new 31 #[.int .i64 0, .int .i64 0] x35)
            have OW := Lib.hid (own_.own_below OW.out ((Below.refl _ _).alloc (Nat.le_refl _) (.cells #[.int .i64 0, .int .i64 0] 31)))
            have HT := Lib.hid (HT.out.alloc (.cells #[.int .i64 0, .int .i64 0] 31))
            have HZ := Lib.hid (HZ.out.alloc (.cells #[.int .i64 0, .int .i64 0] 31))
            have HC := Lib.hid (Cur.alloc HC.out (.cells #[.int .i64 0, .int .i64 0] 31))
            have HG := Lib.hid (grown_trans HG.out (grown_alloc (.cells #[.int .i64 0, .int .i64 0] 31) (some p)))
            go_simp
            generalize x35.alloc (.cells #[.int .i64 0, .int .i64 0] 31) = x43 at *
            generalize x35.heap.size = s5 at *
            refine hK.out _ _ ⟨HT.out.cell 1 _ rfl, rw_of OW.out⟩ (fun hHeld => ?_)
            clear hK K
            try simp only [Act.put, List.getElem_toArray, List.getElem_cons_succ, List.getElem_cons_zero, List.setIfInBounds_toArray, List.set_cons_succ, List.set_cons_zero]
            refine wpAnyE_ready (rs := [6]) (by kernel_rfl) (by simp) ?_
            refine AllReadyE.cons (i := 6) rfl (by decide) (fun K hK => ?_) AllReadyE.nil
            go_simp
            refine (pick p _ (n : Int) x43 HC.out (by omega) (by omega) (by omega)).mono ?_
            rintro e x44 ⟨j, rfl, j0, j1, hc, hg⟩
            obtain ⟨jn, rfl⟩ := Int.eq_ofNat_of_zero_le j0
            have hjn : jn < n := by omega
            have hji : (jn : Int) < (n : Int) := by omega
            have hjz : (0 : Int) ≤ (jn : Int) := j0
            have HB := Lib.hid (HB.out.grown hg (show s6 ≠ p by omega))
            have HA := Lib.hid (HA.out.grown hg (show s5 ≠ p by omega))
            have OW := Lib.hid (own_kept OW.out hg (fun g e => by cases e; exact hpB))
            have HT := Lib.hid (HT.out.grown hg (Nat.ne_of_gt hpb))
            have HZ := Lib.hid (HZ.out.grown hg (Nat.ne_of_gt hpr))
            have HC := Lib.hid hc
            have HG := Lib.hid (grown_trans HG.out hg)
            clear hc hg
            go_simp
            refine hK.out _ _ ⟨HT.out.cell 1 _ rfl, rw_of OW.out⟩ (fun hHeld => ?_)
            clear hK K
            try simp only [Act.put, List.getElem_toArray, List.getElem_cons_succ, List.getElem_cons_zero, List.setIfInBounds_toArray, List.set_cons_succ, List.set_cons_zero]
            refine wpAnyE_take (i := 7) (v := ?vt38_7) rfl (by decide +kernel) (fun _ _ _ h => h) (Or.inl ⟨by first | rfl | kernel_rfl, ?ht38_7⟩) (by assumption) ?rt38_7
            case ht38_7 =>
              intro wS hSw
              obtain ⟨h0, h1⟩ := hSw
              go_simp
              try with_reducible rfl
            try simp only [Act.put, List.getElem_toArray, List.getElem_cons_succ, List.getElem_cons_zero, List.setIfInBounds_toArray, List.set_cons_succ, List.set_cons_zero]
            refine wpAnyE_take (i := 8) (v := ?vt38_8) rfl (by decide +kernel) (fun _ _ _ h => h) (Or.inl ⟨by first | rfl | kernel_rfl, ?ht38_8⟩) (by assumption) ?rt38_8
            case ht38_8 =>
              intro wS hSw
              obtain ⟨h0, h1⟩ := hSw
              obtain ⟨q0, q1⟩ := h1 jn hjn
              clear h1
              go_simp
              try with_reducible rfl
            try simp only [Act.put, List.getElem_toArray, List.getElem_cons_succ, List.getElem_cons_zero, List.setIfInBounds_toArray, List.set_cons_succ, List.set_cons_zero]
            refine wpAnyE_ready (rs := [15]) (by kernel_rfl) (by simp) ?_
            refine AllReadyE.cons (i := 15) rfl (by decide) (fun K hK => ?_) AllReadyE.nil
            go_simp
            refine (pick p _ (n : Int) x44 HC.out (by omega) (by omega) (by omega)).mono ?_
            rintro e x45 ⟨q, rfl, q0, q1, hc, hg⟩
            obtain ⟨qn, rfl⟩ := Int.eq_ofNat_of_zero_le q0
            have hqn : qn < n := by omega
            have hqi : (qn : Int) < (n : Int) := by omega
            have hqz : (0 : Int) ≤ (qn : Int) := q0
            have HB := Lib.hid (HB.out.grown hg (show s6 ≠ p by omega))
            have HA := Lib.hid (HA.out.grown hg (show s5 ≠ p by omega))
            have OW := Lib.hid (own_kept OW.out hg (fun g e => by cases e; exact hpB))
            have HT := Lib.hid (HT.out.grown hg (Nat.ne_of_gt hpb))
            have HZ := Lib.hid (HZ.out.grown hg (Nat.ne_of_gt hpr))
            have HC := Lib.hid hc
            have HG := Lib.hid (grown_trans HG.out hg)
            clear hc hg
            go_simp
            refine hK.out _ _ ⟨HT.out.cell 1 _ rfl, rw_of OW.out⟩ (fun hHeld => ?_)
            clear hK K
            try simp only [Act.put, List.getElem_toArray, List.getElem_cons_succ, List.getElem_cons_zero, List.setIfInBounds_toArray, List.set_cons_succ, List.set_cons_zero]
            refine wpAnyE_take (i := 16) (v := ?vt39_16) rfl (by decide +kernel) (fun _ _ _ h => h) (Or.inl ⟨by first | rfl | kernel_rfl, ?ht39_16⟩) (by assumption) ?rt39_16
            case ht39_16 =>
              intro wS hSw
              obtain ⟨h0, h1⟩ := hSw
              go_simp
              try with_reducible rfl
            try simp only [Act.put, List.getElem_toArray, List.getElem_cons_succ, List.getElem_cons_zero, List.setIfInBounds_toArray, List.set_cons_succ, List.set_cons_zero]
            refine wpAnyE_take (i := 17) (v := ?vt39_17) rfl (by decide +kernel) (fun _ _ _ h => h) (Or.inl ⟨by first | rfl | kernel_rfl, ?ht39_17⟩) (by assumption) ?rt39_17
            case ht39_17 =>
              intro wS hSw
              obtain ⟨h0, h1⟩ := hSw
              obtain ⟨q0, q1⟩ := h1 qn hqn
              clear h1
              go_simp
              try with_reducible rfl
            try simp only [Act.put, List.getElem_toArray, List.getElem_cons_succ, List.getElem_cons_zero, List.setIfInBounds_toArray, List.set_cons_succ, List.set_cons_zero]
            generalize cX zs jn = a1 at *
            generalize cY zs jn = a2 at *
            generalize cX zs qn = b1 at *
            generalize cY zs qn = b2 at *
            have s0_ : x45.cell? ⟨s5, 0, none⟩ = some (.int .i64 0) := HA.out.cell 0 _ rfl
            have sf0_ := HA.out.frozen 0
            have s1_ : x45.cell? ⟨s5, 1, none⟩ = some (.int .i64 0) := HA.out.cell 1 _ rfl
            have sf1_ := HA.out.frozen 1
            refine wpAnyE_ready (rs := [20]) (by kernel_rfl) (by simp) ?_
            refine AllReadyE.cons (i := 20) rfl (by decide) (fun K hK => ?_) AllReadyE.nil
            go_simp
            have HA := Lib.hid (draws17.Blk.set (draws17.Blk.set HA.out 0 (.int .i64 a1)) 1 (.int .i64 a2))
            have HB := Lib.hid (draws17.Blk.other (draws17.Blk.other HB.out (show s6 ≠ s5 by omega) 0 (.int .i64 a1)) (show s6 ≠ s5 by omega) 1 (.int .i64 a2))
            have HT := Lib.hid (draws17.Blk.other (draws17.Blk.other HT.out (show w.heap.size ≠ s5 by omega) 0 (.int .i64 a1)) (show w.heap.size ≠ s5 by omega) 1 (.int .i64 a2))
            have HZ := Lib.hid (draws17.Blk.other (draws17.Blk.other HZ.out (show w.heap.size + 1 ≠ s5 by omega) 0 (.int .i64 a1)) (show w.heap.size + 1 ≠ s5 by omega) 1 (.int .i64 a2))
            have OW := Lib.hid (own_kept_at (own_kept_at OW.out (grown_set (grown_refl _ (some (s5))) 0 (.int .i64 a1)) (fun q e h => by injection h with h; have e2 : g = q := Option.some.inj e; omega)) (grown_set (grown_refl _ (some (s5))) 1 (.int .i64 a2)) (fun q e h => by injection h with h; have e2 : g = q := Option.some.inj e; omega))
            have HC := Lib.hid (Cur.set (Cur.set HC.out (show p < s5 by omega) (i := 0) (v := .int .i64 a1)) (show p < s5 by omega) (i := 1) (v := .int .i64 a2))
            have HG := Lib.hid (grown_put (grown_put HG.out (show w.heap.size ≤ s5 by omega) (i := 0) (v := .int .i64 a1)) (show w.heap.size ≤ s5 by omega) (i := 1) (v := .int .i64 a2))
            clear s0_ s1_ sf0_ sf1_
            generalize (x45.setCell ⟨s5, 0, none⟩ (.int .i64 a1)).setCell ⟨s5, 1, none⟩ (.int .i64 a2) = x46 at *
            refine hK.out _ _ ⟨HT.out.cell 1 _ rfl, rw_of OW.out⟩ (fun hHeld => ?_)
            clear hK K
            try simp only [Act.put, List.getElem_toArray, List.getElem_cons_succ, List.getElem_cons_zero, List.setIfInBounds_toArray, List.set_cons_succ, List.set_cons_zero]
            have s0_ : x46.cell? ⟨s6, 0, none⟩ = some (.int .i64 0) := HB.out.cell 0 _ rfl
            have sf0_ := HB.out.frozen 0
            have s1_ : x46.cell? ⟨s6, 1, none⟩ = some (.int .i64 0) := HB.out.cell 1 _ rfl
            have sf1_ := HB.out.frozen 1
            refine wpAnyE_ready (rs := [21]) (by kernel_rfl) (by simp) ?_
            refine AllReadyE.last (i := 21) rfl rfl (fun K hK => ?_)
            go_simp
            refine hK.out _ _ ?_
            clear hK K
            try simp only [Act.put, List.getElem_toArray, List.getElem_cons_succ, List.getElem_cons_zero, List.setIfInBounds_toArray, List.set_cons_succ, List.set_cons_zero]
            refine wpAnyE_done (by kernel_rfl) ?_ _
            try simp only [List.getElem_toArray, List.getElem_cons_succ, List.getElem_cons_zero, List.setIfInBounds_toArray, List.set_cons_succ, List.set_cons_zero]
            have HB := Lib.hid (draws17.Blk.set (draws17.Blk.set HB.out 0 (.int .i64 b1)) 1 (.int .i64 b2))
            have HA := Lib.hid (draws17.Blk.other (draws17.Blk.other HA.out (show s5 ≠ s6 by omega) 0 (.int .i64 b1)) (show s5 ≠ s6 by omega) 1 (.int .i64 b2))
            have HT := Lib.hid (draws17.Blk.other (draws17.Blk.other HT.out (show w.heap.size ≠ s6 by omega) 0 (.int .i64 b1)) (show w.heap.size ≠ s6 by omega) 1 (.int .i64 b2))
            have HZ := Lib.hid (draws17.Blk.other (draws17.Blk.other HZ.out (show w.heap.size + 1 ≠ s6 by omega) 0 (.int .i64 b1)) (show w.heap.size + 1 ≠ s6 by omega) 1 (.int .i64 b2))
            have OW := Lib.hid (own_kept_at (own_kept_at OW.out (grown_set (grown_refl _ (some (s6))) 0 (.int .i64 b1)) (fun q e h => by injection h with h; have e2 : g = q := Option.some.inj e; omega)) (grown_set (grown_refl _ (some (s6))) 1 (.int .i64 b2)) (fun q e h => by injection h with h; have e2 : g = q := Option.some.inj e; omega))
            have HC := Lib.hid (Cur.set (Cur.set HC.out (show p < s6 by omega) (i := 0) (v := .int .i64 b1)) (show p < s6 by omega) (i := 1) (v := .int .i64 b2))
            have HG := Lib.hid (grown_put (grown_put HG.out (show w.heap.size ≤ s6 by omega) (i := 0) (v := .int .i64 b1)) (show w.heap.size ≤ s6 by omega) (i := 1) (v := .int .i64 b2))
            clear s0_ s1_ sf0_ sf1_
            go_wp2_with fail
            go_meet
            exact ⟨_, _, _, _, _, _, rfl, rfl, HA.out, HB.out, HZ.out, HC.out.more (by omega), HG.out⟩
      case rest =>
        obtain ⟨pa, pb, x1, y1, x2, y2, rfl, rfl, ha, hb, hz, hc, hg⟩ := hcut
        generalize wc = w4 at *
        have HA := Lib.hid ha
        have HB := Lib.hid hb
        have HZ := Lib.hid hz
        have HC := Lib.hid hc
        have HG := Lib.hid hg
        clear ha hb hz hc hg HT OW
        obtain ⟨s0, e0_⟩ : ∃ s0, IntKind.i64.wrap (x1 + x2) = s0 := ⟨_, rfl⟩
        obtain ⟨s1, e1_⟩ : ∃ s1, IntKind.i64.wrap (y1 + y2) = s1 := ⟨_, rfl⟩
        obtain ⟨s2, e2_⟩ : ∃ s2, IntKind.i64.wrap (s0.tdiv 2) = s2 := ⟨_, rfl⟩
        obtain ⟨s3, e3_⟩ : ∃ s3, IntKind.i64.wrap (s1.tdiv 2) = s3 := ⟨_, rfl⟩
        have HA0_ : w4.cell? ⟨pa, 0, none⟩ = some (.int .i64 x1) := HA.out.cell 0 _ rfl
        have HA1_ : w4.cell? ⟨pa, 1, none⟩ = some (.int .i64 y1) := HA.out.cell 1 _ rfl
        have HB0_ : w4.cell? ⟨pb, 0, none⟩ = some (.int .i64 x2) := HB.out.cell 0 _ rfl
        have HB1_ : w4.cell? ⟨pb, 1, none⟩ = some (.int .i64 y2) := HB.out.cell 1 _ rfl
        have hb7r : w.heap.size + 1 < w4.heap.size := HZ.out.lt
        have HM := Lib.hid (Blk.new 31 #[.int .i64 s2, .int .i64 s3] w4)
        have HZ := Lib.hid (HZ.out.alloc (.cells #[.int .i64 s2, .int .i64 s3] 31))
        have HC := Lib.hid (Cur.alloc HC.out (.cells #[.int .i64 s2, .int .i64 s3] 31))
        have HG := Lib.hid (grown_trans HG.out (grown_alloc (.cells #[.int .i64 s2, .int .i64 s3] 31) (some p)))
        go_upto_region 5 with fail
        clear HA0_ HA1_ HB0_ HB1_ e0_ e1_ e2_ e3_ HA HB
        generalize w4.alloc (.cells #[.int .i64 s2, .int .i64 s3] 31) = w5 at *
        generalize w4.heap.size = b7 at *
        go_wp2_with fail
        refine (one p _ 2 w5 HC.out (by omega) (by omega) (by omega)).mono ?_
        rintro e w6 ⟨k, rfl, hc, hg⟩
        have HM := Lib.hid (HM.out.grown hg (show b7 ≠ p by omega))
        have HZ := Lib.hid (HZ.out.grown hg (Nat.ne_of_gt hpr))
        have HC := Lib.hid hc
        have HG := Lib.hid (grown_trans HG.out hg)
        clear hc hg
        cases k
        · go_upto_region 7 with fail
          have m0_ : w6.cell? ⟨b7, 0, none⟩ = some (.int .i64 s2) := HM.out.cell 0 _ rfl
          have m1_ : w6.cell? ⟨b7, 1, none⟩ = some (.int .i64 s3) := HM.out.cell 1 _ rfl
          have z0_ : w6.cell? ⟨w.heap.size + 1, 0, none⟩ = some (.int .i64 0) := HZ.out.cell 0 _ rfl
          have z1_ : w6.cell? ⟨w.heap.size + 1, 1, none⟩ = some (.int .i64 0) := HZ.out.cell 1 _ rfl
          have zf0_ := HZ.out.frozen 0
          have zf1_ := HZ.out.frozen 1
          have HZ := Lib.hid (draws17.Blk.set (draws17.Blk.set HZ.out 0 (.int .i64 s2)) 1 (.int .i64 s3))
          have HC := Lib.hid (Cur.set (Cur.set HC.out hpr (i := 0) (v := .int .i64 s2)) hpr (i := 1) (v := .int .i64 s3))
          have HG := Lib.hid (grown_put (grown_put HG.out (Nat.le_succ _) (i := 0) (v := .int .i64 s2)) (Nat.le_succ _) (i := 1) (v := .int .i64 s3))
          clear HM
          go_wp2_with fail
          have hl := HZ.out.load Try.underlying31 rfl (by kernel_rfl)
          refine bodyPost_ret (v := .agg #[.int .i64 s2, .int .i64 s3]) ?_ rfl ⟨_, _, rfl, HC.out.more (by omega), HG.out⟩
          rw [results_cell1 rfl]
          simp [asAddr, Result.andThen, hl]
        · go_upto_region 6 with fail
          have MST := Lib.hid (fun a b W => scts.most a b W)
          have HM := Lib.hid HM.out.drew
          have HZ := Lib.hid HZ.out.drew
          have HC := Lib.hid (HC.out.keep (Below.refl _ _).drew)
          have HG := Lib.hid (draws17.grown_drew HG.out)
          refine wp_region_tail (S := fun w' => World.cell? w' ⟨b7, 0, none⟩ = some (.int .i64 s2) ∧ World.cell? w' ⟨b7, 1, none⟩ = some (.int .i64 s3)) 15 (by kernel_rfl) ⟨HM.out.cell 0 _ rfl, HM.out.cell 1 _ rfl⟩ (fun hHeld => ?_)
          generalize w6.drew = w7 at *
          try simp only [Act.put, List.getElem_toArray, List.getElem_cons_succ, List.getElem_cons_zero, List.setIfInBounds_toArray, List.set_cons_succ, List.set_cons_zero]
          refine wpAnyE_take (i := 0) (v := ?vt42_0) rfl (by decide +kernel) (fun _ _ _ h => h) (Or.inl ⟨by first | rfl | kernel_rfl, ?ht42_0⟩) (by assumption) ?rt42_0
          case ht42_0 =>
            intro wS hSw
            obtain ⟨h0, h1⟩ := hSw
            go_simp
            try with_reducible rfl
          try simp only [Act.put, List.getElem_toArray, List.getElem_cons_succ, List.getElem_cons_zero, List.setIfInBounds_toArray, List.set_cons_succ, List.set_cons_zero]
          refine wpAnyE_take (i := 1) (v := ?vt42_1) rfl (by decide +kernel) (fun _ _ _ h => h) (Or.inl ⟨by first | rfl | kernel_rfl, ?ht42_1⟩) (by assumption) ?rt42_1
          case ht42_1 =>
            intro wS hSw
            obtain ⟨h0, h1⟩ := hSw
            go_simp
            try with_reducible rfl
          try simp only [Act.put, List.getElem_toArray, List.getElem_cons_succ, List.getElem_cons_zero, List.setIfInBounds_toArray, List.set_cons_succ, List.set_cons_zero]
          refine wpAnyE_take (i := 2) (v := ?vt42_2) rfl (by decide +kernel) (fun _ _ _ h => h) (Or.inl ⟨by first | rfl | kernel_rfl, ?ht42_2⟩) (by assumption) ?rt42_2
          case ht42_2 =>
            intro wS hSw
            obtain ⟨h0, h1⟩ := hSw
            go_simp
            try with_reducible rfl
          try simp only [Act.put, List.getElem_toArray, List.getElem_cons_succ, List.getElem_cons_zero, List.setIfInBounds_toArray, List.set_cons_succ, List.set_cons_zero]
          refine wpAnyE_take (i := 7) (v := ?vt42_7) rfl (by decide +kernel) (fun _ _ _ h => h) (Or.inl ⟨by first | rfl | kernel_rfl, ?ht42_7⟩) (by assumption) ?rt42_7
          case ht42_7 =>
            intro wS hSw
            obtain ⟨h0, h1⟩ := hSw
            go_simp
            try with_reducible rfl
          try simp only [Act.put, List.getElem_toArray, List.getElem_cons_succ, List.getElem_cons_zero, List.setIfInBounds_toArray, List.set_cons_succ, List.set_cons_zero]
          refine wpAnyE_take (i := 8) (v := ?vt42_8) rfl (by decide +kernel) (fun _ _ _ h => h) (Or.inl ⟨by first | rfl | kernel_rfl, ?ht42_8⟩) (by assumption) ?rt42_8
          case ht42_8 =>
            intro wS hSw
            obtain ⟨h0, h1⟩ := hSw
            go_simp
            try with_reducible rfl
          try simp only [Act.put, List.getElem_toArray, List.getElem_cons_succ, List.getElem_cons_zero, List.setIfInBounds_toArray, List.set_cons_succ, List.set_cons_zero]
          refine wpAnyE_take (i := 9) (v := ?vt42_9) rfl (by decide +kernel) (fun _ _ _ h => h) (Or.inl ⟨by first | rfl | kernel_rfl, ?ht42_9⟩) (by assumption) ?rt42_9
          case ht42_9 =>
            intro wS hSw
            obtain ⟨h0, h1⟩ := hSw
            go_simp
            try with_reducible rfl
          try simp only [Act.put, List.getElem_toArray, List.getElem_cons_succ, List.getElem_cons_zero, List.setIfInBounds_toArray, List.set_cons_succ, List.set_cons_zero]
          refine wpAnyE_ready (rs := [3]) (by kernel_rfl) (by simp) ?_
          refine AllReadyE.cons (i := 3) rfl (by decide) (fun K hK => ?_) AllReadyE.nil
          go_simp
          refine (pick p _ 20 w7 HC.out (by omega) (by omega) (by omega)).mono ?_
          rintro e w8 ⟨u, rfl, u0, u1, hc, hg⟩
          have HM := Lib.hid (HM.out.grown hg (show b7 ≠ p by omega))
          have HZ := Lib.hid (HZ.out.grown hg (Nat.ne_of_gt hpr))
          have HC := Lib.hid hc
          have HG := Lib.hid (grown_trans HG.out hg)
          clear hc hg
          obtain ⟨s4, e4_⟩ : ∃ s4, IntKind.i64.wrap (s2 + u) = s4 := ⟨_, rfl⟩
          obtain ⟨s5, e5_⟩ : ∃ s5, IntKind.i64.wrap (s4 - 10) = s5 := ⟨_, rfl⟩
          go_simp
          refine hK.out _ _ ⟨HM.out.cell 0 _ rfl, HM.out.cell 1 _ rfl⟩ (fun hHeld => ?_)
          clear hK K
          try simp only [Act.put, List.getElem_toArray, List.getElem_cons_succ, List.getElem_cons_zero, List.setIfInBounds_toArray, List.set_cons_succ, List.set_cons_zero]
          refine wpAnyE_take (i := 4) (v := ?vt42_4) rfl (by decide +kernel) (fun _ _ _ h => h) (Or.inl ⟨by first | rfl | kernel_rfl, ?ht42_4⟩) (by assumption) ?rt42_4
          case ht42_4 =>
            intro wS hSw
            obtain ⟨h0, h1⟩ := hSw
            go_simp
            try with_reducible rfl
          try simp only [Act.put, List.getElem_toArray, List.getElem_cons_succ, List.getElem_cons_zero, List.setIfInBounds_toArray, List.set_cons_succ, List.set_cons_zero]
          refine wpAnyE_take (i := 5) (v := ?vt42_5) rfl (by decide +kernel) (fun _ _ _ h => h) (Or.inl ⟨by first | rfl | kernel_rfl, ?ht42_5⟩) (by assumption) ?rt42_5
          case ht42_5 =>
            intro wS hSw
            obtain ⟨h0, h1⟩ := hSw
            go_simp
            try with_reducible rfl
          try simp only [Act.put, List.getElem_toArray, List.getElem_cons_succ, List.getElem_cons_zero, List.setIfInBounds_toArray, List.set_cons_succ, List.set_cons_zero]
          refine wpAnyE_ready (rs := [6]) (by kernel_rfl) (by simp) ?_
          refine AllReadyE.cons (i := 6) rfl (by decide) (fun K hK => ?_) AllReadyE.nil
          go_simp
          refine (MST.out _ _ _).mono ?_
          rintro e w' ⟨rfl, rfl⟩
          go_simp
          generalize max 0 s5 = r1 at *
          refine hK.out _ _ ⟨HM.out.cell 0 _ rfl, HM.out.cell 1 _ rfl⟩ (fun hHeld => ?_)
          clear hK K
          try simp only [Act.put, List.getElem_toArray, List.getElem_cons_succ, List.getElem_cons_zero, List.setIfInBounds_toArray, List.set_cons_succ, List.set_cons_zero]
          refine wpAnyE_ready (rs := [10]) (by kernel_rfl) (by simp) ?_
          refine AllReadyE.cons (i := 10) rfl (by decide) (fun K hK => ?_) AllReadyE.nil
          go_simp
          refine (pick p _ 20 w8 HC.out (by omega) (by omega) (by omega)).mono ?_
          rintro e w9 ⟨v, rfl, v0, v1, hc, hg⟩
          have HM := Lib.hid (HM.out.grown hg (show b7 ≠ p by omega))
          have HZ := Lib.hid (HZ.out.grown hg (Nat.ne_of_gt hpr))
          have HC := Lib.hid hc
          have HG := Lib.hid (grown_trans HG.out hg)
          clear hc hg
          obtain ⟨s6, e6_⟩ : ∃ s6, IntKind.i64.wrap (s3 + v) = s6 := ⟨_, rfl⟩
          obtain ⟨s7, e7_⟩ : ∃ s7, IntKind.i64.wrap (s6 - 10) = s7 := ⟨_, rfl⟩
          go_simp
          refine hK.out _ _ ⟨HM.out.cell 0 _ rfl, HM.out.cell 1 _ rfl⟩ (fun hHeld => ?_)
          clear hK K
          try simp only [Act.put, List.getElem_toArray, List.getElem_cons_succ, List.getElem_cons_zero, List.setIfInBounds_toArray, List.set_cons_succ, List.set_cons_zero]
          refine wpAnyE_take (i := 11) (v := ?vt42_11) rfl (by decide +kernel) (fun _ _ _ h => h) (Or.inl ⟨by first | rfl | kernel_rfl, ?ht42_11⟩) (by assumption) ?rt42_11
          case ht42_11 =>
            intro wS hSw
            obtain ⟨h0, h1⟩ := hSw
            go_simp
            try with_reducible rfl
          try simp only [Act.put, List.getElem_toArray, List.getElem_cons_succ, List.getElem_cons_zero, List.setIfInBounds_toArray, List.set_cons_succ, List.set_cons_zero]
          refine wpAnyE_take (i := 12) (v := ?vt42_12) rfl (by decide +kernel) (fun _ _ _ h => h) (Or.inl ⟨by first | rfl | kernel_rfl, ?ht42_12⟩) (by assumption) ?rt42_12
          case ht42_12 =>
            intro wS hSw
            obtain ⟨h0, h1⟩ := hSw
            go_simp
            try with_reducible rfl
          try simp only [Act.put, List.getElem_toArray, List.getElem_cons_succ, List.getElem_cons_zero, List.setIfInBounds_toArray, List.set_cons_succ, List.set_cons_zero]
          refine wpAnyE_ready (rs := [13]) (by kernel_rfl) (by simp) ?_
          refine AllReadyE.cons (i := 13) rfl (by decide) (fun K hK => ?_) AllReadyE.nil
          go_simp
          refine (MST.out _ _ _).mono ?_
          rintro e w' ⟨rfl, rfl⟩
          go_simp
          generalize max 0 s7 = r2 at *
          refine hK.out _ _ ⟨HM.out.cell 0 _ rfl, HM.out.cell 1 _ rfl⟩ (fun hHeld => ?_)
          clear hK K
          try simp only [Act.put, List.getElem_toArray, List.getElem_cons_succ, List.getElem_cons_zero, List.setIfInBounds_toArray, List.set_cons_succ, List.set_cons_zero]
          refine wpAnyE_take (i := 14) (v := ?vt42_14) rfl (by decide +kernel) (fun _ _ _ h => h) (Or.inl ⟨by first | rfl | kernel_rfl, ?ht42_14⟩) (by assumption) ?rt42_14
          case ht42_14 =>
            intro wS hSw
            obtain ⟨h0, h1⟩ := hSw
            go_simp
            try with_reducible rfl
          try simp only [Act.put, List.getElem_toArray, List.getElem_cons_succ, List.getElem_cons_zero, List.setIfInBounds_toArray, List.set_cons_succ, List.set_cons_zero]
          have m0_ : w9.cell? ⟨b7, 0, none⟩ = some (.int .i64 s2) := HM.out.cell 0 _ rfl
          have m1_ : w9.cell? ⟨b7, 1, none⟩ = some (.int .i64 s3) := HM.out.cell 1 _ rfl
          have mf0_ := HM.out.frozen 0
          have mf1_ := HM.out.frozen 1
          refine wpAnyE_ready (rs := [15]) (by kernel_rfl) (by simp) ?_
          refine AllReadyE.last (i := 15) rfl rfl (fun K hK => ?_)
          go_simp
          refine hK.out _ _ ?_
          clear hK K
          try simp only [Act.put, List.getElem_toArray, List.getElem_cons_succ, List.getElem_cons_zero, List.setIfInBounds_toArray, List.set_cons_succ, List.set_cons_zero]
          refine wpAnyE_done (by kernel_rfl) ?_ _
          try simp only [List.getElem_toArray, List.getElem_cons_succ, List.getElem_cons_zero, List.setIfInBounds_toArray, List.set_cons_succ, List.set_cons_zero]
          have HM := Lib.hid (draws17.Blk.set (draws17.Blk.set HM.out 0 (.int .i64 r1)) 1 (.int .i64 r2))
          have HZ := Lib.hid (draws17.Blk.other (draws17.Blk.other HZ.out (show w.heap.size + 1 ≠ b7 by omega) 0 (.int .i64 r1)) (show w.heap.size + 1 ≠ b7 by omega) 1 (.int .i64 r2))
          have HC := Lib.hid (Cur.set (Cur.set HC.out (show p < b7 by omega) (i := 0) (v := .int .i64 r1)) (show p < b7 by omega) (i := 1) (v := .int .i64 r2))
          have HG := Lib.hid (grown_put (grown_put HG.out (show w.heap.size ≤ b7 by omega) (i := 0) (v := .int .i64 r1)) (show w.heap.size ≤ b7 by omega) (i := 1) (v := .int .i64 r2))
          clear m0_ m1_ mf0_ mf1_
          go_upto_region 7 with fail
          generalize (w9.setCell ⟨b7, 0, none⟩ (.int .i64 r1)).setCell ⟨b7, 1, none⟩ (.int .i64 r2) = w10 at *
          have m0_ : w10.cell? ⟨b7, 0, none⟩ = some (.int .i64 r1) := HM.out.cell 0 _ rfl
          have m1_ : w10.cell? ⟨b7, 1, none⟩ = some (.int .i64 r2) := HM.out.cell 1 _ rfl
          have z0_ : w10.cell? ⟨w.heap.size + 1, 0, none⟩ = some (.int .i64 0) := HZ.out.cell 0 _ rfl
          have z1_ : w10.cell? ⟨w.heap.size + 1, 1, none⟩ = some (.int .i64 0) := HZ.out.cell 1 _ rfl
          have zf0_ := HZ.out.frozen 0
          have zf1_ := HZ.out.frozen 1
          have HZ := Lib.hid (draws17.Blk.set (draws17.Blk.set HZ.out 0 (.int .i64 r1)) 1 (.int .i64 r2))
          have HC := Lib.hid (Cur.set (Cur.set HC.out hpr (i := 0) (v := .int .i64 r1)) hpr (i := 1) (v := .int .i64 r2))
          have HG := Lib.hid (grown_put (grown_put HG.out (Nat.le_succ _) (i := 0) (v := .int .i64 r1)) (Nat.le_succ _) (i := 1) (v := .int .i64 r2))
          clear HM
          go_wp2_with fail
          have hl := HZ.out.load Try.underlying31 rfl (by kernel_rfl)
          refine bodyPost_ret (v := .agg #[.int .i64 r1, .int .i64 r2]) ?_ rfl ⟨_, _, rfl, HC.out.more (by omega), HG.out⟩
          rw [results_cell1 rfl]
          simp [asAddr, Result.andThen, hl]
    · go_wp2_with fail
      refine (drawp7.anyPlace p _ w1 HC.out (by omega)).mono ?_
      rintro e w2 ⟨x, y, rfl, -, hc, hg⟩
      have OW := Lib.hid (own_kept OW.out hg (fun g e => by cases e; exact hpB))
      have HT := Lib.hid (HT.out.grown hg (Nat.ne_of_gt hpb))
      have HZ := Lib.hid (HZ.out.grown hg (Nat.ne_of_gt hpr))
      have HC := Lib.hid hc
      have HG := Lib.hid (grown_trans HG.out hg)
      clear hc hg
      have z0_ : w2.cell? ⟨w.heap.size + 1, 0, none⟩ = some (.int .i64 0) := HZ.out.cell 0 _ rfl
      have z1_ : w2.cell? ⟨w.heap.size + 1, 1, none⟩ = some (.int .i64 0) := HZ.out.cell 1 _ rfl
      have zf0_ := HZ.out.frozen 0
      have zf1_ := HZ.out.frozen 1
      have HZ := Lib.hid (draws17.Blk.set (draws17.Blk.set HZ.out 0 (.int .i64 x)) 1 (.int .i64 y))
      have HC := Lib.hid (Cur.set (Cur.set HC.out hpr (i := 0) (v := .int .i64 x)) hpr (i := 1) (v := .int .i64 y))
      have HG := Lib.hid (grown_put (grown_put HG.out (Nat.le_succ _) (i := 0) (v := .int .i64 x)) (Nat.le_succ _) (i := 1) (v := .int .i64 y))
      clear HT OW
      go_wp2_with fail
      have hl := HZ.out.load Try.underlying31 rfl (by kernel_rfl)
      refine bodyPost_ret (v := .agg #[.int .i64 x, .int .i64 y]) ?_ rfl ⟨_, _, rfl, HC.out.more (by omega), HG.out⟩
      rw [results_cell1 rfl]
      simp [asAddr, Result.andThen, hl]
end Go.Proofs.Ytkndfklbonkbiaa.drawu17
