/- spec.DrawSendTime. -/
import Derived.Test.YtpbopiecfnedgabDrawS11
namespace Go.Proofs.Ytpbopiecfnedgab.drawv11
open Go.RowKit Go.Proofs.Ytpbopiecfnedgab.cur Go.Proofs.Ytpbopiecfnedgab.atc Go.Proofs.Ytpbopiecfnedgab.ats Go.Proofs.Ytpbopiecfnedgab.ints Go.Proofs.Ytpbopiecfnedgab.lst Go.Proofs.Ytpbopiecfnedgab.sit Go.Proofs.Ytpbopiecfnedgab.code_ Go.Proofs.Ytpbopiecfnedgab.draws10 Go.Proofs.Ytpbopiecfnedgab.drawt10 Go.Proofs.Ytpbopiecfnedgab.draws11 Go.Proofs.Ytpbopiecfnedgab.tailh

set_option maxRecDepth 100000 in
set_option maxHeartbeats 4000000 in
theorem sendTime (A : Option Addr) (n c : Nat) (w : World) (hn : n ≤ 65536) (h : Bytes w w.heap.size A n) :
    Calls Try.prog 60 #[.slice A n c] w (SpreadQ w) := by
  have B0 := Lib.hid ((newS 32 #[.int .i64 0, .int .i64 0] w).alloc (.cells #[.slice A n c, .int .i64 0, .int .u64 0] 96))
  have hc := new_cur c (by omega) (bytes_al (.cells #[.int .i64 0, .int .i64 0] 32) h)
  rw [World.size_alloc] at hc
  have HC0 := Lib.hid hc
  have HZ1 := Lib.hid (show w.heap.size + 1 < ((w.alloc (.cells #[.int .i64 0, .int .i64 0] 32)).alloc (.cells #[.slice A n c, .int .i64 0, .int .u64 0] 96)).heap.size by rw [World.size_alloc, World.size_alloc]; omega)
  clear h hc
  go_enter Try.func60, Try.ntmps60
  go_upto_region 2 with fail
  generalize (w.alloc (.cells #[.int .i64 0, .int .i64 0] 32)).alloc (.cells #[.slice A n c, .int .i64 0, .int .u64 0] 96) = W0 at *
  have ZS0 := Lib.hid (Nat.le_refl W0.heap.size)
  go_upto_region 3 with fail
  refine (sites _ 0 W0 HC0.out (by omega)).mono ?_
  rintro e w1 ⟨v, k, zs, rfl, ho, hk, hok, hc1, hg1⟩
  obtain ⟨A1, c1, rfl⟩ := own_sliceZ ho
  have B1 := Lib.hid (at_grown B0.out hg1 (by omega) (by omega))
  have HC1 := Lib.hid hc1
  have ZS1 := Lib.hid (Nat.le_trans ZS0.out hg1.size)
  have LO1 := Lib.hid ho
  have HOK := Lib.hid hok
  clear ho hc1 hg1 hok B0 HC0
  go_upto_region 4 with fail
  refine (point _ _ w1 HC1.out (by omega)).mono ?_
  rintro e w2 ⟨x, y, rfl, hv, hc, hg⟩
  have B2 := at_grown B1.out hg (by omega) (by omega)
  have LO2 := own_kept LO1.out hg (fun g e => by cases e; exact HZ1.out)
  have ZS := Lib.hid (show W0.heap.size ≤ (w2.alloc (.cells #[.int .i64 x, .int .i64 y] 32)).drew.heap.size from by
    have h1 := ZS1.out
    have h2 := hg.size
    show W0.heap.size ≤ (w2.alloc _).heap.size
    rw [World.size_alloc]; omega)
  have hbp : w.heap.size + 1 < w2.heap.size := by have h1 := ZS1.out; have h2 := hg.size; have h3 := HZ1.out; omega
  have HP := Lib.hid hv
  have BR := Lib.hid (B2.alloc (.cells #[.int .i64 x, .int .i64 y] 32))
  have BP := Lib.hid (B2.next 32 #[.int .i64 x, .int .i64 y])
  have HCd := Lib.hid (hc.keep (w' := (w2.alloc (.cells #[.int .i64 x, .int .i64 y] 32)).drew) (((Below.refl _ w2).alloc (by omega) (.cells #[.int .i64 x, .int .i64 y] 32)).drew))
  have LO := Lib.hid (LO2.alloc (.cells #[.int .i64 x, .int .i64 y] 32))
  clear hc hg hv B1 HC1 LO1 B2 LO2
  go_upto_region 4 with fail
  generalize w2.alloc (.cells #[.int .i64 x, .int .i64 y] 32) = V0 at *
  generalize w2.heap.size = bp at *
  generalize hp : w.heap.size + 1 = p at *
  generalize hR : w.heap.size = bR at *
  have HS := Lib.hid (show World.cell? V0.drew ⟨bp, 0, none⟩ = some (.int .i64 x) ∧ World.cell? V0.drew ⟨bp, 1, none⟩ = some (.int .i64 y) from ⟨BP.out.drew.cell 0, BP.out.drew.cell 1⟩)
  refine wp_region_tail (S := fun w' => World.cell? w' ⟨bp, 0, none⟩ = some (.int .i64 x) ∧ World.cell? w' ⟨bp, 1, none⟩ = some (.int .i64 y)) 6 (by kernel_rfl) HS.out (fun hHeld => ?_)
  try simp only [Act.put]
  refine wpAnyE_take (i := 0) (v := ?vq0) rfl (by decide +kernel) (fun _ _ _ h => h) (Or.inl ⟨by rfl, ?hq0⟩) (by assumption) ?rq0
  case hq0 =>
    intro wS hSw
    obtain ⟨h0, h1⟩ := hSw
    go_simp
    try with_reducible rfl
  try simp only [Act.put]
  refine wpAnyE_take (i := 1) (v := ?vq1) rfl (by decide +kernel) (fun _ _ _ h => h) (Or.inl ⟨by rfl, ?hq1⟩) (by assumption) ?rq1
  case hq1 =>
    intro wS hSw
    obtain ⟨h0, h1⟩ := hSw
    go_simp
    try with_reducible rfl
  try simp only [Act.put]
  refine wpAnyE_take (i := 2) (v := ?vq2) rfl (by decide +kernel) (fun _ _ _ h => h) (Or.inl ⟨by rfl, ?hq2⟩) (by assumption) ?rq2
  case hq2 =>
    intro wS hSw
    obtain ⟨h0, h1⟩ := hSw
    go_simp
    try with_reducible rfl
  try simp only [Act.put]
  refine wpAnyE_ready (rs := [3]) (by kernel_rfl) (by simp) ?_
  refine AllReadyE.cons (i := 3) rfl (by decide) (fun K hK => ?_) AllReadyE.nil
  go_simp
  have D1 := Lib.hid (BP.out.drew.alloc (.cells #[.int .i64 0, .int .i64 9, .int .i64 100000] 3))
  refine hK.out _ _ ⟨D1.out.cell 0, D1.out.cell 1⟩ (fun hHeld => ?_)
  clear hK K
  try simp only [Act.put]
  refine wpAnyE_ready (rs := [4]) (by kernel_rfl) (by simp) ?_
  refine AllReadyE.cons (i := 4) rfl (by decide) (fun K hK => ?_) AllReadyE.nil
  go_simp
  refine (among_new 0 100000 p _ 3 [0, 9, 100000] #[.int .i64 0, .int .i64 9, .int .i64 100000] V0.drew HCd.out (by omega) (by omega) (by omega) rfl rfl (by decide)).mono ?_
  rintro e V2 ⟨r, rfl, r0, r1, hc2, hg2⟩
  go_simp
  have BP2 := Lib.hid (at_grown BP.out.drew hg2 (by omega) (by omega))
  have BR2 := Lib.hid (at_grown BR.out.drew hg2 (by omega) (by omega))
  have LOV := Lib.hid (own_kept (show V0.drew.ownsRow _ _ _ _ _ _ from LO.out) hg2 (fun g e => by cases e; exact HZ1.out))
  have HCV := Lib.hid hc2
  have ZV := Lib.hid (Nat.le_trans ZS.out hg2.size)
  clear hc2 hg2
  refine hK.out _ _ ⟨BP2.out.cell 0, BP2.out.cell 1⟩ (fun hHeld => ?_)
  clear hK K
  try simp only [Act.put]
  refine wpAnyE_ready (rs := [5]) (by kernel_rfl) (by simp) ?_
  refine AllReadyE.cons (i := 5) rfl (by decide) (fun K hK => ?_) AllReadyE.nil
  go_simp
  refine (sitt.arrivals10 zs x y r A1 k c1 V2 (by omega) HOK.out HP.out.near.ok (by omega) (by omega) (RdZ.of_own LOV.out (own_len LOV.out))).mono ?_
  rintro e V3 ⟨v, rfl, ho, hb⟩
  obtain ⟨A2, c2, rfl⟩ := own_sliceZ ho
  go_simp
  have BP3 := Lib.hid (BP2.out.old hb)
  have BR3 := Lib.hid (BR2.out.old hb)
  have LO3 := Lib.hid (own_.own_below LOV.out (hb.mono (Nat.le_refl _)))
  have AR3 := Lib.hid (own_.own_base ho ZV.out)
  have HC3 := Lib.hid (HCV.out.keep (hb.mono (Nat.succ_le_of_lt HCV.out.lt)))
  have ZS3 := Lib.hid (Nat.le_trans ZV.out hb.size)
  clear ho hb
  refine hK.out _ _ ⟨BP3.out.cell 0, BP3.out.cell 1⟩ (fun hHeld => ?_)
  clear hK K
  try simp only [Act.put]
  refine wpAnyE_ready (rs := [6]) (by kernel_rfl) (by simp) ?_
  refine AllReadyE.last (i := 6) rfl rfl (fun K hK => ?_)
  go_simp
  refine hK.out _ _ ?_
  clear hK K
  try simp only [Act.put]
  refine wpAnyE_done (by kernel_rfl) ?_ _
  try simp only [List.getElem_toArray, List.getElem_cons_succ, List.getElem_cons_zero, List.setIfInBounds_toArray, List.set_cons_succ, List.set_cons_zero]
  go_wp2_with fail
  refine (one p _ 3 V3 HC3.out (by omega) (by omega) (by omega)).mono ?_
  rintro e V4 ⟨b4, rfl, hc4, hg4⟩
  have BP4 := Lib.hid (at_grown BP3.out hg4 (by omega) (by omega))
  have BR4 := Lib.hid (at_grown BR3.out hg4 (by omega) (by omega))
  have LO4 := Lib.hid (own_kept LO3.out hg4 (fun g e => by cases e; exact HZ1.out))
  have AR4 := Lib.hid (own_kept AR3.out hg4 (fun g e => by cases e; exact HZ1.out))
  have HC4 := Lib.hid hc4
  have ZS4 := Lib.hid (Nat.le_trans ZS3.out hg4.size)
  clear hc4 hg4 BP3 BR3 LO3 AR3 HC3 BP BR LO BP2 BR2 LOV HCV
  cases b4
  · go_upto_region 7 with fail
    have HSa := Lib.hid (show World.cell? V4.drew ⟨bp, 0, none⟩ = some (.int .i64 x) ∧ World.cell? V4.drew ⟨bp, 1, none⟩ = some (.int .i64 y) from ⟨BP4.out.drew.cell 0, BP4.out.drew.cell 1⟩)
    refine wp_region_tail (S := fun w' => World.cell? w' ⟨bp, 0, none⟩ = some (.int .i64 x) ∧ World.cell? w' ⟨bp, 1, none⟩ = some (.int .i64 y)) 5 (by kernel_rfl) HSa.out (fun hHeld => ?_)
    try simp only [Act.put]
    refine wpAnyE_take (i := 0) (v := ?vqa0) rfl (by decide +kernel) (fun _ _ _ h => h) (Or.inl ⟨by rfl, ?hqa0⟩) (by assumption) ?rqa0
    case hqa0 =>
      intro wS hSw
      obtain ⟨h0, h1⟩ := hSw
      go_simp
      try with_reducible rfl
    try simp only [Act.put]
    refine wpAnyE_take (i := 1) (v := ?vqa1) rfl (by decide +kernel) (fun _ _ _ h => h) (Or.inl ⟨by rfl, ?hqa1⟩) (by assumption) ?rqa1
    case hqa1 =>
      intro wS hSw
      obtain ⟨h0, h1⟩ := hSw
      go_simp
      try with_reducible rfl
    try simp only [Act.put]
    refine wpAnyE_take (i := 2) (v := ?vqa2) rfl (by decide +kernel) (fun _ _ _ h => h) (Or.inl ⟨by rfl, ?hqa2⟩) (by assumption) ?rqa2
    case hqa2 =>
      intro wS hSw
      obtain ⟨h0, h1⟩ := hSw
      go_simp
      try with_reducible rfl
    try simp only [Act.put]
    refine wpAnyE_take (i := 3) (v := ?vqa3) rfl (by decide +kernel) (fun _ _ _ h => h) (Or.inl ⟨by rfl, ?hqa3⟩) (by assumption) ?rqa3
    case hqa3 =>
      intro wS hSw
      obtain ⟨h0, h1⟩ := hSw
      go_simp
      try with_reducible rfl
    try simp only [Act.put]
    refine wpAnyE_take (i := 4) (v := ?vqa4) rfl (by decide +kernel) (fun _ _ _ h => h) (Or.inl ⟨by rfl, ?hqa4⟩) (by assumption) ?rqa4
    case hqa4 =>
      intro wS hSw
      obtain ⟨h0, h1⟩ := hSw
      go_simp
      try with_reducible rfl
    try simp only [Act.put]
    have c_0 : World.cell? V4 ⟨bR, 0, none⟩ = some (.int .i64 0) := BR4.out.cell 0
    have cf_0 : World.frozen? V4 ⟨bR, 0, none⟩ = false := BR4.out.frozen 0
    have c_1 : World.cell? V4 ⟨bR, 1, none⟩ = some (.int .i64 0) := BR4.out.cell 1
    have cf_1 : World.frozen? V4 ⟨bR, 1, none⟩ = false := BR4.out.frozen 1
    have HE := Lib.hid ((BR4.out.set 0 (.int .i64 x)).set 1 (.int .i64 y)).drew
    have FLO := Lib.hid (own_kept (own_kept LO4.out (grown_set (grown_refl V4 (some bR)) 0 (.int .i64 x)) (fun g e => by cases e; have := HZ1.out; omega)) (grown_set (grown_refl _ (some bR)) 1 (.int .i64 y)) (fun g e => by cases e; have := HZ1.out; omega))
    have FAR := Lib.hid (own_kept (own_kept AR4.out (grown_set (grown_refl V4 (some bR)) 0 (.int .i64 x)) (fun g e => by cases e; have := HZ1.out; omega)) (grown_set (grown_refl _ (some bR)) 1 (.int .i64 y)) (fun g e => by cases e; have := HZ1.out; omega))
    refine wpAnyE_ready (rs := [5]) (by kernel_rfl) (by simp) ?_
    refine AllReadyE.last (i := 5) rfl rfl (fun K hK => ?_)
    go_simp
    refine hK.out _ _ ?_
    clear hK K
    try simp only [Act.put]
    refine wpAnyE_done (by kernel_rfl) ?_ _
    try simp only [List.getElem_toArray, List.getElem_cons_succ, List.getElem_cons_zero, List.setIfInBounds_toArray, List.set_cons_succ, List.set_cons_zero]
    have ZW := HZ1.out
    go_wp2_with fail
    have hl := HE.out.load Try.underlying32 rfl (by kernel_rfl)
    refine bodyPost_ret (v := .tuple #[.slice A1 k c1, .slice A2 k c2, .agg #[.int .i64 x, .int .i64 y]]) ?_ rfl ⟨_, k, zs, _, k, _, x, y, rfl, (own_.own_base FLO.out (by omega)), hk, HOK.out, (own_.own_base FAR.out (by omega)), (by omega), HP.out.near, HE.out.1⟩
    rw [results_ttc rfl]
    simp [asAddr, Result.andThen, hl]
    
  · go_wp2_with fail
    refine (arr zs A1 k c1 _ _ _ V4 HC4.out (by omega) hk HOK.out HZ1.out LO4.out).mono ?_
    rintro e V5 ⟨av, ak, axs, rfl, hao, hak, hc5, hg5⟩
    obtain ⟨A5, c5, rfl⟩ := own_sliceZ hao
    have BP5 := Lib.hid (at_grown BP4.out hg5 (by omega) (by omega))
    have BR5 := Lib.hid (at_grown BR4.out hg5 (by omega) (by omega))
    have LO5 := Lib.hid (own_kept LO4.out hg5 (fun g e => by cases e; exact HZ1.out))
    have AR5 := Lib.hid (own_.own_base hao ZS4.out)
    clear hao hc5 hg5 BP4 BR4 LO4 AR4 HC4
    go_upto_region 7 with fail
    have HSb := Lib.hid (show World.cell? V5.drew ⟨bp, 0, none⟩ = some (.int .i64 x) ∧ World.cell? V5.drew ⟨bp, 1, none⟩ = some (.int .i64 y) from ⟨BP5.out.drew.cell 0, BP5.out.drew.cell 1⟩)
    refine wp_region_tail (S := fun w' => World.cell? w' ⟨bp, 0, none⟩ = some (.int .i64 x) ∧ World.cell? w' ⟨bp, 1, none⟩ = some (.int .i64 y)) 5 (by kernel_rfl) HSb.out (fun hHeld => ?_)
    try simp only [Act.put]
    refine wpAnyE_take (i := 0) (v := ?vqb0) rfl (by decide +kernel) (fun _ _ _ h => h) (Or.inl ⟨by rfl, ?hqb0⟩) (by assumption) ?rqb0
    case hqb0 =>
      intro wS hSw
      obtain ⟨h0, h1⟩ := hSw
      go_simp
      try with_reducible rfl
    try simp only [Act.put]
    refine wpAnyE_take (i := 1) (v := ?vqb1) rfl (by decide +kernel) (fun _ _ _ h => h) (Or.inl ⟨by rfl, ?hqb1⟩) (by assumption) ?rqb1
    case hqb1 =>
      intro wS hSw
      obtain ⟨h0, h1⟩ := hSw
      go_simp
      try with_reducible rfl
    try simp only [Act.put]
    refine wpAnyE_take (i := 2) (v := ?vqb2) rfl (by decide +kernel) (fun _ _ _ h => h) (Or.inl ⟨by rfl, ?hqb2⟩) (by assumption) ?rqb2
    case hqb2 =>
      intro wS hSw
      obtain ⟨h0, h1⟩ := hSw
      go_simp
      try with_reducible rfl
    try simp only [Act.put]
    refine wpAnyE_take (i := 3) (v := ?vqb3) rfl (by decide +kernel) (fun _ _ _ h => h) (Or.inl ⟨by rfl, ?hqb3⟩) (by assumption) ?rqb3
    case hqb3 =>
      intro wS hSw
      obtain ⟨h0, h1⟩ := hSw
      go_simp
      try with_reducible rfl
    try simp only [Act.put]
    refine wpAnyE_take (i := 4) (v := ?vqb4) rfl (by decide +kernel) (fun _ _ _ h => h) (Or.inl ⟨by rfl, ?hqb4⟩) (by assumption) ?rqb4
    case hqb4 =>
      intro wS hSw
      obtain ⟨h0, h1⟩ := hSw
      go_simp
      try with_reducible rfl
    try simp only [Act.put]
    have c_0 : World.cell? V5 ⟨bR, 0, none⟩ = some (.int .i64 0) := BR5.out.cell 0
    have cf_0 : World.frozen? V5 ⟨bR, 0, none⟩ = false := BR5.out.frozen 0
    have c_1 : World.cell? V5 ⟨bR, 1, none⟩ = some (.int .i64 0) := BR5.out.cell 1
    have cf_1 : World.frozen? V5 ⟨bR, 1, none⟩ = false := BR5.out.frozen 1
    have HE := Lib.hid ((BR5.out.set 0 (.int .i64 x)).set 1 (.int .i64 y)).drew
    have FLO := Lib.hid (own_kept (own_kept LO5.out (grown_set (grown_refl V5 (some bR)) 0 (.int .i64 x)) (fun g e => by cases e; have := HZ1.out; omega)) (grown_set (grown_refl _ (some bR)) 1 (.int .i64 y)) (fun g e => by cases e; have := HZ1.out; omega))
    have FAR := Lib.hid (own_kept (own_kept AR5.out (grown_set (grown_refl V5 (some bR)) 0 (.int .i64 x)) (fun g e => by cases e; have := HZ1.out; omega)) (grown_set (grown_refl _ (some bR)) 1 (.int .i64 y)) (fun g e => by cases e; have := HZ1.out; omega))
    refine wpAnyE_ready (rs := [5]) (by kernel_rfl) (by simp) ?_
    refine AllReadyE.last (i := 5) rfl rfl (fun K hK => ?_)
    go_simp
    refine hK.out _ _ ?_
    clear hK K
    try simp only [Act.put]
    refine wpAnyE_done (by kernel_rfl) ?_ _
    try simp only [List.getElem_toArray, List.getElem_cons_succ, List.getElem_cons_zero, List.setIfInBounds_toArray, List.set_cons_succ, List.set_cons_zero]
    have ZW := HZ1.out
    go_wp2_with fail
    have hl := HE.out.load Try.underlying32 rfl (by kernel_rfl)
    refine bodyPost_ret (v := .tuple #[.slice A1 k c1, .slice A5 ak c5, .agg #[.int .i64 x, .int .i64 y]]) ?_ rfl ⟨_, k, zs, _, ak, axs, x, y, rfl, (own_.own_base FLO.out (by omega)), hk, HOK.out, (own_.own_base FAR.out (by omega)), hak, HP.out.near, HE.out.1⟩
    rw [results_ttc rfl]
    simp [asAddr, Result.andThen, hl]
end Go.Proofs.Ytpbopiecfnedgab.drawv11
