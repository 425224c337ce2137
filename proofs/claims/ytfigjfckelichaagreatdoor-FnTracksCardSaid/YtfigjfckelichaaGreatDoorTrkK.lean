/- impl's IsValidTrack: where it fails at the test 4, 5, 6. -/
import Derived.Test.YtfigjfckelichaaGreatDoorTrkI
namespace Go.Proofs.YtfigjfckelichaaGreatDoor.trkk
open Go.RowKit Go.Proofs.YtfigjfckelichaaGreatDoor.ints Go.Proofs.YtfigjfckelichaaGreatDoor.lst Go.Proofs.YtfigjfckelichaaGreatDoor.in_ Go.Proofs.YtfigjfckelichaaGreatDoor.ats Go.Proofs.YtfigjfckelichaaGreatDoor.pos Go.Proofs.YtfigjfckelichaaGreatDoor.trk Go.Proofs.YtfigjfckelichaaGreatDoor.trki Go.Proofs.YtfigjfckelichaaGreatDoor.tailh
set_option linter.unusedSimpArgs false

set_option maxRecDepth 100000 in
set_option maxHeartbeats 8000000 in
theorem valid4 (i s x y h l : Int) (w : World) (g1 : decide (1 ≤ i) = true) (g2 : decide (i ≤ 999) = true) (g3 : pB x y = true) (g4 : decide (1 ≤ h) = true) (g5 : decide (h ≤ 9999) = false) :
    Calls Tryz.prog 10 #[.agg #[.int .i64 i, .int .i64 s, .int .i64 x, .int .i64 y, .int .i64 h, .int .i64 l]] w fun e w' => e = .returned (.bool false) ∧ Below w.heap.size w w' := by
  have E0 := Lib.hid (newS 25 #[.int .i64 i, .int .i64 s, .int .i64 x, .int .i64 y, .int .i64 h, .int .i64 l] w)
  have G3 := Lib.hid (show ∀ (W : World) (b : Nat) (hb : W.heap.size = b), Calls Tryz.prog 35 #[.func (.func 36) #[] #[], .slice (some ⟨b, 0, none⟩) 2 2] (W.alloc (.cells #[.int .i64 x, .int .i64 y] 3)).drew (fun e w' => e = .returned (.bool (pB x y)) ∧ (W.alloc (.cells #[.int .i64 x, .int .i64 y] 3)).drew = w') from fun W b hb => posj.areAll_new x y W.drew b hb)
  have G9 := Lib.hid (fun w => stateWith h l w)
  rw [g3] at G3
  clear g3
  go_enter Tryz.func10, Tryz.ntmps10
  go_upto_region 1 with fail
  generalize w.alloc (.cells #[.int .i64 i, .int .i64 s, .int .i64 x, .int .i64 y, .int .i64 h, .int .i64 l] 25) = W0 at *
  have HS := Lib.hid (show World.cell? W0.drew ⟨w.heap.size, 0, none⟩ = some (.int .i64 i) ∧ World.cell? W0.drew ⟨w.heap.size, 1, none⟩ = some (.int .i64 s) ∧ World.cell? W0.drew ⟨w.heap.size, 2, none⟩ = some (.int .i64 x) ∧ World.cell? W0.drew ⟨w.heap.size, 3, none⟩ = some (.int .i64 y) ∧ World.cell? W0.drew ⟨w.heap.size, 4, none⟩ = some (.int .i64 h) ∧ World.cell? W0.drew ⟨w.heap.size, 5, none⟩ = some (.int .i64 l) from ⟨E0.out.drew.cell 0, E0.out.drew.cell 1, E0.out.drew.cell 2, E0.out.drew.cell 3, E0.out.drew.cell 4, E0.out.drew.cell 5⟩)
  refine wp_region_tail (S := fun w' => World.cell? w' ⟨w.heap.size, 0, none⟩ = some (.int .i64 i) ∧ World.cell? w' ⟨w.heap.size, 1, none⟩ = some (.int .i64 s) ∧ World.cell? w' ⟨w.heap.size, 2, none⟩ = some (.int .i64 x) ∧ World.cell? w' ⟨w.heap.size, 3, none⟩ = some (.int .i64 y) ∧ World.cell? w' ⟨w.heap.size, 4, none⟩ = some (.int .i64 h) ∧ World.cell? w' ⟨w.heap.size, 5, none⟩ = some (.int .i64 l)) 51 (by kernel_rfl) HS.out (fun hHeld => ?_)
  try simp only [Act.put, List.getElem_toArray, List.getElem_cons_succ, List.getElem_cons_zero, List.setIfInBounds_toArray, List.set_cons_succ, List.set_cons_zero]
  refine wpAnyE_take (i := 0) (v := ?vqk40) rfl (by decide +kernel) (fun _ _ _ h => h) (Or.inl ⟨by kernel_rfl, ?hqk40⟩) (by assumption) ?rqk40
  case hqk40 =>
    intro wS hSw
    obtain ⟨h0, h1, h2, h3, h4, h5⟩ := hSw
    go_simp
    try with_reducible rfl
  try simp only [Act.put, List.getElem_toArray, List.getElem_cons_succ, List.getElem_cons_zero, List.setIfInBounds_toArray, List.set_cons_succ, List.set_cons_zero]
  refine wpAnyE_take (i := 1) (v := ?vqk41) rfl (by decide +kernel) (fun _ _ _ h => h) (Or.inl ⟨by kernel_rfl, ?hqk41⟩) (by assumption) ?rqk41
  case hqk41 =>
    intro wS hSw
    obtain ⟨h0, h1, h2, h3, h4, h5⟩ := hSw
    go_simp
    try with_reducible rfl
  try simp only [Act.put, List.getElem_toArray, List.getElem_cons_succ, List.getElem_cons_zero, List.setIfInBounds_toArray, List.set_cons_succ, List.set_cons_zero]
  refine wpAnyE_take (i := 2) (v := ?vqk42) rfl (by decide +kernel) (fun _ _ _ h => h) (Or.inl ⟨by kernel_rfl, ?hqk42⟩) (by assumption) ?rqk42
  case hqk42 =>
    intro wS hSw
    obtain ⟨h0, h1, h2, h3, h4, h5⟩ := hSw
    go_simp
    try with_reducible rfl
  try simp only [Act.put, List.getElem_toArray, List.getElem_cons_succ, List.getElem_cons_zero, List.setIfInBounds_toArray, List.set_cons_succ, List.set_cons_zero]
  refine wpAnyE_take (i := 3) (v := ?vqk43) rfl (by decide +kernel) (fun _ _ _ h => h) (Or.inl ⟨by kernel_rfl, ?hqk43⟩) (by assumption) ?rqk43
  case hqk43 =>
    intro wS hSw
    obtain ⟨h0, h1, h2, h3, h4, h5⟩ := hSw
    go_simp
    try with_reducible rfl
  try simp only [Act.put, List.getElem_toArray, List.getElem_cons_succ, List.getElem_cons_zero, List.setIfInBounds_toArray, List.set_cons_succ, List.set_cons_zero]
  refine wpAnyE_take (i := 4) (v := ?vqk44) rfl (by decide +kernel) (fun _ _ _ h => h) (Or.inl ⟨by kernel_rfl, ?hqk44⟩) (by assumption) ?rqk44
  case hqk44 =>
    intro wS hSw
    obtain ⟨h0, h1, h2, h3, h4, h5⟩ := hSw
    go_simp
    try with_reducible rfl
  try simp only [Act.put, List.getElem_toArray, List.getElem_cons_succ, List.getElem_cons_zero, List.setIfInBounds_toArray, List.set_cons_succ, List.set_cons_zero]
  refine wpAnyE_take (i := 5) (v := ?vqk45) rfl (by decide +kernel) (fun _ _ _ h => h) (Or.inl ⟨by kernel_rfl, ?hqk45⟩) (by assumption) ?rqk45
  case hqk45 =>
    intro wS hSw
    obtain ⟨h0, h1, h2, h3, h4, h5⟩ := hSw
    go_simp
    try with_reducible rfl
  try simp only [Act.put, List.getElem_toArray, List.getElem_cons_succ, List.getElem_cons_zero, List.setIfInBounds_toArray, List.set_cons_succ, List.set_cons_zero]
  refine wpAnyE_take (i := 6) (v := ?vqk46) rfl (by decide +kernel) (fun _ _ _ h => h) (Or.inl ⟨by kernel_rfl, ?hqk46⟩) (by assumption) ?rqk46
  case hqk46 =>
    intro wS hSw
    obtain ⟨h0, h1, h2, h3, h4, h5⟩ := hSw
    go_simp
    try with_reducible rfl
  try simp only [Act.put, List.getElem_toArray, List.getElem_cons_succ, List.getElem_cons_zero, List.setIfInBounds_toArray, List.set_cons_succ, List.set_cons_zero]
  refine wpAnyE_take (i := 7) (v := ?vqk47) rfl (by decide +kernel) (fun _ _ _ h => h) (Or.inl ⟨by kernel_rfl, ?hqk47⟩) (by assumption) ?rqk47
  case hqk47 =>
    intro wS hSw
    obtain ⟨h0, h1, h2, h3, h4, h5⟩ := hSw
    go_simp
    try with_reducible rfl
  try simp only [Act.put, List.getElem_toArray, List.getElem_cons_succ, List.getElem_cons_zero, List.setIfInBounds_toArray, List.set_cons_succ, List.set_cons_zero]
  refine wpAnyE_take (i := 8) (v := ?vqk48) rfl (by decide +kernel) (fun _ _ _ h => h) (Or.inl ⟨by kernel_rfl, ?hqk48⟩) (by assumption) ?rqk48
  case hqk48 =>
    intro wS hSw
    obtain ⟨h0, h1, h2, h3, h4, h5⟩ := hSw
    go_simp
    try with_reducible rfl
  try simp only [Act.put, List.getElem_toArray, List.getElem_cons_succ, List.getElem_cons_zero, List.setIfInBounds_toArray, List.set_cons_succ, List.set_cons_zero]
  refine wpAnyE_take (i := 9) (v := ?vqk49) rfl (by decide +kernel) (fun _ _ _ h => h) (Or.inl ⟨by kernel_rfl, ?hqk49⟩) (by assumption) ?rqk49
  case hqk49 =>
    intro wS hSw
    obtain ⟨h0, h1, h2, h3, h4, h5⟩ := hSw
    go_simp
    try with_reducible rfl
  try simp only [Act.put, List.getElem_toArray, List.getElem_cons_succ, List.getElem_cons_zero, List.setIfInBounds_toArray, List.set_cons_succ, List.set_cons_zero]
  refine wpAnyE_take (i := 10) (v := ?vqk410) rfl (by decide +kernel) (fun _ _ _ h => h) (Or.inl ⟨by kernel_rfl, ?hqk410⟩) (by assumption) ?rqk410
  case hqk410 =>
    intro wS hSw
    obtain ⟨h0, h1, h2, h3, h4, h5⟩ := hSw
    go_simp
    try with_reducible rfl
  try simp only [Act.put, List.getElem_toArray, List.getElem_cons_succ, List.getElem_cons_zero, List.setIfInBounds_toArray, List.set_cons_succ, List.set_cons_zero]
  refine wpAnyE_take (i := 11) (v := ?vqk411) rfl (by decide +kernel) (fun _ _ _ h => h) (Or.inl ⟨by kernel_rfl, ?hqk411⟩) (by assumption) ?rqk411
  case hqk411 =>
    intro wS hSw
    obtain ⟨h0, h1, h2, h3, h4, h5⟩ := hSw
    go_simp
    try with_reducible rfl
  try simp only [Act.put, List.getElem_toArray, List.getElem_cons_succ, List.getElem_cons_zero, List.setIfInBounds_toArray, List.set_cons_succ, List.set_cons_zero]
  refine wpAnyE_take (i := 12) (v := ?vqk412) rfl (by decide +kernel) (fun _ _ _ h => h) (Or.inl ⟨by kernel_rfl, ?hqk412⟩) (by assumption) ?rqk412
  case hqk412 =>
    intro wS hSw
    obtain ⟨h0, h1, h2, h3, h4, h5⟩ := hSw
    go_simp
    try with_reducible rfl
  try simp only [Act.put, List.getElem_toArray, List.getElem_cons_succ, List.getElem_cons_zero, List.setIfInBounds_toArray, List.set_cons_succ, List.set_cons_zero]
  refine wpAnyE_ready (rs := [13]) (by kernel_rfl) (by simp) ?_
  refine AllReadyE.cons (i := 13) rfl (by decide) (fun K hK => ?_) AllReadyE.nil
  go_simp
  have B1 := Lib.hid (E0.out.drew.alloc (.cells #[.int .i64 x, .int .i64 y] 3))
  refine hK.out _ _ ⟨B1.out.cell 0, B1.out.cell 1, B1.out.cell 2, B1.out.cell 3, B1.out.cell 4, B1.out.cell 5⟩ (fun hHeld => ?_)
  clear hK K
  try simp only [Act.put, List.getElem_toArray, List.getElem_cons_succ, List.getElem_cons_zero, List.setIfInBounds_toArray, List.set_cons_succ, List.set_cons_zero]
  refine wpAnyE_ready (rs := [14]) (by kernel_rfl) (by simp) ?_
  refine AllReadyE.cons (i := 14) rfl (by decide) (fun K hK => ?_) AllReadyE.nil
  go_simp
  refine (G3.out _ _ rfl).mono ?_
  rintro e w' ⟨rfl, rfl⟩
  go_simp
  refine hK.out _ _ ⟨B1.out.cell 0, B1.out.cell 1, B1.out.cell 2, B1.out.cell 3, B1.out.cell 4, B1.out.cell 5⟩ (fun hHeld => ?_)
  clear hK K
  try simp only [Act.put, List.getElem_toArray, List.getElem_cons_succ, List.getElem_cons_zero, List.setIfInBounds_toArray, List.set_cons_succ, List.set_cons_zero]
  refine wpAnyE_take (i := 15) (v := ?vqk415) rfl (by decide +kernel) (fun _ _ _ h => h) (Or.inl ⟨by kernel_rfl, ?hqk415⟩) (by assumption) ?rqk415
  case hqk415 =>
    intro wS hSw
    obtain ⟨h0, h1, h2, h3, h4, h5⟩ := hSw
    go_simp
    try with_reducible rfl
  try simp only [Act.put, List.getElem_toArray, List.getElem_cons_succ, List.getElem_cons_zero, List.setIfInBounds_toArray, List.set_cons_succ, List.set_cons_zero]
  refine wpAnyE_take (i := 16) (v := ?vqk416) rfl (by decide +kernel) (fun _ _ _ h => h) (Or.inl ⟨by kernel_rfl, ?hqk416⟩) (by assumption) ?rqk416
  case hqk416 =>
    intro wS hSw
    obtain ⟨h0, h1, h2, h3, h4, h5⟩ := hSw
    go_simp
    try with_reducible rfl
  try simp only [Act.put, List.getElem_toArray, List.getElem_cons_succ, List.getElem_cons_zero, List.setIfInBounds_toArray, List.set_cons_succ, List.set_cons_zero]
  refine wpAnyE_take (i := 17) (v := ?vqk417) rfl (by decide +kernel) (fun _ _ _ h => h) (Or.inl ⟨by kernel_rfl, ?hqk417⟩) (by assumption) ?rqk417
  case hqk417 =>
    intro wS hSw
    obtain ⟨h0, h1, h2, h3, h4, h5⟩ := hSw
    go_simp
    try with_reducible rfl
  try simp only [Act.put, List.getElem_toArray, List.getElem_cons_succ, List.getElem_cons_zero, List.setIfInBounds_toArray, List.set_cons_succ, List.set_cons_zero]
  refine wpAnyE_take (i := 18) (v := ?vqk418) rfl (by decide +kernel) (fun _ _ _ h => h) (Or.inl ⟨by kernel_rfl, ?hqk418⟩) (by assumption) ?rqk418
  case hqk418 =>
    intro wS hSw
    obtain ⟨h0, h1, h2, h3, h4, h5⟩ := hSw
    go_simp
    try with_reducible rfl
  try simp only [Act.put, List.getElem_toArray, List.getElem_cons_succ, List.getElem_cons_zero, List.setIfInBounds_toArray, List.set_cons_succ, List.set_cons_zero]
  refine wpAnyE_take (i := 19) (v := ?vqk419) rfl (by decide +kernel) (fun _ _ _ h => h) (Or.inl ⟨by kernel_rfl, ?hqk419⟩) (by assumption) ?rqk419
  case hqk419 =>
    intro wS hSw
    obtain ⟨h0, h1, h2, h3, h4, h5⟩ := hSw
    go_simp
    try with_reducible rfl
  try simp only [Act.put, List.getElem_toArray, List.getElem_cons_succ, List.getElem_cons_zero, List.setIfInBounds_toArray, List.set_cons_succ, List.set_cons_zero]
  refine wpAnyE_take (i := 20) (v := ?vqk420) rfl (by decide +kernel) (fun _ _ _ h => h) (Or.inl ⟨by kernel_rfl, ?hqk420⟩) (by assumption) ?rqk420
  case hqk420 =>
    intro wS hSw
    obtain ⟨h0, h1, h2, h3, h4, h5⟩ := hSw
    go_simp
    try with_reducible rfl
  try simp only [Act.put, List.getElem_toArray, List.getElem_cons_succ, List.getElem_cons_zero, List.setIfInBounds_toArray, List.set_cons_succ, List.set_cons_zero]
  refine wpAnyE_take (i := 21) (v := ?vqk421) rfl (by decide +kernel) (fun _ _ _ h => h) (Or.inl ⟨by kernel_rfl, ?hqk421⟩) (by assumption) ?rqk421
  case hqk421 =>
    intro wS hSw
    obtain ⟨h0, h1, h2, h3, h4, h5⟩ := hSw
    go_simp
    try with_reducible rfl
  try simp only [Act.put, List.getElem_toArray, List.getElem_cons_succ, List.getElem_cons_zero, List.setIfInBounds_toArray, List.set_cons_succ, List.set_cons_zero]
  refine wpAnyE_take (i := 22) (v := ?vqk422) rfl (by decide +kernel) (fun _ _ _ h => h) (Or.inl ⟨by kernel_rfl, ?hqk422⟩) (by assumption) ?rqk422
  case hqk422 =>
    intro wS hSw
    obtain ⟨h0, h1, h2, h3, h4, h5⟩ := hSw
    go_simp
    try with_reducible rfl
  try simp only [Act.put, List.getElem_toArray, List.getElem_cons_succ, List.getElem_cons_zero, List.setIfInBounds_toArray, List.set_cons_succ, List.set_cons_zero]
  refine wpAnyE_take (i := 23) (v := ?vqk423) rfl (by decide +kernel) (fun _ _ _ h => h) (Or.inl ⟨by kernel_rfl, ?hqk423⟩) (by assumption) ?rqk423
  case hqk423 =>
    intro wS hSw
    obtain ⟨h0, h1, h2, h3, h4, h5⟩ := hSw
    go_simp
    try with_reducible rfl
  try simp only [Act.put, List.getElem_toArray, List.getElem_cons_succ, List.getElem_cons_zero, List.setIfInBounds_toArray, List.set_cons_succ, List.set_cons_zero]
  refine wpAnyE_take (i := 24) (v := ?vqk424) rfl (by decide +kernel) (fun _ _ _ h => h) (Or.inl ⟨by kernel_rfl, ?hqk424⟩) (by assumption) ?rqk424
  case hqk424 =>
    intro wS hSw
    obtain ⟨h0, h1, h2, h3, h4, h5⟩ := hSw
    go_simp
    try with_reducible rfl
  try simp only [Act.put, List.getElem_toArray, List.getElem_cons_succ, List.getElem_cons_zero, List.setIfInBounds_toArray, List.set_cons_succ, List.set_cons_zero]
  refine wpAnyE_take (i := 25) (v := ?vqk425) rfl (by decide +kernel) (fun _ _ _ h => h) (Or.inl ⟨by kernel_rfl, ?hqk425⟩) (by assumption) ?rqk425
  case hqk425 =>
    intro wS hSw
    obtain ⟨h0, h1, h2, h3, h4, h5⟩ := hSw
    go_simp
    try with_reducible rfl
  try simp only [Act.put, List.getElem_toArray, List.getElem_cons_succ, List.getElem_cons_zero, List.setIfInBounds_toArray, List.set_cons_succ, List.set_cons_zero]
  refine wpAnyE_take (i := 26) (v := ?vqk426) rfl (by decide +kernel) (fun _ _ _ h => h) (Or.inl ⟨by kernel_rfl, ?hqk426⟩) (by assumption) ?rqk426
  case hqk426 =>
    intro wS hSw
    obtain ⟨h0, h1, h2, h3, h4, h5⟩ := hSw
    go_simp
    try with_reducible rfl
  try simp only [Act.put, List.getElem_toArray, List.getElem_cons_succ, List.getElem_cons_zero, List.setIfInBounds_toArray, List.set_cons_succ, List.set_cons_zero]
  refine wpAnyE_take (i := 27) (v := undef) rfl (by decide +kernel) (fun _ _ _ h => h) (Or.inr ⟨by kernel_rfl, rfl⟩) (by assumption) ?rqk427
  try simp only [Act.put, List.getElem_toArray, List.getElem_cons_succ, List.getElem_cons_zero, List.setIfInBounds_toArray, List.set_cons_succ, List.set_cons_zero]
  refine wpAnyE_take (i := 28) (v := undef) rfl (by decide +kernel) (fun _ _ _ h => h) (Or.inr ⟨by kernel_rfl, rfl⟩) (by assumption) ?rqk428
  try simp only [Act.put, List.getElem_toArray, List.getElem_cons_succ, List.getElem_cons_zero, List.setIfInBounds_toArray, List.set_cons_succ, List.set_cons_zero]
  refine wpAnyE_take (i := 29) (v := undef) rfl (by decide +kernel) (fun _ _ _ h => h) (Or.inr ⟨by kernel_rfl, rfl⟩) (by assumption) ?rqk429
  try simp only [Act.put, List.getElem_toArray, List.getElem_cons_succ, List.getElem_cons_zero, List.setIfInBounds_toArray, List.set_cons_succ, List.set_cons_zero]
  refine wpAnyE_take (i := 30) (v := ?vqk430) rfl (by decide +kernel) (fun _ _ _ h => h) (Or.inl ⟨by kernel_rfl, ?hqk430⟩) (by assumption) ?rqk430
  case hqk430 =>
    intro wS hSw
    obtain ⟨h0, h1, h2, h3, h4, h5⟩ := hSw
    go_simp
    try with_reducible rfl
  try simp only [Act.put, List.getElem_toArray, List.getElem_cons_succ, List.getElem_cons_zero, List.setIfInBounds_toArray, List.set_cons_succ, List.set_cons_zero]
  refine wpAnyE_take (i := 31) (v := ?vqk431) rfl (by decide +kernel) (fun _ _ _ h => h) (Or.inl ⟨by kernel_rfl, ?hqk431⟩) (by assumption) ?rqk431
  case hqk431 =>
    intro wS hSw
    obtain ⟨h0, h1, h2, h3, h4, h5⟩ := hSw
    go_simp
    try with_reducible rfl
  try simp only [Act.put, List.getElem_toArray, List.getElem_cons_succ, List.getElem_cons_zero, List.setIfInBounds_toArray, List.set_cons_succ, List.set_cons_zero]
  refine wpAnyE_take (i := 32) (v := undef) rfl (by decide +kernel) (fun _ _ _ h => h) (Or.inr ⟨by kernel_rfl, rfl⟩) (by assumption) ?rqk432
  try simp only [Act.put, List.getElem_toArray, List.getElem_cons_succ, List.getElem_cons_zero, List.setIfInBounds_toArray, List.set_cons_succ, List.set_cons_zero]
  refine wpAnyE_take (i := 33) (v := undef) rfl (by decide +kernel) (fun _ _ _ h => h) (Or.inr ⟨by kernel_rfl, rfl⟩) (by assumption) ?rqk433
  try simp only [Act.put, List.getElem_toArray, List.getElem_cons_succ, List.getElem_cons_zero, List.setIfInBounds_toArray, List.set_cons_succ, List.set_cons_zero]
  refine wpAnyE_take (i := 34) (v := undef) rfl (by decide +kernel) (fun _ _ _ h => h) (Or.inr ⟨by kernel_rfl, rfl⟩) (by assumption) ?rqk434
  try simp only [Act.put, List.getElem_toArray, List.getElem_cons_succ, List.getElem_cons_zero, List.setIfInBounds_toArray, List.set_cons_succ, List.set_cons_zero]
  refine wpAnyE_take (i := 35) (v := ?vqk435) rfl (by decide +kernel) (fun _ _ _ h => h) (Or.inl ⟨by kernel_rfl, ?hqk435⟩) (by assumption) ?rqk435
  case hqk435 =>
    intro wS hSw
    obtain ⟨h0, h1, h2, h3, h4, h5⟩ := hSw
    go_simp
    try with_reducible rfl
  try simp only [Act.put, List.getElem_toArray, List.getElem_cons_succ, List.getElem_cons_zero, List.setIfInBounds_toArray, List.set_cons_succ, List.set_cons_zero]
  refine wpAnyE_take (i := 36) (v := ?vqk436) rfl (by decide +kernel) (fun _ _ _ h => h) (Or.inl ⟨by kernel_rfl, ?hqk436⟩) (by assumption) ?rqk436
  case hqk436 =>
    intro wS hSw
    obtain ⟨h0, h1, h2, h3, h4, h5⟩ := hSw
    go_simp
    try with_reducible rfl
  try simp only [Act.put, List.getElem_toArray, List.getElem_cons_succ, List.getElem_cons_zero, List.setIfInBounds_toArray, List.set_cons_succ, List.set_cons_zero]
  refine wpAnyE_take (i := 37) (v := undef) rfl (by decide +kernel) (fun _ _ _ h => h) (Or.inr ⟨by kernel_rfl, rfl⟩) (by assumption) ?rqk437
  try simp only [Act.put, List.getElem_toArray, List.getElem_cons_succ, List.getElem_cons_zero, List.setIfInBounds_toArray, List.set_cons_succ, List.set_cons_zero]
  refine wpAnyE_take (i := 38) (v := undef) rfl (by decide +kernel) (fun _ _ _ h => h) (Or.inr ⟨by kernel_rfl, rfl⟩) (by assumption) ?rqk438
  try simp only [Act.put, List.getElem_toArray, List.getElem_cons_succ, List.getElem_cons_zero, List.setIfInBounds_toArray, List.set_cons_succ, List.set_cons_zero]
  refine wpAnyE_take (i := 39) (v := undef) rfl (by decide +kernel) (fun _ _ _ h => h) (Or.inr ⟨by kernel_rfl, rfl⟩) (by assumption) ?rqk439
  try simp only [Act.put, List.getElem_toArray, List.getElem_cons_succ, List.getElem_cons_zero, List.setIfInBounds_toArray, List.set_cons_succ, List.set_cons_zero]
  refine wpAnyE_take (i := 40) (v := ?vqk440) rfl (by decide +kernel) (fun _ _ _ h => h) (Or.inl ⟨by kernel_rfl, ?hqk440⟩) (by assumption) ?rqk440
  case hqk440 =>
    intro wS hSw
    obtain ⟨h0, h1, h2, h3, h4, h5⟩ := hSw
    go_simp
    try with_reducible rfl
  try simp only [Act.put, List.getElem_toArray, List.getElem_cons_succ, List.getElem_cons_zero, List.setIfInBounds_toArray, List.set_cons_succ, List.set_cons_zero]
  refine wpAnyE_take (i := 41) (v := ?vqk441) rfl (by decide +kernel) (fun _ _ _ h => h) (Or.inl ⟨by kernel_rfl, ?hqk441⟩) (by assumption) ?rqk441
  case hqk441 =>
    intro wS hSw
    obtain ⟨h0, h1, h2, h3, h4, h5⟩ := hSw
    go_simp
    try with_reducible rfl
  try simp only [Act.put, List.getElem_toArray, List.getElem_cons_succ, List.getElem_cons_zero, List.setIfInBounds_toArray, List.set_cons_succ, List.set_cons_zero]
  refine wpAnyE_take (i := 42) (v := undef) rfl (by decide +kernel) (fun _ _ _ h => h) (Or.inr ⟨by kernel_rfl, rfl⟩) (by assumption) ?rqk442
  try simp only [Act.put, List.getElem_toArray, List.getElem_cons_succ, List.getElem_cons_zero, List.setIfInBounds_toArray, List.set_cons_succ, List.set_cons_zero]
  refine wpAnyE_take (i := 43) (v := undef) rfl (by decide +kernel) (fun _ _ _ h => h) (Or.inr ⟨by kernel_rfl, rfl⟩) (by assumption) ?rqk443
  try simp only [Act.put, List.getElem_toArray, List.getElem_cons_succ, List.getElem_cons_zero, List.setIfInBounds_toArray, List.set_cons_succ, List.set_cons_zero]
  refine wpAnyE_take (i := 44) (v := undef) rfl (by decide +kernel) (fun _ _ _ h => h) (Or.inr ⟨by kernel_rfl, rfl⟩) (by assumption) ?rqk444
  try simp only [Act.put, List.getElem_toArray, List.getElem_cons_succ, List.getElem_cons_zero, List.setIfInBounds_toArray, List.set_cons_succ, List.set_cons_zero]
  refine wpAnyE_take (i := 45) (v := undef) rfl (by decide +kernel) (fun _ _ _ h => h) (Or.inr ⟨by kernel_rfl, rfl⟩) (by assumption) ?rqk445
  try simp only [Act.put, List.getElem_toArray, List.getElem_cons_succ, List.getElem_cons_zero, List.setIfInBounds_toArray, List.set_cons_succ, List.set_cons_zero]
  refine wpAnyE_take (i := 46) (v := undef) rfl (by decide +kernel) (fun _ _ _ h => h) (Or.inr ⟨by kernel_rfl, rfl⟩) (by assumption) ?rqk446
  try simp only [Act.put, List.getElem_toArray, List.getElem_cons_succ, List.getElem_cons_zero, List.setIfInBounds_toArray, List.set_cons_succ, List.set_cons_zero]
  refine wpAnyE_take (i := 47) (v := undef) rfl (by decide +kernel) (fun _ _ _ h => h) (Or.inr ⟨by kernel_rfl, rfl⟩) (by assumption) ?rqk447
  try simp only [Act.put, List.getElem_toArray, List.getElem_cons_succ, List.getElem_cons_zero, List.setIfInBounds_toArray, List.set_cons_succ, List.set_cons_zero]
  refine wpAnyE_ready (rs := [48]) (by kernel_rfl) (by simp) ?_
  refine AllReadyE.cons (i := 48) rfl (by decide) (fun K hK => ?_) AllReadyE.nil
  go_simp
  refine hK.out _ _ ⟨B1.out.cell 0, B1.out.cell 1, B1.out.cell 2, B1.out.cell 3, B1.out.cell 4, B1.out.cell 5⟩ (fun hHeld => ?_)
  clear hK K
  try simp only [Act.put, List.getElem_toArray, List.getElem_cons_succ, List.getElem_cons_zero, List.setIfInBounds_toArray, List.set_cons_succ, List.set_cons_zero]
  refine wpAnyE_take (i := 49) (v := undef) rfl (by decide +kernel) (fun _ _ _ h => h) (Or.inr ⟨by kernel_rfl, rfl⟩) (by assumption) ?rqk449
  try simp only [Act.put, List.getElem_toArray, List.getElem_cons_succ, List.getElem_cons_zero, List.setIfInBounds_toArray, List.set_cons_succ, List.set_cons_zero]
  refine wpAnyE_take (i := 50) (v := ?vqk450) rfl (by decide +kernel) (fun _ _ _ h => h) (Or.inl ⟨by kernel_rfl, ?hqk450⟩) (by assumption) ?rqk450
  case hqk450 =>
    intro wS hSw
    obtain ⟨h0, h1, h2, h3, h4, h5⟩ := hSw
    go_simp
    try with_reducible rfl
  try simp only [Act.put, List.getElem_toArray, List.getElem_cons_succ, List.getElem_cons_zero, List.setIfInBounds_toArray, List.set_cons_succ, List.set_cons_zero]
  refine wpAnyE_ready (rs := [51]) (by kernel_rfl) (by simp) ?_
  refine AllReadyE.last (i := 51) rfl rfl (fun K hK => ?_)
  go_simp
  refine hK.out _ _ ?_
  clear hK K
  try simp only [Act.put, List.getElem_toArray, List.getElem_cons_succ, List.getElem_cons_zero, List.setIfInBounds_toArray, List.set_cons_succ, List.set_cons_zero]
  refine wpAnyE_done (by kernel_rfl) ?_ _
  try simp only [List.getElem_toArray, List.getElem_cons_succ, List.getElem_cons_zero, List.setIfInBounds_toArray, List.set_cons_succ, List.set_cons_zero]
  go_wp2_with fail
  go_ret
  exact ⟨rfl, B1.out.1⟩

set_option maxRecDepth 100000 in
set_option maxHeartbeats 8000000 in
theorem valid5 (i s x y h l : Int) (w : World) (g1 : decide (1 ≤ i) = true) (g2 : decide (i ≤ 999) = true) (g3 : pB x y = true) (g4 : decide (1 ≤ h) = true) (g5 : decide (h ≤ 9999) = true) (g6 : decide (0 ≤ l) = false) :
    Calls Tryz.prog 10 #[.agg #[.int .i64 i, .int .i64 s, .int .i64 x, .int .i64 y, .int .i64 h, .int .i64 l]] w fun e w' => e = .returned (.bool false) ∧ Below w.heap.size w w' := by
  have E0 := Lib.hid (newS 25 #[.int .i64 i, .int .i64 s, .int .i64 x, .int .i64 y, .int .i64 h, .int .i64 l] w)
  have G3 := Lib.hid (show ∀ (W : World) (b : Nat) (hb : W.heap.size = b), Calls Tryz.prog 35 #[.func (.func 36) #[] #[], .slice (some ⟨b, 0, none⟩) 2 2] (W.alloc (.cells #[.int .i64 x, .int .i64 y] 3)).drew (fun e w' => e = .returned (.bool (pB x y)) ∧ (W.alloc (.cells #[.int .i64 x, .int .i64 y] 3)).drew = w') from fun W b hb => posj.areAll_new x y W.drew b hb)
  have G9 := Lib.hid (fun w => stateWith h l w)
  rw [g3] at G3
  clear g3
  go_enter Tryz.func10, Tryz.ntmps10
  go_upto_region 1 with fail
  generalize w.alloc (.cells #[.int .i64 i, .int .i64 s, .int .i64 x, .int .i64 y, .int .i64 h, .int .i64 l] 25) = W0 at *
  have HS := Lib.hid (show World.cell? W0.drew ⟨w.heap.size, 0, none⟩ = some (.int .i64 i) ∧ World.cell? W0.drew ⟨w.heap.size, 1, none⟩ = some (.int .i64 s) ∧ World.cell? W0.drew ⟨w.heap.size, 2, none⟩ = some (.int .i64 x) ∧ World.cell? W0.drew ⟨w.heap.size, 3, none⟩ = some (.int .i64 y) ∧ World.cell? W0.drew ⟨w.heap.size, 4, none⟩ = some (.int .i64 h) ∧ World.cell? W0.drew ⟨w.heap.size, 5, none⟩ = some (.int .i64 l) from ⟨E0.out.drew.cell 0, E0.out.drew.cell 1, E0.out.drew.cell 2, E0.out.drew.cell 3, E0.out.drew.cell 4, E0.out.drew.cell 5⟩)
  refine wp_region_tail (S := fun w' => World.cell? w' ⟨w.heap.size, 0, none⟩ = some (.int .i64 i) ∧ World.cell? w' ⟨w.heap.size, 1, none⟩ = some (.int .i64 s) ∧ World.cell? w' ⟨w.heap.size, 2, none⟩ = some (.int .i64 x) ∧ World.cell? w' ⟨w.heap.size, 3, none⟩ = some (.int .i64 y) ∧ World.cell? w' ⟨w.heap.size, 4, none⟩ = some (.int .i64 h) ∧ World.cell? w' ⟨w.heap.size, 5, none⟩ = some (.int .i64 l)) 51 (by kernel_rfl) HS.out (fun hHeld => ?_)
  try simp only [Act.put, List.getElem_toArray, List.getElem_cons_succ, List.getElem_cons_zero, List.setIfInBounds_toArray, List.set_cons_succ, List.set_cons_zero]
  refine wpAnyE_take (i := 0) (v := ?vqk50) rfl (by decide +kernel) (fun _ _ _ h => h) (Or.inl ⟨by kernel_rfl, ?hqk50⟩) (by assumption) ?rqk50
  case hqk50 =>
    intro wS hSw
    obtain ⟨h0, h1, h2, h3, h4, h5⟩ := hSw
    go_simp
    try with_reducible rfl
  try simp only [Act.put, List.getElem_toArray, List.getElem_cons_succ, List.getElem_cons_zero, List.setIfInBounds_toArray, List.set_cons_succ, List.set_cons_zero]
  refine wpAnyE_take (i := 1) (v := ?vqk51) rfl (by decide +kernel) (fun _ _ _ h => h) (Or.inl ⟨by kernel_rfl, ?hqk51⟩) (by assumption) ?rqk51
  case hqk51 =>
    intro wS hSw
    obtain ⟨h0, h1, h2, h3, h4, h5⟩ := hSw
    go_simp
    try with_reducible rfl
  try simp only [Act.put, List.getElem_toArray, List.getElem_cons_succ, List.getElem_cons_zero, List.setIfInBounds_toArray, List.set_cons_succ, List.set_cons_zero]
  refine wpAnyE_take (i := 2) (v := ?vqk52) rfl (by decide +kernel) (fun _ _ _ h => h) (Or.inl ⟨by kernel_rfl, ?hqk52⟩) (by assumption) ?rqk52
  case hqk52 =>
    intro wS hSw
    obtain ⟨h0, h1, h2, h3, h4, h5⟩ := hSw
    go_simp
    try with_reducible rfl
  try simp only [Act.put, List.getElem_toArray, List.getElem_cons_succ, List.getElem_cons_zero, List.setIfInBounds_toArray, List.set_cons_succ, List.set_cons_zero]
  refine wpAnyE_take (i := 3) (v := ?vqk53) rfl (by decide +kernel) (fun _ _ _ h => h) (Or.inl ⟨by kernel_rfl, ?hqk53⟩) (by assumption) ?rqk53
  case hqk53 =>
    intro wS hSw
    obtain ⟨h0, h1, h2, h3, h4, h5⟩ := hSw
    go_simp
    try with_reducible rfl
  try simp only [Act.put, List.getElem_toArray, List.getElem_cons_succ, List.getElem_cons_zero, List.setIfInBounds_toArray, List.set_cons_succ, List.set_cons_zero]
  refine wpAnyE_take (i := 4) (v := ?vqk54) rfl (by decide +kernel) (fun _ _ _ h => h) (Or.inl ⟨by kernel_rfl, ?hqk54⟩) (by assumption) ?rqk54
  case hqk54 =>
    intro wS hSw
    obtain ⟨h0, h1, h2, h3, h4, h5⟩ := hSw
    go_simp
    try with_reducible rfl
  try simp only [Act.put, List.getElem_toArray, List.getElem_cons_succ, List.getElem_cons_zero, List.setIfInBounds_toArray, List.set_cons_succ, List.set_cons_zero]
  refine wpAnyE_take (i := 5) (v := ?vqk55) rfl (by decide +kernel) (fun _ _ _ h => h) (Or.inl ⟨by kernel_rfl, ?hqk55⟩) (by assumption) ?rqk55
  case hqk55 =>
    intro wS hSw
    obtain ⟨h0, h1, h2, h3, h4, h5⟩ := hSw
    go_simp
    try with_reducible rfl
  try simp only [Act.put, List.getElem_toArray, List.getElem_cons_succ, List.getElem_cons_zero, List.setIfInBounds_toArray, List.set_cons_succ, List.set_cons_zero]
  refine wpAnyE_take (i := 6) (v := ?vqk56) rfl (by decide +kernel) (fun _ _ _ h => h) (Or.inl ⟨by kernel_rfl, ?hqk56⟩) (by assumption) ?rqk56
  case hqk56 =>
    intro wS hSw
    obtain ⟨h0, h1, h2, h3, h4, h5⟩ := hSw
    go_simp
    try with_reducible rfl
  try simp only [Act.put, List.getElem_toArray, List.getElem_cons_succ, List.getElem_cons_zero, List.setIfInBounds_toArray, List.set_cons_succ, List.set_cons_zero]
  refine wpAnyE_take (i := 7) (v := ?vqk57) rfl (by decide +kernel) (fun _ _ _ h => h) (Or.inl ⟨by kernel_rfl, ?hqk57⟩) (by assumption) ?rqk57
  case hqk57 =>
    intro wS hSw
    obtain ⟨h0, h1, h2, h3, h4, h5⟩ := hSw
    go_simp
    try with_reducible rfl
  try simp only [Act.put, List.getElem_toArray, List.getElem_cons_succ, List.getElem_cons_zero, List.setIfInBounds_toArray, List.set_cons_succ, List.set_cons_zero]
  refine wpAnyE_take (i := 8) (v := ?vqk58) rfl (by decide +kernel) (fun _ _ _ h => h) (Or.inl ⟨by kernel_rfl, ?hqk58⟩) (by assumption) ?rqk58
  case hqk58 =>
    intro wS hSw
    obtain ⟨h0, h1, h2, h3, h4, h5⟩ := hSw
    go_simp
    try with_reducible rfl
  try simp only [Act.put, List.getElem_toArray, List.getElem_cons_succ, List.getElem_cons_zero, List.setIfInBounds_toArray, List.set_cons_succ, List.set_cons_zero]
  refine wpAnyE_take (i := 9) (v := ?vqk59) rfl (by decide +kernel) (fun _ _ _ h => h) (Or.inl ⟨by kernel_rfl, ?hqk59⟩) (by assumption) ?rqk59
  case hqk59 =>
    intro wS hSw
    obtain ⟨h0, h1, h2, h3, h4, h5⟩ := hSw
    go_simp
    try with_reducible rfl
  try simp only [Act.put, List.getElem_toArray, List.getElem_cons_succ, List.getElem_cons_zero, List.setIfInBounds_toArray, List.set_cons_succ, List.set_cons_zero]
  refine wpAnyE_take (i := 10) (v := ?vqk510) rfl (by decide +kernel) (fun _ _ _ h => h) (Or.inl ⟨by kernel_rfl, ?hqk510⟩) (by assumption) ?rqk510
  case hqk510 =>
    intro wS hSw
    obtain ⟨h0, h1, h2, h3, h4, h5⟩ := hSw
    go_simp
    try with_reducible rfl
  try simp only [Act.put, List.getElem_toArray, List.getElem_cons_succ, List.getElem_cons_zero, List.setIfInBounds_toArray, List.set_cons_succ, List.set_cons_zero]
  refine wpAnyE_take (i := 11) (v := ?vqk511) rfl (by decide +kernel) (fun _ _ _ h => h) (Or.inl ⟨by kernel_rfl, ?hqk511⟩) (by assumption) ?rqk511
  case hqk511 =>
    intro wS hSw
    obtain ⟨h0, h1, h2, h3, h4, h5⟩ := hSw
    go_simp
    try with_reducible rfl
  try simp only [Act.put, List.getElem_toArray, List.getElem_cons_succ, List.getElem_cons_zero, List.setIfInBounds_toArray, List.set_cons_succ, List.set_cons_zero]
  refine wpAnyE_take (i := 12) (v := ?vqk512) rfl (by decide +kernel) (fun _ _ _ h => h) (Or.inl ⟨by kernel_rfl, ?hqk512⟩) (by assumption) ?rqk512
  case hqk512 =>
    intro wS hSw
    obtain ⟨h0, h1, h2, h3, h4, h5⟩ := hSw
    go_simp
    try with_reducible rfl
  try simp only [Act.put, List.getElem_toArray, List.getElem_cons_succ, List.getElem_cons_zero, List.setIfInBounds_toArray, List.set_cons_succ, List.set_cons_zero]
  refine wpAnyE_ready (rs := [13]) (by kernel_rfl) (by simp) ?_
  refine AllReadyE.cons (i := 13) rfl (by decide) (fun K hK => ?_) AllReadyE.nil
  go_simp
  have B1 := Lib.hid (E0.out.drew.alloc (.cells #[.int .i64 x, .int .i64 y] 3))
  refine hK.out _ _ ⟨B1.out.cell 0, B1.out.cell 1, B1.out.cell 2, B1.out.cell 3, B1.out.cell 4, B1.out.cell 5⟩ (fun hHeld => ?_)
  clear hK K
  try simp only [Act.put, List.getElem_toArray, List.getElem_cons_succ, List.getElem_cons_zero, List.setIfInBounds_toArray, List.set_cons_succ, List.set_cons_zero]
  refine wpAnyE_ready (rs := [14]) (by kernel_rfl) (by simp) ?_
  refine AllReadyE.cons (i := 14) rfl (by decide) (fun K hK => ?_) AllReadyE.nil
  go_simp
  refine (G3.out _ _ rfl).mono ?_
  rintro e w' ⟨rfl, rfl⟩
  go_simp
  refine hK.out _ _ ⟨B1.out.cell 0, B1.out.cell 1, B1.out.cell 2, B1.out.cell 3, B1.out.cell 4, B1.out.cell 5⟩ (fun hHeld => ?_)
  clear hK K
  try simp only [Act.put, List.getElem_toArray, List.getElem_cons_succ, List.getElem_cons_zero, List.setIfInBounds_toArray, List.set_cons_succ, List.set_cons_zero]
  refine wpAnyE_take (i := 15) (v := ?vqk515) rfl (by decide +kernel) (fun _ _ _ h => h) (Or.inl ⟨by kernel_rfl, ?hqk515⟩) (by assumption) ?rqk515
  case hqk515 =>
    intro wS hSw
    obtain ⟨h0, h1, h2, h3, h4, h5⟩ := hSw
    go_simp
    try with_reducible rfl
  try simp only [Act.put, List.getElem_toArray, List.getElem_cons_succ, List.getElem_cons_zero, List.setIfInBounds_toArray, List.set_cons_succ, List.set_cons_zero]
  refine wpAnyE_take (i := 16) (v := ?vqk516) rfl (by decide +kernel) (fun _ _ _ h => h) (Or.inl ⟨by kernel_rfl, ?hqk516⟩) (by assumption) ?rqk516
  case hqk516 =>
    intro wS hSw
    obtain ⟨h0, h1, h2, h3, h4, h5⟩ := hSw
    go_simp
    try with_reducible rfl
  try simp only [Act.put, List.getElem_toArray, List.getElem_cons_succ, List.getElem_cons_zero, List.setIfInBounds_toArray, List.set_cons_succ, List.set_cons_zero]
  refine wpAnyE_take (i := 17) (v := ?vqk517) rfl (by decide +kernel) (fun _ _ _ h => h) (Or.inl ⟨by kernel_rfl, ?hqk517⟩) (by assumption) ?rqk517
  case hqk517 =>
    intro wS hSw
    obtain ⟨h0, h1, h2, h3, h4, h5⟩ := hSw
    go_simp
    try with_reducible rfl
  try simp only [Act.put, List.getElem_toArray, List.getElem_cons_succ, List.getElem_cons_zero, List.setIfInBounds_toArray, List.set_cons_succ, List.set_cons_zero]
  refine wpAnyE_take (i := 18) (v := ?vqk518) rfl (by decide +kernel) (fun _ _ _ h => h) (Or.inl ⟨by kernel_rfl, ?hqk518⟩) (by assumption) ?rqk518
  case hqk518 =>
    intro wS hSw
    obtain ⟨h0, h1, h2, h3, h4, h5⟩ := hSw
    go_simp
    try with_reducible rfl
  try simp only [Act.put, List.getElem_toArray, List.getElem_cons_succ, List.getElem_cons_zero, List.setIfInBounds_toArray, List.set_cons_succ, List.set_cons_zero]
  refine wpAnyE_take (i := 19) (v := ?vqk519) rfl (by decide +kernel) (fun _ _ _ h => h) (Or.inl ⟨by kernel_rfl, ?hqk519⟩) (by assumption) ?rqk519
  case hqk519 =>
    intro wS hSw
    obtain ⟨h0, h1, h2, h3, h4, h5⟩ := hSw
    go_simp
    try with_reducible rfl
  try simp only [Act.put, List.getElem_toArray, List.getElem_cons_succ, List.getElem_cons_zero, List.setIfInBounds_toArray, List.set_cons_succ, List.set_cons_zero]
  refine wpAnyE_take (i := 20) (v := ?vqk520) rfl (by decide +kernel) (fun _ _ _ h => h) (Or.inl ⟨by kernel_rfl, ?hqk520⟩) (by assumption) ?rqk520
  case hqk520 =>
    intro wS hSw
    obtain ⟨h0, h1, h2, h3, h4, h5⟩ := hSw
    go_simp
    try with_reducible rfl
  try simp only [Act.put, List.getElem_toArray, List.getElem_cons_succ, List.getElem_cons_zero, List.setIfInBounds_toArray, List.set_cons_succ, List.set_cons_zero]
  refine wpAnyE_take (i := 21) (v := ?vqk521) rfl (by decide +kernel) (fun _ _ _ h => h) (Or.inl ⟨by kernel_rfl, ?hqk521⟩) (by assumption) ?rqk521
  case hqk521 =>
    intro wS hSw
    obtain ⟨h0, h1, h2, h3, h4, h5⟩ := hSw
    go_simp
    try with_reducible rfl
  try simp only [Act.put, List.getElem_toArray, List.getElem_cons_succ, List.getElem_cons_zero, List.setIfInBounds_toArray, List.set_cons_succ, List.set_cons_zero]
  refine wpAnyE_take (i := 22) (v := ?vqk522) rfl (by decide +kernel) (fun _ _ _ h => h) (Or.inl ⟨by kernel_rfl, ?hqk522⟩) (by assumption) ?rqk522
  case hqk522 =>
    intro wS hSw
    obtain ⟨h0, h1, h2, h3, h4, h5⟩ := hSw
    go_simp
    try with_reducible rfl
  try simp only [Act.put, List.getElem_toArray, List.getElem_cons_succ, List.getElem_cons_zero, List.setIfInBounds_toArray, List.set_cons_succ, List.set_cons_zero]
  refine wpAnyE_take (i := 23) (v := ?vqk523) rfl (by decide +kernel) (fun _ _ _ h => h) (Or.inl ⟨by kernel_rfl, ?hqk523⟩) (by assumption) ?rqk523
  case hqk523 =>
    intro wS hSw
    obtain ⟨h0, h1, h2, h3, h4, h5⟩ := hSw
    go_simp
    try with_reducible rfl
  try simp only [Act.put, List.getElem_toArray, List.getElem_cons_succ, List.getElem_cons_zero, List.setIfInBounds_toArray, List.set_cons_succ, List.set_cons_zero]
  refine wpAnyE_take (i := 24) (v := ?vqk524) rfl (by decide +kernel) (fun _ _ _ h => h) (Or.inl ⟨by kernel_rfl, ?hqk524⟩) (by assumption) ?rqk524
  case hqk524 =>
    intro wS hSw
    obtain ⟨h0, h1, h2, h3, h4, h5⟩ := hSw
    go_simp
    try with_reducible rfl
  try simp only [Act.put, List.getElem_toArray, List.getElem_cons_succ, List.getElem_cons_zero, List.setIfInBounds_toArray, List.set_cons_succ, List.set_cons_zero]
  refine wpAnyE_take (i := 25) (v := ?vqk525) rfl (by decide +kernel) (fun _ _ _ h => h) (Or.inl ⟨by kernel_rfl, ?hqk525⟩) (by assumption) ?rqk525
  case hqk525 =>
    intro wS hSw
    obtain ⟨h0, h1, h2, h3, h4, h5⟩ := hSw
    go_simp
    try with_reducible rfl
  try simp only [Act.put, List.getElem_toArray, List.getElem_cons_succ, List.getElem_cons_zero, List.setIfInBounds_toArray, List.set_cons_succ, List.set_cons_zero]
  refine wpAnyE_take (i := 26) (v := ?vqk526) rfl (by decide +kernel) (fun _ _ _ h => h) (Or.inl ⟨by kernel_rfl, ?hqk526⟩) (by assumption) ?rqk526
  case hqk526 =>
    intro wS hSw
    obtain ⟨h0, h1, h2, h3, h4, h5⟩ := hSw
    go_simp
    try with_reducible rfl
  try simp only [Act.put, List.getElem_toArray, List.getElem_cons_succ, List.getElem_cons_zero, List.setIfInBounds_toArray, List.set_cons_succ, List.set_cons_zero]
  refine wpAnyE_take (i := 27) (v := ?vqk527) rfl (by decide +kernel) (fun _ _ _ h => h) (Or.inl ⟨by kernel_rfl, ?hqk527⟩) (by assumption) ?rqk527
  case hqk527 =>
    intro wS hSw
    obtain ⟨h0, h1, h2, h3, h4, h5⟩ := hSw
    go_simp
    try with_reducible rfl
  try simp only [Act.put, List.getElem_toArray, List.getElem_cons_succ, List.getElem_cons_zero, List.setIfInBounds_toArray, List.set_cons_succ, List.set_cons_zero]
  refine wpAnyE_take (i := 28) (v := ?vqk528) rfl (by decide +kernel) (fun _ _ _ h => h) (Or.inl ⟨by kernel_rfl, ?hqk528⟩) (by assumption) ?rqk528
  case hqk528 =>
    intro wS hSw
    obtain ⟨h0, h1, h2, h3, h4, h5⟩ := hSw
    go_simp
    try with_reducible rfl
  try simp only [Act.put, List.getElem_toArray, List.getElem_cons_succ, List.getElem_cons_zero, List.setIfInBounds_toArray, List.set_cons_succ, List.set_cons_zero]
  refine wpAnyE_take (i := 29) (v := ?vqk529) rfl (by decide +kernel) (fun _ _ _ h => h) (Or.inl ⟨by kernel_rfl, ?hqk529⟩) (by assumption) ?rqk529
  case hqk529 =>
    intro wS hSw
    obtain ⟨h0, h1, h2, h3, h4, h5⟩ := hSw
    go_simp
    try with_reducible rfl
  try simp only [Act.put, List.getElem_toArray, List.getElem_cons_succ, List.getElem_cons_zero, List.setIfInBounds_toArray, List.set_cons_succ, List.set_cons_zero]
  refine wpAnyE_take (i := 30) (v := ?vqk530) rfl (by decide +kernel) (fun _ _ _ h => h) (Or.inl ⟨by kernel_rfl, ?hqk530⟩) (by assumption) ?rqk530
  case hqk530 =>
    intro wS hSw
    obtain ⟨h0, h1, h2, h3, h4, h5⟩ := hSw
    go_simp
    try with_reducible rfl
  try simp only [Act.put, List.getElem_toArray, List.getElem_cons_succ, List.getElem_cons_zero, List.setIfInBounds_toArray, List.set_cons_succ, List.set_cons_zero]
  refine wpAnyE_take (i := 31) (v := ?vqk531) rfl (by decide +kernel) (fun _ _ _ h => h) (Or.inl ⟨by kernel_rfl, ?hqk531⟩) (by assumption) ?rqk531
  case hqk531 =>
    intro wS hSw
    obtain ⟨h0, h1, h2, h3, h4, h5⟩ := hSw
    go_simp
    try with_reducible rfl
  try simp only [Act.put, List.getElem_toArray, List.getElem_cons_succ, List.getElem_cons_zero, List.setIfInBounds_toArray, List.set_cons_succ, List.set_cons_zero]
  refine wpAnyE_take (i := 32) (v := undef) rfl (by decide +kernel) (fun _ _ _ h => h) (Or.inr ⟨by kernel_rfl, rfl⟩) (by assumption) ?rqk532
  try simp only [Act.put, List.getElem_toArray, List.getElem_cons_succ, List.getElem_cons_zero, List.setIfInBounds_toArray, List.set_cons_succ, List.set_cons_zero]
  refine wpAnyE_take (i := 33) (v := undef) rfl (by decide +kernel) (fun _ _ _ h => h) (Or.inr ⟨by kernel_rfl, rfl⟩) (by assumption) ?rqk533
  try simp only [Act.put, List.getElem_toArray, List.getElem_cons_succ, List.getElem_cons_zero, List.setIfInBounds_toArray, List.set_cons_succ, List.set_cons_zero]
  refine wpAnyE_take (i := 34) (v := undef) rfl (by decide +kernel) (fun _ _ _ h => h) (Or.inr ⟨by kernel_rfl, rfl⟩) (by assumption) ?rqk534
  try simp only [Act.put, List.getElem_toArray, List.getElem_cons_succ, List.getElem_cons_zero, List.setIfInBounds_toArray, List.set_cons_succ, List.set_cons_zero]
  refine wpAnyE_take (i := 35) (v := ?vqk535) rfl (by decide +kernel) (fun _ _ _ h => h) (Or.inl ⟨by kernel_rfl, ?hqk535⟩) (by assumption) ?rqk535
  case hqk535 =>
    intro wS hSw
    obtain ⟨h0, h1, h2, h3, h4, h5⟩ := hSw
    go_simp
    try with_reducible rfl
  try simp only [Act.put, List.getElem_toArray, List.getElem_cons_succ, List.getElem_cons_zero, List.setIfInBounds_toArray, List.set_cons_succ, List.set_cons_zero]
  refine wpAnyE_take (i := 36) (v := ?vqk536) rfl (by decide +kernel) (fun _ _ _ h => h) (Or.inl ⟨by kernel_rfl, ?hqk536⟩) (by assumption) ?rqk536
  case hqk536 =>
    intro wS hSw
    obtain ⟨h0, h1, h2, h3, h4, h5⟩ := hSw
    go_simp
    try with_reducible rfl
  try simp only [Act.put, List.getElem_toArray, List.getElem_cons_succ, List.getElem_cons_zero, List.setIfInBounds_toArray, List.set_cons_succ, List.set_cons_zero]
  refine wpAnyE_take (i := 37) (v := undef) rfl (by decide +kernel) (fun _ _ _ h => h) (Or.inr ⟨by kernel_rfl, rfl⟩) (by assumption) ?rqk537
  try simp only [Act.put, List.getElem_toArray, List.getElem_cons_succ, List.getElem_cons_zero, List.setIfInBounds_toArray, List.set_cons_succ, List.set_cons_zero]
  refine wpAnyE_take (i := 38) (v := undef) rfl (by decide +kernel) (fun _ _ _ h => h) (Or.inr ⟨by kernel_rfl, rfl⟩) (by assumption) ?rqk538
  try simp only [Act.put, List.getElem_toArray, List.getElem_cons_succ, List.getElem_cons_zero, List.setIfInBounds_toArray, List.set_cons_succ, List.set_cons_zero]
  refine wpAnyE_take (i := 39) (v := undef) rfl (by decide +kernel) (fun _ _ _ h => h) (Or.inr ⟨by kernel_rfl, rfl⟩) (by assumption) ?rqk539
  try simp only [Act.put, List.getElem_toArray, List.getElem_cons_succ, List.getElem_cons_zero, List.setIfInBounds_toArray, List.set_cons_succ, List.set_cons_zero]
  refine wpAnyE_take (i := 40) (v := ?vqk540) rfl (by decide +kernel) (fun _ _ _ h => h) (Or.inl ⟨by kernel_rfl, ?hqk540⟩) (by assumption) ?rqk540
  case hqk540 =>
    intro wS hSw
    obtain ⟨h0, h1, h2, h3, h4, h5⟩ := hSw
    go_simp
    try with_reducible rfl
  try simp only [Act.put, List.getElem_toArray, List.getElem_cons_succ, List.getElem_cons_zero, List.setIfInBounds_toArray, List.set_cons_succ, List.set_cons_zero]
  refine wpAnyE_take (i := 41) (v := ?vqk541) rfl (by decide +kernel) (fun _ _ _ h => h) (Or.inl ⟨by kernel_rfl, ?hqk541⟩) (by assumption) ?rqk541
  case hqk541 =>
    intro wS hSw
    obtain ⟨h0, h1, h2, h3, h4, h5⟩ := hSw
    go_simp
    try with_reducible rfl
  try simp only [Act.put, List.getElem_toArray, List.getElem_cons_succ, List.getElem_cons_zero, List.setIfInBounds_toArray, List.set_cons_succ, List.set_cons_zero]
  refine wpAnyE_take (i := 42) (v := undef) rfl (by decide +kernel) (fun _ _ _ h => h) (Or.inr ⟨by kernel_rfl, rfl⟩) (by assumption) ?rqk542
  try simp only [Act.put, List.getElem_toArray, List.getElem_cons_succ, List.getElem_cons_zero, List.setIfInBounds_toArray, List.set_cons_succ, List.set_cons_zero]
  refine wpAnyE_take (i := 43) (v := undef) rfl (by decide +kernel) (fun _ _ _ h => h) (Or.inr ⟨by kernel_rfl, rfl⟩) (by assumption) ?rqk543
  try simp only [Act.put, List.getElem_toArray, List.getElem_cons_succ, List.getElem_cons_zero, List.setIfInBounds_toArray, List.set_cons_succ, List.set_cons_zero]
  refine wpAnyE_take (i := 44) (v := undef) rfl (by decide +kernel) (fun _ _ _ h => h) (Or.inr ⟨by kernel_rfl, rfl⟩) (by assumption) ?rqk544
  try simp only [Act.put, List.getElem_toArray, List.getElem_cons_succ, List.getElem_cons_zero, List.setIfInBounds_toArray, List.set_cons_succ, List.set_cons_zero]
  refine wpAnyE_take (i := 45) (v := undef) rfl (by decide +kernel) (fun _ _ _ h => h) (Or.inr ⟨by kernel_rfl, rfl⟩) (by assumption) ?rqk545
  try simp only [Act.put, List.getElem_toArray, List.getElem_cons_succ, List.getElem_cons_zero, List.setIfInBounds_toArray, List.set_cons_succ, List.set_cons_zero]
  refine wpAnyE_take (i := 46) (v := undef) rfl (by decide +kernel) (fun _ _ _ h => h) (Or.inr ⟨by kernel_rfl, rfl⟩) (by assumption) ?rqk546
  try simp only [Act.put, List.getElem_toArray, List.getElem_cons_succ, List.getElem_cons_zero, List.setIfInBounds_toArray, List.set_cons_succ, List.set_cons_zero]
  refine wpAnyE_take (i := 47) (v := undef) rfl (by decide +kernel) (fun _ _ _ h => h) (Or.inr ⟨by kernel_rfl, rfl⟩) (by assumption) ?rqk547
  try simp only [Act.put, List.getElem_toArray, List.getElem_cons_succ, List.getElem_cons_zero, List.setIfInBounds_toArray, List.set_cons_succ, List.set_cons_zero]
  refine wpAnyE_ready (rs := [48]) (by kernel_rfl) (by simp) ?_
  refine AllReadyE.cons (i := 48) rfl (by decide) (fun K hK => ?_) AllReadyE.nil
  go_simp
  refine hK.out _ _ ⟨B1.out.cell 0, B1.out.cell 1, B1.out.cell 2, B1.out.cell 3, B1.out.cell 4, B1.out.cell 5⟩ (fun hHeld => ?_)
  clear hK K
  try simp only [Act.put, List.getElem_toArray, List.getElem_cons_succ, List.getElem_cons_zero, List.setIfInBounds_toArray, List.set_cons_succ, List.set_cons_zero]
  refine wpAnyE_take (i := 49) (v := undef) rfl (by decide +kernel) (fun _ _ _ h => h) (Or.inr ⟨by kernel_rfl, rfl⟩) (by assumption) ?rqk549
  try simp only [Act.put, List.getElem_toArray, List.getElem_cons_succ, List.getElem_cons_zero, List.setIfInBounds_toArray, List.set_cons_succ, List.set_cons_zero]
  refine wpAnyE_take (i := 50) (v := ?vqk550) rfl (by decide +kernel) (fun _ _ _ h => h) (Or.inl ⟨by kernel_rfl, ?hqk550⟩) (by assumption) ?rqk550
  case hqk550 =>
    intro wS hSw
    obtain ⟨h0, h1, h2, h3, h4, h5⟩ := hSw
    go_simp
    try with_reducible rfl
  try simp only [Act.put, List.getElem_toArray, List.getElem_cons_succ, List.getElem_cons_zero, List.setIfInBounds_toArray, List.set_cons_succ, List.set_cons_zero]
  refine wpAnyE_ready (rs := [51]) (by kernel_rfl) (by simp) ?_
  refine AllReadyE.last (i := 51) rfl rfl (fun K hK => ?_)
  go_simp
  refine hK.out _ _ ?_
  clear hK K
  try simp only [Act.put, List.getElem_toArray, List.getElem_cons_succ, List.getElem_cons_zero, List.setIfInBounds_toArray, List.set_cons_succ, List.set_cons_zero]
  refine wpAnyE_done (by kernel_rfl) ?_ _
  try simp only [List.getElem_toArray, List.getElem_cons_succ, List.getElem_cons_zero, List.setIfInBounds_toArray, List.set_cons_succ, List.set_cons_zero]
  go_wp2_with fail
  go_ret
  exact ⟨rfl, B1.out.1⟩

set_option maxRecDepth 100000 in
set_option maxHeartbeats 8000000 in
theorem valid6 (i s x y h l : Int) (w : World) (g1 : decide (1 ≤ i) = true) (g2 : decide (i ≤ 999) = true) (g3 : pB x y = true) (g4 : decide (1 ≤ h) = true) (g5 : decide (h ≤ 9999) = true) (g6 : decide (0 ≤ l) = true) (g7 : decide (l ≤ 3) = false) :
    Calls Tryz.prog 10 #[.agg #[.int .i64 i, .int .i64 s, .int .i64 x, .int .i64 y, .int .i64 h, .int .i64 l]] w fun e w' => e = .returned (.bool false) ∧ Below w.heap.size w w' := by
  have E0 := Lib.hid (newS 25 #[.int .i64 i, .int .i64 s, .int .i64 x, .int .i64 y, .int .i64 h, .int .i64 l] w)
  have G3 := Lib.hid (show ∀ (W : World) (b : Nat) (hb : W.heap.size = b), Calls Tryz.prog 35 #[.func (.func 36) #[] #[], .slice (some ⟨b, 0, none⟩) 2 2] (W.alloc (.cells #[.int .i64 x, .int .i64 y] 3)).drew (fun e w' => e = .returned (.bool (pB x y)) ∧ (W.alloc (.cells #[.int .i64 x, .int .i64 y] 3)).drew = w') from fun W b hb => posj.areAll_new x y W.drew b hb)
  have G9 := Lib.hid (fun w => stateWith h l w)
  rw [g3] at G3
  clear g3
  go_enter Tryz.func10, Tryz.ntmps10
  go_upto_region 1 with fail
  generalize w.alloc (.cells #[.int .i64 i, .int .i64 s, .int .i64 x, .int .i64 y, .int .i64 h, .int .i64 l] 25) = W0 at *
  have HS := Lib.hid (show World.cell? W0.drew ⟨w.heap.size, 0, none⟩ = some (.int .i64 i) ∧ World.cell? W0.drew ⟨w.heap.size, 1, none⟩ = some (.int .i64 s) ∧ World.cell? W0.drew ⟨w.heap.size, 2, none⟩ = some (.int .i64 x) ∧ World.cell? W0.drew ⟨w.heap.size, 3, none⟩ = some (.int .i64 y) ∧ World.cell? W0.drew ⟨w.heap.size, 4, none⟩ = some (.int .i64 h) ∧ World.cell? W0.drew ⟨w.heap.size, 5, none⟩ = some (.int .i64 l) from ⟨E0.out.drew.cell 0, E0.out.drew.cell 1, E0.out.drew.cell 2, E0.out.drew.cell 3, E0.out.drew.cell 4, E0.out.drew.cell 5⟩)
  refine wp_region_tail (S := fun w' => World.cell? w' ⟨w.heap.size, 0, none⟩ = some (.int .i64 i) ∧ World.cell? w' ⟨w.heap.size, 1, none⟩ = some (.int .i64 s) ∧ World.cell? w' ⟨w.heap.size, 2, none⟩ = some (.int .i64 x) ∧ World.cell? w' ⟨w.heap.size, 3, none⟩ = some (.int .i64 y) ∧ World.cell? w' ⟨w.heap.size, 4, none⟩ = some (.int .i64 h) ∧ World.cell? w' ⟨w.heap.size, 5, none⟩ = some (.int .i64 l)) 51 (by kernel_rfl) HS.out (fun hHeld => ?_)
  try simp only [Act.put, List.getElem_toArray, List.getElem_cons_succ, List.getElem_cons_zero, List.setIfInBounds_toArray, List.set_cons_succ, List.set_cons_zero]
  refine wpAnyE_take (i := 0) (v := ?vqk60) rfl (by decide +kernel) (fun _ _ _ h => h) (Or.inl ⟨by kernel_rfl, ?hqk60⟩) (by assumption) ?rqk60
  case hqk60 =>
    intro wS hSw
    obtain ⟨h0, h1, h2, h3, h4, h5⟩ := hSw
    go_simp
    try with_reducible rfl
  try simp only [Act.put, List.getElem_toArray, List.getElem_cons_succ, List.getElem_cons_zero, List.setIfInBounds_toArray, List.set_cons_succ, List.set_cons_zero]
  refine wpAnyE_take (i := 1) (v := ?vqk61) rfl (by decide +kernel) (fun _ _ _ h => h) (Or.inl ⟨by kernel_rfl, ?hqk61⟩) (by assumption) ?rqk61
  case hqk61 =>
    intro wS hSw
    obtain ⟨h0, h1, h2, h3, h4, h5⟩ := hSw
    go_simp
    try with_reducible rfl
  try simp only [Act.put, List.getElem_toArray, List.getElem_cons_succ, List.getElem_cons_zero, List.setIfInBounds_toArray, List.set_cons_succ, List.set_cons_zero]
  refine wpAnyE_take (i := 2) (v := ?vqk62) rfl (by decide +kernel) (fun _ _ _ h => h) (Or.inl ⟨by kernel_rfl, ?hqk62⟩) (by assumption) ?rqk62
  case hqk62 =>
    intro wS hSw
    obtain ⟨h0, h1, h2, h3, h4, h5⟩ := hSw
    go_simp
    try with_reducible rfl
  try simp only [Act.put, List.getElem_toArray, List.getElem_cons_succ, List.getElem_cons_zero, List.setIfInBounds_toArray, List.set_cons_succ, List.set_cons_zero]
  refine wpAnyE_take (i := 3) (v := ?vqk63) rfl (by decide +kernel) (fun _ _ _ h => h) (Or.inl ⟨by kernel_rfl, ?hqk63⟩) (by assumption) ?rqk63
  case hqk63 =>
    intro wS hSw
    obtain ⟨h0, h1, h2, h3, h4, h5⟩ := hSw
    go_simp
    try with_reducible rfl
  try simp only [Act.put, List.getElem_toArray, List.getElem_cons_succ, List.getElem_cons_zero, List.setIfInBounds_toArray, List.set_cons_succ, List.set_cons_zero]
  refine wpAnyE_take (i := 4) (v := ?vqk64) rfl (by decide +kernel) (fun _ _ _ h => h) (Or.inl ⟨by kernel_rfl, ?hqk64⟩) (by assumption) ?rqk64
  case hqk64 =>
    intro wS hSw
    obtain ⟨h0, h1, h2, h3, h4, h5⟩ := hSw
    go_simp
    try with_reducible rfl
  try simp only [Act.put, List.getElem_toArray, List.getElem_cons_succ, List.getElem_cons_zero, List.setIfInBounds_toArray, List.set_cons_succ, List.set_cons_zero]
  refine wpAnyE_take (i := 5) (v := ?vqk65) rfl (by decide +kernel) (fun _ _ _ h => h) (Or.inl ⟨by kernel_rfl, ?hqk65⟩) (by assumption) ?rqk65
  case hqk65 =>
    intro wS hSw
    obtain ⟨h0, h1, h2, h3, h4, h5⟩ := hSw
    go_simp
    try with_reducible rfl
  try simp only [Act.put, List.getElem_toArray, List.getElem_cons_succ, List.getElem_cons_zero, List.setIfInBounds_toArray, List.set_cons_succ, List.set_cons_zero]
  refine wpAnyE_take (i := 6) (v := ?vqk66) rfl (by decide +kernel) (fun _ _ _ h => h) (Or.inl ⟨by kernel_rfl, ?hqk66⟩) (by assumption) ?rqk66
  case hqk66 =>
    intro wS hSw
    obtain ⟨h0, h1, h2, h3, h4, h5⟩ := hSw
    go_simp
    try with_reducible rfl
  try simp only [Act.put, List.getElem_toArray, List.getElem_cons_succ, List.getElem_cons_zero, List.setIfInBounds_toArray, List.set_cons_succ, List.set_cons_zero]
  refine wpAnyE_take (i := 7) (v := ?vqk67) rfl (by decide +kernel) (fun _ _ _ h => h) (Or.inl ⟨by kernel_rfl, ?hqk67⟩) (by assumption) ?rqk67
  case hqk67 =>
    intro wS hSw
    obtain ⟨h0, h1, h2, h3, h4, h5⟩ := hSw
    go_simp
    try with_reducible rfl
  try simp only [Act.put, List.getElem_toArray, List.getElem_cons_succ, List.getElem_cons_zero, List.setIfInBounds_toArray, List.set_cons_succ, List.set_cons_zero]
  refine wpAnyE_take (i := 8) (v := ?vqk68) rfl (by decide +kernel) (fun _ _ _ h => h) (Or.inl ⟨by kernel_rfl, ?hqk68⟩) (by assumption) ?rqk68
  case hqk68 =>
    intro wS hSw
    obtain ⟨h0, h1, h2, h3, h4, h5⟩ := hSw
    go_simp
    try with_reducible rfl
  try simp only [Act.put, List.getElem_toArray, List.getElem_cons_succ, List.getElem_cons_zero, List.setIfInBounds_toArray, List.set_cons_succ, List.set_cons_zero]
  refine wpAnyE_take (i := 9) (v := ?vqk69) rfl (by decide +kernel) (fun _ _ _ h => h) (Or.inl ⟨by kernel_rfl, ?hqk69⟩) (by assumption) ?rqk69
  case hqk69 =>
    intro wS hSw
    obtain ⟨h0, h1, h2, h3, h4, h5⟩ := hSw
    go_simp
    try with_reducible rfl
  try simp only [Act.put, List.getElem_toArray, List.getElem_cons_succ, List.getElem_cons_zero, List.setIfInBounds_toArray, List.set_cons_succ, List.set_cons_zero]
  refine wpAnyE_take (i := 10) (v := ?vqk610) rfl (by decide +kernel) (fun _ _ _ h => h) (Or.inl ⟨by kernel_rfl, ?hqk610⟩) (by assumption) ?rqk610
  case hqk610 =>
    intro wS hSw
    obtain ⟨h0, h1, h2, h3, h4, h5⟩ := hSw
    go_simp
    try with_reducible rfl
  try simp only [Act.put, List.getElem_toArray, List.getElem_cons_succ, List.getElem_cons_zero, List.setIfInBounds_toArray, List.set_cons_succ, List.set_cons_zero]
  refine wpAnyE_take (i := 11) (v := ?vqk611) rfl (by decide +kernel) (fun _ _ _ h => h) (Or.inl ⟨by kernel_rfl, ?hqk611⟩) (by assumption) ?rqk611
  case hqk611 =>
    intro wS hSw
    obtain ⟨h0, h1, h2, h3, h4, h5⟩ := hSw
    go_simp
    try with_reducible rfl
  try simp only [Act.put, List.getElem_toArray, List.getElem_cons_succ, List.getElem_cons_zero, List.setIfInBounds_toArray, List.set_cons_succ, List.set_cons_zero]
  refine wpAnyE_take (i := 12) (v := ?vqk612) rfl (by decide +kernel) (fun _ _ _ h => h) (Or.inl ⟨by kernel_rfl, ?hqk612⟩) (by assumption) ?rqk612
  case hqk612 =>
    intro wS hSw
    obtain ⟨h0, h1, h2, h3, h4, h5⟩ := hSw
    go_simp
    try with_reducible rfl
  try simp only [Act.put, List.getElem_toArray, List.getElem_cons_succ, List.getElem_cons_zero, List.setIfInBounds_toArray, List.set_cons_succ, List.set_cons_zero]
  refine wpAnyE_ready (rs := [13]) (by kernel_rfl) (by simp) ?_
  refine AllReadyE.cons (i := 13) rfl (by decide) (fun K hK => ?_) AllReadyE.nil
  go_simp
  have B1 := Lib.hid (E0.out.drew.alloc (.cells #[.int .i64 x, .int .i64 y] 3))
  refine hK.out _ _ ⟨B1.out.cell 0, B1.out.cell 1, B1.out.cell 2, B1.out.cell 3, B1.out.cell 4, B1.out.cell 5⟩ (fun hHeld => ?_)
  clear hK K
  try simp only [Act.put, List.getElem_toArray, List.getElem_cons_succ, List.getElem_cons_zero, List.setIfInBounds_toArray, List.set_cons_succ, List.set_cons_zero]
  refine wpAnyE_ready (rs := [14]) (by kernel_rfl) (by simp) ?_
  refine AllReadyE.cons (i := 14) rfl (by decide) (fun K hK => ?_) AllReadyE.nil
  go_simp
  refine (G3.out _ _ rfl).mono ?_
  rintro e w' ⟨rfl, rfl⟩
  go_simp
  refine hK.out _ _ ⟨B1.out.cell 0, B1.out.cell 1, B1.out.cell 2, B1.out.cell 3, B1.out.cell 4, B1.out.cell 5⟩ (fun hHeld => ?_)
  clear hK K
  try simp only [Act.put, List.getElem_toArray, List.getElem_cons_succ, List.getElem_cons_zero, List.setIfInBounds_toArray, List.set_cons_succ, List.set_cons_zero]
  refine wpAnyE_take (i := 15) (v := ?vqk615) rfl (by decide +kernel) (fun _ _ _ h => h) (Or.inl ⟨by kernel_rfl, ?hqk615⟩) (by assumption) ?rqk615
  case hqk615 =>
    intro wS hSw
    obtain ⟨h0, h1, h2, h3, h4, h5⟩ := hSw
    go_simp
    try with_reducible rfl
  try simp only [Act.put, List.getElem_toArray, List.getElem_cons_succ, List.getElem_cons_zero, List.setIfInBounds_toArray, List.set_cons_succ, List.set_cons_zero]
  refine wpAnyE_take (i := 16) (v := ?vqk616) rfl (by decide +kernel) (fun _ _ _ h => h) (Or.inl ⟨by kernel_rfl, ?hqk616⟩) (by assumption) ?rqk616
  case hqk616 =>
    intro wS hSw
    obtain ⟨h0, h1, h2, h3, h4, h5⟩ := hSw
    go_simp
    try with_reducible rfl
  try simp only [Act.put, List.getElem_toArray, List.getElem_cons_succ, List.getElem_cons_zero, List.setIfInBounds_toArray, List.set_cons_succ, List.set_cons_zero]
  refine wpAnyE_take (i := 17) (v := ?vqk617) rfl (by decide +kernel) (fun _ _ _ h => h) (Or.inl ⟨by kernel_rfl, ?hqk617⟩) (by assumption) ?rqk617
  case hqk617 =>
    intro wS hSw
    obtain ⟨h0, h1, h2, h3, h4, h5⟩ := hSw
    go_simp
    try with_reducible rfl
  try simp only [Act.put, List.getElem_toArray, List.getElem_cons_succ, List.getElem_cons_zero, List.setIfInBounds_toArray, List.set_cons_succ, List.set_cons_zero]
  refine wpAnyE_take (i := 18) (v := ?vqk618) rfl (by decide +kernel) (fun _ _ _ h => h) (Or.inl ⟨by kernel_rfl, ?hqk618⟩) (by assumption) ?rqk618
  case hqk618 =>
    intro wS hSw
    obtain ⟨h0, h1, h2, h3, h4, h5⟩ := hSw
    go_simp
    try with_reducible rfl
  try simp only [Act.put, List.getElem_toArray, List.getElem_cons_succ, List.getElem_cons_zero, List.setIfInBounds_toArray, List.set_cons_succ, List.set_cons_zero]
  refine wpAnyE_take (i := 19) (v := ?vqk619) rfl (by decide +kernel) (fun _ _ _ h => h) (Or.inl ⟨by kernel_rfl, ?hqk619⟩) (by assumption) ?rqk619
  case hqk619 =>
    intro wS hSw
    obtain ⟨h0, h1, h2, h3, h4, h5⟩ := hSw
    go_simp
    try with_reducible rfl
  try simp only [Act.put, List.getElem_toArray, List.getElem_cons_succ, List.getElem_cons_zero, List.setIfInBounds_toArray, List.set_cons_succ, List.set_cons_zero]
  refine wpAnyE_take (i := 20) (v := ?vqk620) rfl (by decide +kernel) (fun _ _ _ h => h) (Or.inl ⟨by kernel_rfl, ?hqk620⟩) (by assumption) ?rqk620
  case hqk620 =>
    intro wS hSw
    obtain ⟨h0, h1, h2, h3, h4, h5⟩ := hSw
    go_simp
    try with_reducible rfl
  try simp only [Act.put, List.getElem_toArray, List.getElem_cons_succ, List.getElem_cons_zero, List.setIfInBounds_toArray, List.set_cons_succ, List.set_cons_zero]
  refine wpAnyE_take (i := 21) (v := ?vqk621) rfl (by decide +kernel) (fun _ _ _ h => h) (Or.inl ⟨by kernel_rfl, ?hqk621⟩) (by assumption) ?rqk621
  case hqk621 =>
    intro wS hSw
    obtain ⟨h0, h1, h2, h3, h4, h5⟩ := hSw
    go_simp
    try with_reducible rfl
  try simp only [Act.put, List.getElem_toArray, List.getElem_cons_succ, List.getElem_cons_zero, List.setIfInBounds_toArray, List.set_cons_succ, List.set_cons_zero]
  refine wpAnyE_take (i := 22) (v := ?vqk622) rfl (by decide +kernel) (fun _ _ _ h => h) (Or.inl ⟨by kernel_rfl, ?hqk622⟩) (by assumption) ?rqk622
  case hqk622 =>
    intro wS hSw
    obtain ⟨h0, h1, h2, h3, h4, h5⟩ := hSw
    go_simp
    try with_reducible rfl
  try simp only [Act.put, List.getElem_toArray, List.getElem_cons_succ, List.getElem_cons_zero, List.setIfInBounds_toArray, List.set_cons_succ, List.set_cons_zero]
  refine wpAnyE_take (i := 23) (v := ?vqk623) rfl (by decide +kernel) (fun _ _ _ h => h) (Or.inl ⟨by kernel_rfl, ?hqk623⟩) (by assumption) ?rqk623
  case hqk623 =>
    intro wS hSw
    obtain ⟨h0, h1, h2, h3, h4, h5⟩ := hSw
    go_simp
    try with_reducible rfl
  try simp only [Act.put, List.getElem_toArray, List.getElem_cons_succ, List.getElem_cons_zero, List.setIfInBounds_toArray, List.set_cons_succ, List.set_cons_zero]
  refine wpAnyE_take (i := 24) (v := ?vqk624) rfl (by decide +kernel) (fun _ _ _ h => h) (Or.inl ⟨by kernel_rfl, ?hqk624⟩) (by assumption) ?rqk624
  case hqk624 =>
    intro wS hSw
    obtain ⟨h0, h1, h2, h3, h4, h5⟩ := hSw
    go_simp
    try with_reducible rfl
  try simp only [Act.put, List.getElem_toArray, List.getElem_cons_succ, List.getElem_cons_zero, List.setIfInBounds_toArray, List.set_cons_succ, List.set_cons_zero]
  refine wpAnyE_take (i := 25) (v := ?vqk625) rfl (by decide +kernel) (fun _ _ _ h => h) (Or.inl ⟨by kernel_rfl, ?hqk625⟩) (by assumption) ?rqk625
  case hqk625 =>
    intro wS hSw
    obtain ⟨h0, h1, h2, h3, h4, h5⟩ := hSw
    go_simp
    try with_reducible rfl
  try simp only [Act.put, List.getElem_toArray, List.getElem_cons_succ, List.getElem_cons_zero, List.setIfInBounds_toArray, List.set_cons_succ, List.set_cons_zero]
  refine wpAnyE_take (i := 26) (v := ?vqk626) rfl (by decide +kernel) (fun _ _ _ h => h) (Or.inl ⟨by kernel_rfl, ?hqk626⟩) (by assumption) ?rqk626
  case hqk626 =>
    intro wS hSw
    obtain ⟨h0, h1, h2, h3, h4, h5⟩ := hSw
    go_simp
    try with_reducible rfl
  try simp only [Act.put, List.getElem_toArray, List.getElem_cons_succ, List.getElem_cons_zero, List.setIfInBounds_toArray, List.set_cons_succ, List.set_cons_zero]
  refine wpAnyE_take (i := 27) (v := ?vqk627) rfl (by decide +kernel) (fun _ _ _ h => h) (Or.inl ⟨by kernel_rfl, ?hqk627⟩) (by assumption) ?rqk627
  case hqk627 =>
    intro wS hSw
    obtain ⟨h0, h1, h2, h3, h4, h5⟩ := hSw
    go_simp
    try with_reducible rfl
  try simp only [Act.put, List.getElem_toArray, List.getElem_cons_succ, List.getElem_cons_zero, List.setIfInBounds_toArray, List.set_cons_succ, List.set_cons_zero]
  refine wpAnyE_take (i := 28) (v := ?vqk628) rfl (by decide +kernel) (fun _ _ _ h => h) (Or.inl ⟨by kernel_rfl, ?hqk628⟩) (by assumption) ?rqk628
  case hqk628 =>
    intro wS hSw
    obtain ⟨h0, h1, h2, h3, h4, h5⟩ := hSw
    go_simp
    try with_reducible rfl
  try simp only [Act.put, List.getElem_toArray, List.getElem_cons_succ, List.getElem_cons_zero, List.setIfInBounds_toArray, List.set_cons_succ, List.set_cons_zero]
  refine wpAnyE_take (i := 29) (v := ?vqk629) rfl (by decide +kernel) (fun _ _ _ h => h) (Or.inl ⟨by kernel_rfl, ?hqk629⟩) (by assumption) ?rqk629
  case hqk629 =>
    intro wS hSw
    obtain ⟨h0, h1, h2, h3, h4, h5⟩ := hSw
    go_simp
    try with_reducible rfl
  try simp only [Act.put, List.getElem_toArray, List.getElem_cons_succ, List.getElem_cons_zero, List.setIfInBounds_toArray, List.set_cons_succ, List.set_cons_zero]
  refine wpAnyE_take (i := 30) (v := ?vqk630) rfl (by decide +kernel) (fun _ _ _ h => h) (Or.inl ⟨by kernel_rfl, ?hqk630⟩) (by assumption) ?rqk630
  case hqk630 =>
    intro wS hSw
    obtain ⟨h0, h1, h2, h3, h4, h5⟩ := hSw
    go_simp
    try with_reducible rfl
  try simp only [Act.put, List.getElem_toArray, List.getElem_cons_succ, List.getElem_cons_zero, List.setIfInBounds_toArray, List.set_cons_succ, List.set_cons_zero]
  refine wpAnyE_take (i := 31) (v := ?vqk631) rfl (by decide +kernel) (fun _ _ _ h => h) (Or.inl ⟨by kernel_rfl, ?hqk631⟩) (by assumption) ?rqk631
  case hqk631 =>
    intro wS hSw
    obtain ⟨h0, h1, h2, h3, h4, h5⟩ := hSw
    go_simp
    try with_reducible rfl
  try simp only [Act.put, List.getElem_toArray, List.getElem_cons_succ, List.getElem_cons_zero, List.setIfInBounds_toArray, List.set_cons_succ, List.set_cons_zero]
  refine wpAnyE_take (i := 32) (v := ?vqk632) rfl (by decide +kernel) (fun _ _ _ h => h) (Or.inl ⟨by kernel_rfl, ?hqk632⟩) (by assumption) ?rqk632
  case hqk632 =>
    intro wS hSw
    obtain ⟨h0, h1, h2, h3, h4, h5⟩ := hSw
    go_simp
    try with_reducible rfl
  try simp only [Act.put, List.getElem_toArray, List.getElem_cons_succ, List.getElem_cons_zero, List.setIfInBounds_toArray, List.set_cons_succ, List.set_cons_zero]
  refine wpAnyE_take (i := 33) (v := ?vqk633) rfl (by decide +kernel) (fun _ _ _ h => h) (Or.inl ⟨by kernel_rfl, ?hqk633⟩) (by assumption) ?rqk633
  case hqk633 =>
    intro wS hSw
    obtain ⟨h0, h1, h2, h3, h4, h5⟩ := hSw
    go_simp
    try with_reducible rfl
  try simp only [Act.put, List.getElem_toArray, List.getElem_cons_succ, List.getElem_cons_zero, List.setIfInBounds_toArray, List.set_cons_succ, List.set_cons_zero]
  refine wpAnyE_take (i := 34) (v := ?vqk634) rfl (by decide +kernel) (fun _ _ _ h => h) (Or.inl ⟨by kernel_rfl, ?hqk634⟩) (by assumption) ?rqk634
  case hqk634 =>
    intro wS hSw
    obtain ⟨h0, h1, h2, h3, h4, h5⟩ := hSw
    go_simp
    try with_reducible rfl
  try simp only [Act.put, List.getElem_toArray, List.getElem_cons_succ, List.getElem_cons_zero, List.setIfInBounds_toArray, List.set_cons_succ, List.set_cons_zero]
  refine wpAnyE_take (i := 35) (v := ?vqk635) rfl (by decide +kernel) (fun _ _ _ h => h) (Or.inl ⟨by kernel_rfl, ?hqk635⟩) (by assumption) ?rqk635
  case hqk635 =>
    intro wS hSw
    obtain ⟨h0, h1, h2, h3, h4, h5⟩ := hSw
    go_simp
    try with_reducible rfl
  try simp only [Act.put, List.getElem_toArray, List.getElem_cons_succ, List.getElem_cons_zero, List.setIfInBounds_toArray, List.set_cons_succ, List.set_cons_zero]
  refine wpAnyE_take (i := 36) (v := ?vqk636) rfl (by decide +kernel) (fun _ _ _ h => h) (Or.inl ⟨by kernel_rfl, ?hqk636⟩) (by assumption) ?rqk636
  case hqk636 =>
    intro wS hSw
    obtain ⟨h0, h1, h2, h3, h4, h5⟩ := hSw
    go_simp
    try with_reducible rfl
  try simp only [Act.put, List.getElem_toArray, List.getElem_cons_succ, List.getElem_cons_zero, List.setIfInBounds_toArray, List.set_cons_succ, List.set_cons_zero]
  refine wpAnyE_take (i := 37) (v := undef) rfl (by decide +kernel) (fun _ _ _ h => h) (Or.inr ⟨by kernel_rfl, rfl⟩) (by assumption) ?rqk637
  try simp only [Act.put, List.getElem_toArray, List.getElem_cons_succ, List.getElem_cons_zero, List.setIfInBounds_toArray, List.set_cons_succ, List.set_cons_zero]
  refine wpAnyE_take (i := 38) (v := undef) rfl (by decide +kernel) (fun _ _ _ h => h) (Or.inr ⟨by kernel_rfl, rfl⟩) (by assumption) ?rqk638
  try simp only [Act.put, List.getElem_toArray, List.getElem_cons_succ, List.getElem_cons_zero, List.setIfInBounds_toArray, List.set_cons_succ, List.set_cons_zero]
  refine wpAnyE_take (i := 39) (v := undef) rfl (by decide +kernel) (fun _ _ _ h => h) (Or.inr ⟨by kernel_rfl, rfl⟩) (by assumption) ?rqk639
  try simp only [Act.put, List.getElem_toArray, List.getElem_cons_succ, List.getElem_cons_zero, List.setIfInBounds_toArray, List.set_cons_succ, List.set_cons_zero]
  refine wpAnyE_take (i := 40) (v := ?vqk640) rfl (by decide +kernel) (fun _ _ _ h => h) (Or.inl ⟨by kernel_rfl, ?hqk640⟩) (by assumption) ?rqk640
  case hqk640 =>
    intro wS hSw
    obtain ⟨h0, h1, h2, h3, h4, h5⟩ := hSw
    go_simp
    try with_reducible rfl
  try simp only [Act.put, List.getElem_toArray, List.getElem_cons_succ, List.getElem_cons_zero, List.setIfInBounds_toArray, List.set_cons_succ, List.set_cons_zero]
  refine wpAnyE_take (i := 41) (v := ?vqk641) rfl (by decide +kernel) (fun _ _ _ h => h) (Or.inl ⟨by kernel_rfl, ?hqk641⟩) (by assumption) ?rqk641
  case hqk641 =>
    intro wS hSw
    obtain ⟨h0, h1, h2, h3, h4, h5⟩ := hSw
    go_simp
    try with_reducible rfl
  try simp only [Act.put, List.getElem_toArray, List.getElem_cons_succ, List.getElem_cons_zero, List.setIfInBounds_toArray, List.set_cons_succ, List.set_cons_zero]
  refine wpAnyE_take (i := 42) (v := undef) rfl (by decide +kernel) (fun _ _ _ h => h) (Or.inr ⟨by kernel_rfl, rfl⟩) (by assumption) ?rqk642
  try simp only [Act.put, List.getElem_toArray, List.getElem_cons_succ, List.getElem_cons_zero, List.setIfInBounds_toArray, List.set_cons_succ, List.set_cons_zero]
  refine wpAnyE_take (i := 43) (v := undef) rfl (by decide +kernel) (fun _ _ _ h => h) (Or.inr ⟨by kernel_rfl, rfl⟩) (by assumption) ?rqk643
  try simp only [Act.put, List.getElem_toArray, List.getElem_cons_succ, List.getElem_cons_zero, List.setIfInBounds_toArray, List.set_cons_succ, List.set_cons_zero]
  refine wpAnyE_take (i := 44) (v := undef) rfl (by decide +kernel) (fun _ _ _ h => h) (Or.inr ⟨by kernel_rfl, rfl⟩) (by assumption) ?rqk644
  try simp only [Act.put, List.getElem_toArray, List.getElem_cons_succ, List.getElem_cons_zero, List.setIfInBounds_toArray, List.set_cons_succ, List.set_cons_zero]
  refine wpAnyE_take (i := 45) (v := undef) rfl (by decide +kernel) (fun _ _ _ h => h) (Or.inr ⟨by kernel_rfl, rfl⟩) (by assumption) ?rqk645
  try simp only [Act.put, List.getElem_toArray, List.getElem_cons_succ, List.getElem_cons_zero, List.setIfInBounds_toArray, List.set_cons_succ, List.set_cons_zero]
  refine wpAnyE_take (i := 46) (v := undef) rfl (by decide +kernel) (fun _ _ _ h => h) (Or.inr ⟨by kernel_rfl, rfl⟩) (by assumption) ?rqk646
  try simp only [Act.put, List.getElem_toArray, List.getElem_cons_succ, List.getElem_cons_zero, List.setIfInBounds_toArray, List.set_cons_succ, List.set_cons_zero]
  refine wpAnyE_take (i := 47) (v := undef) rfl (by decide +kernel) (fun _ _ _ h => h) (Or.inr ⟨by kernel_rfl, rfl⟩) (by assumption) ?rqk647
  try simp only [Act.put, List.getElem_toArray, List.getElem_cons_succ, List.getElem_cons_zero, List.setIfInBounds_toArray, List.set_cons_succ, List.set_cons_zero]
  refine wpAnyE_ready (rs := [48]) (by kernel_rfl) (by simp) ?_
  refine AllReadyE.cons (i := 48) rfl (by decide) (fun K hK => ?_) AllReadyE.nil
  go_simp
  refine hK.out _ _ ⟨B1.out.cell 0, B1.out.cell 1, B1.out.cell 2, B1.out.cell 3, B1.out.cell 4, B1.out.cell 5⟩ (fun hHeld => ?_)
  clear hK K
  try simp only [Act.put, List.getElem_toArray, List.getElem_cons_succ, List.getElem_cons_zero, List.setIfInBounds_toArray, List.set_cons_succ, List.set_cons_zero]
  refine wpAnyE_take (i := 49) (v := undef) rfl (by decide +kernel) (fun _ _ _ h => h) (Or.inr ⟨by kernel_rfl, rfl⟩) (by assumption) ?rqk649
  try simp only [Act.put, List.getElem_toArray, List.getElem_cons_succ, List.getElem_cons_zero, List.setIfInBounds_toArray, List.set_cons_succ, List.set_cons_zero]
  refine wpAnyE_take (i := 50) (v := ?vqk650) rfl (by decide +kernel) (fun _ _ _ h => h) (Or.inl ⟨by kernel_rfl, ?hqk650⟩) (by assumption) ?rqk650
  case hqk650 =>
    intro wS hSw
    obtain ⟨h0, h1, h2, h3, h4, h5⟩ := hSw
    go_simp
    try with_reducible rfl
  try simp only [Act.put, List.getElem_toArray, List.getElem_cons_succ, List.getElem_cons_zero, List.setIfInBounds_toArray, List.set_cons_succ, List.set_cons_zero]
  refine wpAnyE_ready (rs := [51]) (by kernel_rfl) (by simp) ?_
  refine AllReadyE.last (i := 51) rfl rfl (fun K hK => ?_)
  go_simp
  refine hK.out _ _ ?_
  clear hK K
  try simp only [Act.put, List.getElem_toArray, List.getElem_cons_succ, List.getElem_cons_zero, List.setIfInBounds_toArray, List.set_cons_succ, List.set_cons_zero]
  refine wpAnyE_done (by kernel_rfl) ?_ _
  try simp only [List.getElem_toArray, List.getElem_cons_succ, List.getElem_cons_zero, List.setIfInBounds_toArray, List.set_cons_succ, List.set_cons_zero]
  go_wp2_with fail
  go_ret
  exact ⟨rfl, B1.out.1⟩

end Go.Proofs.YtfigjfckelichaaGreatDoor.trkk
