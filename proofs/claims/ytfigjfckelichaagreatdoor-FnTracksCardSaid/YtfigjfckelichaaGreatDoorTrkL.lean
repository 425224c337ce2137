/- impl's IsValidTrack: where it fails at the test 7, 8, 9. -/
import Derived.Test.YtfigjfckelichaaGreatDoorTrkI
namespace Go.Proofs.YtfigjfckelichaaGreatDoor.trkl
open Go.RowKit Go.Proofs.YtfigjfckelichaaGreatDoor.ints Go.Proofs.YtfigjfckelichaaGreatDoor.lst Go.Proofs.YtfigjfckelichaaGreatDoor.in_ Go.Proofs.YtfigjfckelichaaGreatDoor.ats Go.Proofs.YtfigjfckelichaaGreatDoor.pos Go.Proofs.YtfigjfckelichaaGreatDoor.trk Go.Proofs.YtfigjfckelichaaGreatDoor.trki Go.Proofs.YtfigjfckelichaaGreatDoor.tailh
set_option linter.unusedSimpArgs false

set_option maxRecDepth 100000 in
set_option maxHeartbeats 8000000 in
theorem valid7 (i s x y h l : Int) (w : World) (g1 : decide (1 ≤ i) = true) (g2 : decide (i ≤ 999) = true) (g3 : pB x y = true) (g4 : decide (1 ≤ h) = true) (g5 : decide (h ≤ 9999) = true) (g6 : decide (0 ≤ l) = true) (g7 : decide (l ≤ 3) = true) (g8 : (s != 0) = false) :
    Calls Tryz.prog 10 #[.agg #[.int .i64 i, .int .i64 s, .int .i64 x, .int .i64 y, .int .i64 h, .int .i64 l]] w fun e w' => e = .returned (.bool false) ∧ Below w.heap.size w w' := by
  have E0 := Lib.hid (newS 25 #[.int .i64 i, .int .i64 s, .int .i64 x, .int .i64 y, .int .i64 h, .int .i64 l] w)
  have G3 := Lib.hid (show ∀ (W : World) (b : Nat) (hb : W.heap.size = b), Calls Tryz.prog 35 #[.func (.func 36) #[] #[], .slice (some ⟨b, 0, none⟩) 2 2] (W.alloc (.cells #[.int .i64 x, .int .i64 y] 3)).drew (fun e w' => e = .returned (.bool (pB x y)) ∧ (W.alloc (.cells #[.int .i64 x, .int .i64 y] 3)).drew = w') from fun W b hb => posj.areAll_new x y W.drew b hb)
  have G9 := Lib.hid (fun w => stateWith h l w)
  rw [g3] at G3
  clear g3
  go_enter Tryz.func10, Tryz.ntmps10
  go_upto_region 1 with fail
  generalize w.alloc (.cells #[.int .i64 i, .int .i64 s, .int .i64 x, .int .i64 y, .int .i64 h, .int .i64 l] 25) = W0 at *
  have HS := Lib.hid (show World.cell? W0.drew ⟨w.heap.size, 0, none⟩ = some (.int .i64 i) ∧ World.cell? W0.drew ⟨w.heap.size, 1, none⟩ = some (.int .i64 s) ∧ World.cell? W0.drew ⟨w.heap.size, 2, none⟩ = some (.int .i64 x) ∧ World.cell? W0.drew ⟨w.heap.size, 3, none⟩ = some (.int .i64 y) ∧ World.cell? W0.drew ⟨w.heap.size, 4, none⟩ = some (.int .i64 h) ∧ World.cell? W0.drew ⟨w.heap.size, 5, none⟩ = some (.int .i64 l) from ⟨E0.out.drew.cell 0, E0.out.drew.cell 1, E0.out.drew.cell 2, E0.out.drew.cell 3, E0.out.drew.cell 4, E0.out.drew.cell 5⟩)
  refine wp_region_tail (S := fun w' => World.cell? w' ⟨w.heap.size, 0, none⟩ = some (.int .i64 i) ∧ World.cell? w' ⟨w.heap.size, 1, none⟩ = some (.int .i64 s) ∧ World.cell? w' ⟨w.heap.size, 2, none⟩ = some (.int .i64 x) ∧ World.cell? w' ⟨w.heap.size, 3, none⟩ = some (.int .i64 y) ∧ World.cell? w' ⟨w.heap.size, 4, none⟩ = some (.int .i64 h) ∧ World.cell? w' ⟨w.heap.size, 5, none⟩ = some (.int .i64 l)) 51 (by kernel_rfl) HS.out (fun hHeld => ?_)
  try simp only [Act.put, List.getElem_toArray, List.getElem_cons_succ, List.getElem_cons_zero, List.setIfInBounds_toArray, List.set_cons_succ, List.set_cons_zero]
  refine wpAnyE_take (i := 0) (v := ?vqk70) rfl (by decide +kernel) (fun _ _ _ h => h) (Or.inl ⟨by kernel_rfl, ?hqk70⟩) (by assumption) ?rqk70
  case hqk70 =>
    intro wS hSw
    obtain ⟨h0, h1, h2, h3, h4, h5⟩ := hSw
    go_simp
    try with_reducible rfl
  try simp only [Act.put, List.getElem_toArray, List.getElem_cons_succ, List.getElem_cons_zero, List.setIfInBounds_toArray, List.set_cons_succ, List.set_cons_zero]
  refine wpAnyE_take (i := 1) (v := ?vqk71) rfl (by decide +kernel) (fun _ _ _ h => h) (Or.inl ⟨by kernel_rfl, ?hqk71⟩) (by assumption) ?rqk71
  case hqk71 =>
    intro wS hSw
    obtain ⟨h0, h1, h2, h3, h4, h5⟩ := hSw
    go_simp
    try with_reducible rfl
  try simp only [Act.put, List.getElem_toArray, List.getElem_cons_succ, List.getElem_cons_zero, List.setIfInBounds_toArray, List.set_cons_succ, List.set_cons_zero]
  refine wpAnyE_take (i := 2) (v := ?vqk72) rfl (by decide +kernel) (fun _ _ _ h => h) (Or.inl ⟨by kernel_rfl, ?hqk72⟩) (by assumption) ?rqk72
  case hqk72 =>
    intro wS hSw
    obtain ⟨h0, h1, h2, h3, h4, h5⟩ := hSw
    go_simp
    try with_reducible rfl
  try simp only [Act.put, List.getElem_toArray, List.getElem_cons_succ, List.getElem_cons_zero, List.setIfInBounds_toArray, List.set_cons_succ, List.set_cons_zero]
  refine wpAnyE_take (i := 3) (v := ?vqk73) rfl (by decide +kernel) (fun _ _ _ h => h) (Or.inl ⟨by kernel_rfl, ?hqk73⟩) (by assumption) ?rqk73
  case hqk73 =>
    intro wS hSw
    obtain ⟨h0, h1, h2, h3, h4, h5⟩ := hSw
    go_simp
    try with_reducible rfl
  try simp only [Act.put, List.getElem_toArray, List.getElem_cons_succ, List.getElem_cons_zero, List.setIfInBounds_toArray, List.set_cons_succ, List.set_cons_zero]
  refine wpAnyE_take (i := 4) (v := ?vqk74) rfl (by decide +kernel) (fun _ _ _ h => h) (Or.inl ⟨by kernel_rfl, ?hqk74⟩) (by assumption) ?rqk74
  case hqk74 =>
    intro wS hSw
    obtain ⟨h0, h1, h2, h3, h4, h5⟩ := hSw
    go_simp
    try with_reducible rfl
  try simp only [Act.put, List.getElem_toArray, List.getElem_cons_succ, List.getElem_cons_zero, List.setIfInBounds_toArray, List.set_cons_succ, List.set_cons_zero]
  refine wpAnyE_take (i := 5) (v := ?vqk75) rfl (by decide +kernel) (fun _ _ _ h => h) (Or.inl ⟨by kernel_rfl, ?hqk75⟩) (by assumption) ?rqk75
  case hqk75 =>
    intro wS hSw
    obtain ⟨h0, h1, h2, h3, h4, h5⟩ := hSw
    go_simp
    try with_reducible rfl
  try simp only [Act.put, List.getElem_toArray, List.getElem_cons_succ, List.getElem_cons_zero, List.setIfInBounds_toArray, List.set_cons_succ, List.set_cons_zero]
  refine wpAnyE_take (i := 6) (v := ?vqk76) rfl (by decide +kernel) (fun _ _ _ h => h) (Or.inl ⟨by kernel_rfl, ?hqk76⟩) (by assumption) ?rqk76
  case hqk76 =>
    intro wS hSw
    obtain ⟨h0, h1, h2, h3, h4, h5⟩ := hSw
    go_simp
    try with_reducible rfl
  try simp only [Act.put, List.getElem_toArray, List.getElem_cons_succ, List.getElem_cons_zero, List.setIfInBounds_toArray, List.set_cons_succ, List.set_cons_zero]
  refine wpAnyE_take (i := 7) (v := ?vqk77) rfl (by decide +kernel) (fun _ _ _ h => h) (Or.inl ⟨by kernel_rfl, ?hqk77⟩) (by assumption) ?rqk77
  case hqk77 =>
    intro wS hSw
    obtain ⟨h0, h1, h2, h3, h4, h5⟩ := hSw
    go_simp
    try with_reducible rfl
  try simp only [Act.put, List.getElem_toArray, List.getElem_cons_succ, List.getElem_cons_zero, List.setIfInBounds_toArray, List.set_cons_succ, List.set_cons_zero]
  refine wpAnyE_take (i := 8) (v := ?vqk78) rfl (by decide +kernel) (fun _ _ _ h => h) (Or.inl ⟨by kernel_rfl, ?hqk78⟩) (by assumption) ?rqk78
  case hqk78 =>
    intro wS hSw
    obtain ⟨h0, h1, h2, h3, h4, h5⟩ := hSw
    go_simp
    try with_reducible rfl
  try simp only [Act.put, List.getElem_toArray, List.getElem_cons_succ, List.getElem_cons_zero, List.setIfInBounds_toArray, List.set_cons_succ, List.set_cons_zero]
  refine wpAnyE_take (i := 9) (v := ?vqk79) rfl (by decide +kernel) (fun _ _ _ h => h) (Or.inl ⟨by kernel_rfl, ?hqk79⟩) (by assumption) ?rqk79
  case hqk79 =>
    intro wS hSw
    obtain ⟨h0, h1, h2, h3, h4, h5⟩ := hSw
    go_simp
    try with_reducible rfl
  try simp only [Act.put, List.getElem_toArray, List.getElem_cons_succ, List.getElem_cons_zero, List.setIfInBounds_toArray, List.set_cons_succ, List.set_cons_zero]
  refine wpAnyE_take (i := 10) (v := ?vqk710) rfl (by decide +kernel) (fun _ _ _ h => h) (Or.inl ⟨by kernel_rfl, ?hqk710⟩) (by assumption) ?rqk710
  case hqk710 =>
    intro wS hSw
    obtain ⟨h0, h1, h2, h3, h4, h5⟩ := hSw
    go_simp
    try with_reducible rfl
  try simp only [Act.put, List.getElem_toArray, List.getElem_cons_succ, List.getElem_cons_zero, List.setIfInBounds_toArray, List.set_cons_succ, List.set_cons_zero]
  refine wpAnyE_take (i := 11) (v := ?vqk711) rfl (by decide +kernel) (fun _ _ _ h => h) (Or.inl ⟨by kernel_rfl, ?hqk711⟩) (by assumption) ?rqk711
  case hqk711 =>
    intro wS hSw
    obtain ⟨h0, h1, h2, h3, h4, h5⟩ := hSw
    go_simp
    try with_reducible rfl
  try simp only [Act.put, List.getElem_toArray, List.getElem_cons_succ, List.getElem_cons_zero, List.setIfInBounds_toArray, List.set_cons_succ, List.set_cons_zero]
  refine wpAnyE_take (i := 12) (v := ?vqk712) rfl (by decide +kernel) (fun _ _ _ h => h) (Or.inl ⟨by kernel_rfl, ?hqk712⟩) (by assumption) ?rqk712
  case hqk712 =>
    intro wS hSw
    obtain ⟨h0, h1, h2, h3, h4, h5⟩ := hSw
    go_simp
    try with_reducible rfl
  try simp only [Act.put, List.getElem_toArray, List.getElem_cons_succ, List.getElem_cons_zero, List.setIfInBounds_toArray, List.set_cons_succ, List.set_cons_zero]
  refine wpAnyE_ready (rs := [13]) (by kernel_rfl) (by simp) ?_
  refine AllReadyE.cons (i := 13) rfl (by decide) (fun K hK => ?_) AllReadyE.nil
  go_simp
  have B1 := Lib.hid (E0.out.drew.alloc (.cells #[.int .i64 x, .int .i64 y] 3))
  refine hK.out _ _ ⟨B1.out.cell 0, B1.out.cell 1, B1.out.cell 2, B1.out.cell 3, B1.out.cell 4, B1.out.cell 5⟩ (fun hHeld => ?_)
  clear hK K
  try simp only [Act.put, List.getElem_toArray, List.getElem_cons_succ, List.getElem_cons_zero, List.setIfInBounds_toArray, List.set_cons_succ, List.set_cons_zero]
  refine wpAnyE_ready (rs := [14]) (by kernel_rfl) (by simp) ?_
  refine AllReadyE.cons (i := 14) rfl (by decide) (fun K hK => ?_) AllReadyE.nil
  go_simp
  refine (G3.out _ _ rfl).mono ?_
  rintro e w' ⟨rfl, rfl⟩
  go_simp
  refine hK.out _ _ ⟨B1.out.cell 0, B1.out.cell 1, B1.out.cell 2, B1.out.cell 3, B1.out.cell 4, B1.out.cell 5⟩ (fun hHeld => ?_)
  clear hK K
  try simp only [Act.put, List.getElem_toArray, List.getElem_cons_succ, List.getElem_cons_zero, List.setIfInBounds_toArray, List.set_cons_succ, List.set_cons_zero]
  refine wpAnyE_take (i := 15) (v := ?vqk715) rfl (by decide +kernel) (fun _ _ _ h => h) (Or.inl ⟨by kernel_rfl, ?hqk715⟩) (by assumption) ?rqk715
  case hqk715 =>
    intro wS hSw
    obtain ⟨h0, h1, h2, h3, h4, h5⟩ := hSw
    go_simp
    try with_reducible rfl
  try simp only [Act.put, List.getElem_toArray, List.getElem_cons_succ, List.getElem_cons_zero, List.setIfInBounds_toArray, List.set_cons_succ, List.set_cons_zero]
  refine wpAnyE_take (i := 16) (v := ?vqk716) rfl (by decide +kernel) (fun _ _ _ h => h) (Or.inl ⟨by kernel_rfl, ?hqk716⟩) (by assumption) ?rqk716
  case hqk716 =>
    intro wS hSw
    obtain ⟨h0, h1, h2, h3, h4, h5⟩ := hSw
    go_simp
    try with_reducible rfl
  try simp only [Act.put, List.getElem_toArray, List.getElem_cons_succ, List.getElem_cons_zero, List.setIfInBounds_toArray, List.set_cons_succ, List.set_cons_zero]
  refine wpAnyE_take (i := 17) (v := ?vqk717) rfl (by decide +kernel) (fun _ _ _ h => h) (Or.inl ⟨by kernel_rfl, ?hqk717⟩) (by assumption) ?rqk717
  case hqk717 =>
    intro wS hSw
    obtain ⟨h0, h1, h2, h3, h4, h5⟩ := hSw
    go_simp
    try with_reducible rfl
  try simp only [Act.put, List.getElem_toArray, List.getElem_cons_succ, List.getElem_cons_zero, List.setIfInBounds_toArray, List.set_cons_succ, List.set_cons_zero]
  refine wpAnyE_take (i := 18) (v := ?vqk718) rfl (by decide +kernel) (fun _ _ _ h => h) (Or.inl ⟨by kernel_rfl, ?hqk718⟩) (by assumption) ?rqk718
  case hqk718 =>
    intro wS hSw
    obtain ⟨h0, h1, h2, h3, h4, h5⟩ := hSw
    go_simp
    try with_reducible rfl
  try simp only [Act.put, List.getElem_toArray, List.getElem_cons_succ, List.getElem_cons_zero, List.setIfInBounds_toArray, List.set_cons_succ, List.set_cons_zero]
  refine wpAnyE_take (i := 19) (v := ?vqk719) rfl (by decide +kernel) (fun _ _ _ h => h) (Or.inl ⟨by kernel_rfl, ?hqk719⟩) (by assumption) ?rqk719
  case hqk719 =>
    intro wS hSw
    obtain ⟨h0, h1, h2, h3, h4, h5⟩ := hSw
    go_simp
    try with_reducible rfl
  try simp only [Act.put, List.getElem_toArray, List.getElem_cons_succ, List.getElem_cons_zero, List.setIfInBounds_toArray, List.set_cons_succ, List.set_cons_zero]
  refine wpAnyE_take (i := 20) (v := ?vqk720) rfl (by decide +kernel) (fun _ _ _ h => h) (Or.inl ⟨by kernel_rfl, ?hqk720⟩) (by assumption) ?rqk720
  case hqk720 =>
    intro wS hSw
    obtain ⟨h0, h1, h2, h3, h4, h5⟩ := hSw
    go_simp
    try with_reducible rfl
  try simp only [Act.put, List.getElem_toArray, List.getElem_cons_succ, List.getElem_cons_zero, List.setIfInBounds_toArray, List.set_cons_succ, List.set_cons_zero]
  refine wpAnyE_take (i := 21) (v := ?vqk721) rfl (by decide +kernel) (fun _ _ _ h => h) (Or.inl ⟨by kernel_rfl, ?hqk721⟩) (by assumption) ?rqk721
  case hqk721 =>
    intro wS hSw
    obtain ⟨h0, h1, h2, h3, h4, h5⟩ := hSw
    go_simp
    try with_reducible rfl
  try simp only [Act.put, List.getElem_toArray, List.getElem_cons_succ, List.getElem_cons_zero, List.setIfInBounds_toArray, List.set_cons_succ, List.set_cons_zero]
  refine wpAnyE_take (i := 22) (v := ?vqk722) rfl (by decide +kernel) (fun _ _ _ h => h) (Or.inl ⟨by kernel_rfl, ?hqk722⟩) (by assumption) ?rqk722
  case hqk722 =>
    intro wS hSw
    obtain ⟨h0, h1, h2, h3, h4, h5⟩ := hSw
    go_simp
    try with_reducible rfl
  try simp only [Act.put, List.getElem_toArray, List.getElem_cons_succ, List.getElem_cons_zero, List.setIfInBounds_toArray, List.set_cons_succ, List.set_cons_zero]
  refine wpAnyE_take (i := 23) (v := ?vqk723) rfl (by decide +kernel) (fun _ _ _ h => h) (Or.inl ⟨by kernel_rfl, ?hqk723⟩) (by assumption) ?rqk723
  case hqk723 =>
    intro wS hSw
    obtain ⟨h0, h1, h2, h3, h4, h5⟩ := hSw
    go_simp
    try with_reducible rfl
  try simp only [Act.put, List.getElem_toArray, List.getElem_cons_succ, List.getElem_cons_zero, List.setIfInBounds_toArray, List.set_cons_succ, List.set_cons_zero]
  refine wpAnyE_take (i := 24) (v := ?vqk724) rfl (by decide +kernel) (fun _ _ _ h => h) (Or.inl ⟨by kernel_rfl, ?hqk724⟩) (by assumption) ?rqk724
  case hqk724 =>
    intro wS hSw
    obtain ⟨h0, h1, h2, h3, h4, h5⟩ := hSw
    go_simp
    try with_reducible rfl
  try simp only [Act.put, List.getElem_toArray, List.getElem_cons_succ, List.getElem_cons_zero, List.setIfInBounds_toArray, List.set_cons_succ, List.set_cons_zero]
  refine wpAnyE_take (i := 25) (v := ?vqk725) rfl (by decide +kernel) (fun _ _ _ h => h) (Or.inl ⟨by kernel_rfl, ?hqk725⟩) (by assumption) ?rqk725
  case hqk725 =>
    intro wS hSw
    obtain ⟨h0, h1, h2, h3, h4, h5⟩ := hSw
    go_simp
    try with_reducible rfl
  try simp only [Act.put, List.getElem_toArray, List.getElem_cons_succ, List.getElem_cons_zero, List.setIfInBounds_toArray, List.set_cons_succ, List.set_cons_zero]
  refine wpAnyE_take (i := 26) (v := ?vqk726) rfl (by decide +kernel) (fun _ _ _ h => h) (Or.inl ⟨by kernel_rfl, ?hqk726⟩) (by assumption) ?rqk726
  case hqk726 =>
    intro wS hSw
    obtain ⟨h0, h1, h2, h3, h4, h5⟩ := hSw
    go_simp
    try with_reducible rfl
  try simp only [Act.put, List.getElem_toArray, List.getElem_cons_succ, List.getElem_cons_zero, List.setIfInBounds_toArray, List.set_cons_succ, List.set_cons_zero]
  refine wpAnyE_take (i := 27) (v := ?vqk727) rfl (by decide +kernel) (fun _ _ _ h => h) (Or.inl ⟨by kernel_rfl, ?hqk727⟩) (by assumption) ?rqk727
  case hqk727 =>
    intro wS hSw
    obtain ⟨h0, h1, h2, h3, h4, h5⟩ := hSw
    go_simp
    try with_reducible rfl
  try simp only [Act.put, List.getElem_toArray, List.getElem_cons_succ, List.getElem_cons_zero, List.setIfInBounds_toArray, List.set_cons_succ, List.set_cons_zero]
  refine wpAnyE_take (i := 28) (v := ?vqk728) rfl (by decide +kernel) (fun _ _ _ h => h) (Or.inl ⟨by kernel_rfl, ?hqk728⟩) (by assumption) ?rqk728
  case hqk728 =>
    intro wS hSw
    obtain ⟨h0, h1, h2, h3, h4, h5⟩ := hSw
    go_simp
    try with_reducible rfl
  try simp only [Act.put, List.getElem_toArray, List.getElem_cons_succ, List.getElem_cons_zero, List.setIfInBounds_toArray, List.set_cons_succ, List.set_cons_zero]
  refine wpAnyE_take (i := 29) (v := ?vqk729) rfl (by decide +kernel) (fun _ _ _ h => h) (Or.inl ⟨by kernel_rfl, ?hqk729⟩) (by assumption) ?rqk729
  case hqk729 =>
    intro wS hSw
    obtain ⟨h0, h1, h2, h3, h4, h5⟩ := hSw
    go_simp
    try with_reducible rfl
  try simp only [Act.put, List.getElem_toArray, List.getElem_cons_succ, List.getElem_cons_zero, List.setIfInBounds_toArray, List.set_cons_succ, List.set_cons_zero]
  refine wpAnyE_take (i := 30) (v := ?vqk730) rfl (by decide +kernel) (fun _ _ _ h => h) (Or.inl ⟨by kernel_rfl, ?hqk730⟩) (by assumption) ?rqk730
  case hqk730 =>
    intro wS hSw
    obtain ⟨h0, h1, h2, h3, h4, h5⟩ := hSw
    go_simp
    try with_reducible rfl
  try simp only [Act.put, List.getElem_toArray, List.getElem_cons_succ, List.getElem_cons_zero, List.setIfInBounds_toArray, List.set_cons_succ, List.set_cons_zero]
  refine wpAnyE_take (i := 31) (v := ?vqk731) rfl (by decide +kernel) (fun _ _ _ h => h) (Or.inl ⟨by kernel_rfl, ?hqk731⟩) (by assumption) ?rqk731
  case hqk731 =>
    intro wS hSw
    obtain ⟨h0, h1, h2, h3, h4, h5⟩ := hSw
    go_simp
    try with_reducible rfl
  try simp only [Act.put, List.getElem_toArray, List.getElem_cons_succ, List.getElem_cons_zero, List.setIfInBounds_toArray, List.set_cons_succ, List.set_cons_zero]
  refine wpAnyE_take (i := 32) (v := ?vqk732) rfl (by decide +kernel) (fun _ _ _ h => h) (Or.inl ⟨by kernel_rfl, ?hqk732⟩) (by assumption) ?rqk732
  case hqk732 =>
    intro wS hSw
    obtain ⟨h0, h1, h2, h3, h4, h5⟩ := hSw
    go_simp
    try with_reducible rfl
  try simp only [Act.put, List.getElem_toArray, List.getElem_cons_succ, List.getElem_cons_zero, List.setIfInBounds_toArray, List.set_cons_succ, List.set_cons_zero]
  refine wpAnyE_take (i := 33) (v := ?vqk733) rfl (by decide +kernel) (fun _ _ _ h => h) (Or.inl ⟨by kernel_rfl, ?hqk733⟩) (by assumption) ?rqk733
  case hqk733 =>
    intro wS hSw
    obtain ⟨h0, h1, h2, h3, h4, h5⟩ := hSw
    go_simp
    try with_reducible rfl
  try simp only [Act.put, List.getElem_toArray, List.getElem_cons_succ, List.getElem_cons_zero, List.setIfInBounds_toArray, List.set_cons_succ, List.set_cons_zero]
  refine wpAnyE_take (i := 34) (v := ?vqk734) rfl (by decide +kernel) (fun _ _ _ h => h) (Or.inl ⟨by kernel_rfl, ?hqk734⟩) (by assumption) ?rqk734
  case hqk734 =>
    intro wS hSw
    obtain ⟨h0, h1, h2, h3, h4, h5⟩ := hSw
    go_simp
    try with_reducible rfl
  try simp only [Act.put, List.getElem_toArray, List.getElem_cons_succ, List.getElem_cons_zero, List.setIfInBounds_toArray, List.set_cons_succ, List.set_cons_zero]
  refine wpAnyE_take (i := 35) (v := ?vqk735) rfl (by decide +kernel) (fun _ _ _ h => h) (Or.inl ⟨by kernel_rfl, ?hqk735⟩) (by assumption) ?rqk735
  case hqk735 =>
    intro wS hSw
    obtain ⟨h0, h1, h2, h3, h4, h5⟩ := hSw
    go_simp
    try with_reducible rfl
  try simp only [Act.put, List.getElem_toArray, List.getElem_cons_succ, List.getElem_cons_zero, List.setIfInBounds_toArray, List.set_cons_succ, List.set_cons_zero]
  refine wpAnyE_take (i := 36) (v := ?vqk736) rfl (by decide +kernel) (fun _ _ _ h => h) (Or.inl ⟨by kernel_rfl, ?hqk736⟩) (by assumption) ?rqk736
  case hqk736 =>
    intro wS hSw
    obtain ⟨h0, h1, h2, h3, h4, h5⟩ := hSw
    go_simp
    try with_reducible rfl
  try simp only [Act.put, List.getElem_toArray, List.getElem_cons_succ, List.getElem_cons_zero, List.setIfInBounds_toArray, List.set_cons_succ, List.set_cons_zero]
  refine wpAnyE_take (i := 37) (v := ?vqk737) rfl (by decide +kernel) (fun _ _ _ h => h) (Or.inl ⟨by kernel_rfl, ?hqk737⟩) (by assumption) ?rqk737
  case hqk737 =>
    intro wS hSw
    obtain ⟨h0, h1, h2, h3, h4, h5⟩ := hSw
    go_simp
    try with_reducible rfl
  try simp only [Act.put, List.getElem_toArray, List.getElem_cons_succ, List.getElem_cons_zero, List.setIfInBounds_toArray, List.set_cons_succ, List.set_cons_zero]
  refine wpAnyE_take (i := 38) (v := ?vqk738) rfl (by decide +kernel) (fun _ _ _ h => h) (Or.inl ⟨by kernel_rfl, ?hqk738⟩) (by assumption) ?rqk738
  case hqk738 =>
    intro wS hSw
    obtain ⟨h0, h1, h2, h3, h4, h5⟩ := hSw
    go_simp
    try with_reducible rfl
  try simp only [Act.put, List.getElem_toArray, List.getElem_cons_succ, List.getElem_cons_zero, List.setIfInBounds_toArray, List.set_cons_succ, List.set_cons_zero]
  refine wpAnyE_take (i := 39) (v := ?vqk739) rfl (by decide +kernel) (fun _ _ _ h => h) (Or.inl ⟨by kernel_rfl, ?hqk739⟩) (by assumption) ?rqk739
  case hqk739 =>
    intro wS hSw
    obtain ⟨h0, h1, h2, h3, h4, h5⟩ := hSw
    go_simp
    try with_reducible rfl
  try simp only [Act.put, List.getElem_toArray, List.getElem_cons_succ, List.getElem_cons_zero, List.setIfInBounds_toArray, List.set_cons_succ, List.set_cons_zero]
  refine wpAnyE_take (i := 40) (v := ?vqk740) rfl (by decide +kernel) (fun _ _ _ h => h) (Or.inl ⟨by kernel_rfl, ?hqk740⟩) (by assumption) ?rqk740
  case hqk740 =>
    intro wS hSw
    obtain ⟨h0, h1, h2, h3, h4, h5⟩ := hSw
    go_simp
    try with_reducible rfl
  try simp only [Act.put, List.getElem_toArray, List.getElem_cons_succ, List.getElem_cons_zero, List.setIfInBounds_toArray, List.set_cons_succ, List.set_cons_zero]
  refine wpAnyE_take (i := 41) (v := ?vqk741) rfl (by decide +kernel) (fun _ _ _ h => h) (Or.inl ⟨by kernel_rfl, ?hqk741⟩) (by assumption) ?rqk741
  case hqk741 =>
    intro wS hSw
    obtain ⟨h0, h1, h2, h3, h4, h5⟩ := hSw
    go_simp
    try with_reducible rfl
  try simp only [Act.put, List.getElem_toArray, List.getElem_cons_succ, List.getElem_cons_zero, List.setIfInBounds_toArray, List.set_cons_succ, List.set_cons_zero]
  refine wpAnyE_take (i := 42) (v := undef) rfl (by decide +kernel) (fun _ _ _ h => h) (Or.inr ⟨by kernel_rfl, rfl⟩) (by assumption) ?rqk742
  try simp only [Act.put, List.getElem_toArray, List.getElem_cons_succ, List.getElem_cons_zero, List.setIfInBounds_toArray, List.set_cons_succ, List.set_cons_zero]
  refine wpAnyE_take (i := 43) (v := undef) rfl (by decide +kernel) (fun _ _ _ h => h) (Or.inr ⟨by kernel_rfl, rfl⟩) (by assumption) ?rqk743
  try simp only [Act.put, List.getElem_toArray, List.getElem_cons_succ, List.getElem_cons_zero, List.setIfInBounds_toArray, List.set_cons_succ, List.set_cons_zero]
  refine wpAnyE_take (i := 44) (v := undef) rfl (by decide +kernel) (fun _ _ _ h => h) (Or.inr ⟨by kernel_rfl, rfl⟩) (by assumption) ?rqk744
  try simp only [Act.put, List.getElem_toArray, List.getElem_cons_succ, List.getElem_cons_zero, List.setIfInBounds_toArray, List.set_cons_succ, List.set_cons_zero]
  refine wpAnyE_take (i := 45) (v := undef) rfl (by decide +kernel) (fun _ _ _ h => h) (Or.inr ⟨by kernel_rfl, rfl⟩) (by assumption) ?rqk745
  try simp only [Act.put, List.getElem_toArray, List.getElem_cons_succ, List.getElem_cons_zero, List.setIfInBounds_toArray, List.set_cons_succ, List.set_cons_zero]
  refine wpAnyE_take (i := 46) (v := undef) rfl (by decide +kernel) (fun _ _ _ h => h) (Or.inr ⟨by kernel_rfl, rfl⟩) (by assumption) ?rqk746
  try simp only [Act.put, List.getElem_toArray, List.getElem_cons_succ, List.getElem_cons_zero, List.setIfInBounds_toArray, List.set_cons_succ, List.set_cons_zero]
  refine wpAnyE_take (i := 47) (v := undef) rfl (by decide +kernel) (fun _ _ _ h => h) (Or.inr ⟨by kernel_rfl, rfl⟩) (by assumption) ?rqk747
  try simp only [Act.put, List.getElem_toArray, List.getElem_cons_succ, List.getElem_cons_zero, List.setIfInBounds_toArray, List.set_cons_succ, List.set_cons_zero]
  refine wpAnyE_ready (rs := [48]) (by kernel_rfl) (by simp) ?_
  refine AllReadyE.cons (i := 48) rfl (by decide) (fun K hK => ?_) AllReadyE.nil
  go_simp
  refine hK.out _ _ ⟨B1.out.cell 0, B1.out.cell 1, B1.out.cell 2, B1.out.cell 3, B1.out.cell 4, B1.out.cell 5⟩ (fun hHeld => ?_)
  clear hK K
  try simp only [Act.put, List.getElem_toArray, List.getElem_cons_succ, List.getElem_cons_zero, List.setIfInBounds_toArray, List.set_cons_succ, List.set_cons_zero]
  refine wpAnyE_take (i := 49) (v := undef) rfl (by decide +kernel) (fun _ _ _ h => h) (Or.inr ⟨by kernel_rfl, rfl⟩) (by assumption) ?rqk749
  try simp only [Act.put, List.getElem_toArray, List.getElem_cons_succ, List.getElem_cons_zero, List.setIfInBounds_toArray, List.set_cons_succ, List.set_cons_zero]
  refine wpAnyE_take (i := 50) (v := ?vqk750) rfl (by decide +kernel) (fun _ _ _ h => h) (Or.inl ⟨by kernel_rfl, ?hqk750⟩) (by assumption) ?rqk750
  case hqk750 =>
    intro wS hSw
    obtain ⟨h0, h1, h2, h3, h4, h5⟩ := hSw
    go_simp
    try with_reducible rfl
  try simp only [Act.put, List.getElem_toArray, List.getElem_cons_succ, List.getElem_cons_zero, List.setIfInBounds_toArray, List.set_cons_succ, List.set_cons_zero]
  refine wpAnyE_ready (rs := [51]) (by kernel_rfl) (by simp) ?_
  refine AllReadyE.last (i := 51) rfl rfl (fun K hK => ?_)
  go_simp
  refine hK.out _ _ ?_
  clear hK K
  try simp only [Act.put, List.getElem_toArray, List.getElem_cons_succ, List.getElem_cons_zero, List.setIfInBounds_toArray, List.set_cons_succ, List.set_cons_zero]
  refine wpAnyE_done (by kernel_rfl) ?_ _
  try simp only [List.getElem_toArray, List.getElem_cons_succ, List.getElem_cons_zero, List.setIfInBounds_toArray, List.set_cons_succ, List.set_cons_zero]
  go_wp2_with fail
  go_ret
  exact ⟨rfl, B1.out.1⟩

set_option maxRecDepth 100000 in
set_option maxHeartbeats 8000000 in
theorem valid8 (i s x y h l : Int) (w : World) (g1 : decide (1 ≤ i) = true) (g2 : decide (i ≤ 999) = true) (g3 : pB x y = true) (g4 : decide (1 ≤ h) = true) (g5 : decide (h ≤ 9999) = true) (g6 : decide (0 ≤ l) = true) (g7 : decide (l ≤ 3) = true) (g8 : (s != 0) = true) (g9 : (s == sw h l) = false) :
    Calls Tryz.prog 10 #[.agg #[.int .i64 i, .int .i64 s, .int .i64 x, .int .i64 y, .int .i64 h, .int .i64 l]] w fun e w' => e = .returned (.bool false) ∧ Below w.heap.size w w' := by
  have E0 := Lib.hid (newS 25 #[.int .i64 i, .int .i64 s, .int .i64 x, .int .i64 y, .int .i64 h, .int .i64 l] w)
  have G3 := Lib.hid (show ∀ (W : World) (b : Nat) (hb : W.heap.size = b), Calls Tryz.prog 35 #[.func (.func 36) #[] #[], .slice (some ⟨b, 0, none⟩) 2 2] (W.alloc (.cells #[.int .i64 x, .int .i64 y] 3)).drew (fun e w' => e = .returned (.bool (pB x y)) ∧ (W.alloc (.cells #[.int .i64 x, .int .i64 y] 3)).drew = w') from fun W b hb => posj.areAll_new x y W.drew b hb)
  have G9 := Lib.hid (fun w => stateWith h l w)
  rw [g3] at G3
  clear g3
  generalize sw h l = sv at *
  go_enter Tryz.func10, Tryz.ntmps10
  go_upto_region 1 with fail
  generalize w.alloc (.cells #[.int .i64 i, .int .i64 s, .int .i64 x, .int .i64 y, .int .i64 h, .int .i64 l] 25) = W0 at *
  have HS := Lib.hid (show World.cell? W0.drew ⟨w.heap.size, 0, none⟩ = some (.int .i64 i) ∧ World.cell? W0.drew ⟨w.heap.size, 1, none⟩ = some (.int .i64 s) ∧ World.cell? W0.drew ⟨w.heap.size, 2, none⟩ = some (.int .i64 x) ∧ World.cell? W0.drew ⟨w.heap.size, 3, none⟩ = some (.int .i64 y) ∧ World.cell? W0.drew ⟨w.heap.size, 4, none⟩ = some (.int .i64 h) ∧ World.cell? W0.drew ⟨w.heap.size, 5, none⟩ = some (.int .i64 l) from ⟨E0.out.drew.cell 0, E0.out.drew.cell 1, E0.out.drew.cell 2, E0.out.drew.cell 3, E0.out.drew.cell 4, E0.out.drew.cell 5⟩)
  refine wp_region_tail (S := fun w' => World.cell? w' ⟨w.heap.size, 0, none⟩ = some (.int .i64 i) ∧ World.cell? w' ⟨w.heap.size, 1, none⟩ = some (.int .i64 s) ∧ World.cell? w' ⟨w.heap.size, 2, none⟩ = some (.int .i64 x) ∧ World.cell? w' ⟨w.heap.size, 3, none⟩ = some (.int .i64 y) ∧ World.cell? w' ⟨w.heap.size, 4, none⟩ = some (.int .i64 h) ∧ World.cell? w' ⟨w.heap.size, 5, none⟩ = some (.int .i64 l)) 51 (by kernel_rfl) HS.out (fun hHeld => ?_)
  try simp only [Act.put, List.getElem_toArray, List.getElem_cons_succ, List.getElem_cons_zero, List.setIfInBounds_toArray, List.set_cons_succ, List.set_cons_zero]
  refine wpAnyE_take (i := 0) (v := ?vqk80) rfl (by decide +kernel) (fun _ _ _ h => h) (Or.inl ⟨by kernel_rfl, ?hqk80⟩) (by assumption) ?rqk80
  case hqk80 =>
    intro wS hSw
    obtain ⟨h0, h1, h2, h3, h4, h5⟩ := hSw
    go_simp
    try with_reducible rfl
  try simp only [Act.put, List.getElem_toArray, List.getElem_cons_succ, List.getElem_cons_zero, List.setIfInBounds_toArray, List.set_cons_succ, List.set_cons_zero]
  refine wpAnyE_take (i := 1) (v := ?vqk81) rfl (by decide +kernel) (fun _ _ _ h => h) (Or.inl ⟨by kernel_rfl, ?hqk81⟩) (by assumption) ?rqk81
  case hqk81 =>
    intro wS hSw
    obtain ⟨h0, h1, h2, h3, h4, h5⟩ := hSw
    go_simp
    try with_reducible rfl
  try simp only [Act.put, List.getElem_toArray, List.getElem_cons_succ, List.getElem_cons_zero, List.setIfInBounds_toArray, List.set_cons_succ, List.set_cons_zero]
  refine wpAnyE_take (i := 2) (v := ?vqk82) rfl (by decide +kernel) (fun _ _ _ h => h) (Or.inl ⟨by kernel_rfl, ?hqk82⟩) (by assumption) ?rqk82
  case hqk82 =>
    intro wS hSw
    obtain ⟨h0, h1, h2, h3, h4, h5⟩ := hSw
    go_simp
    try with_reducible rfl
  try simp only [Act.put, List.getElem_toArray, List.getElem_cons_succ, List.getElem_cons_zero, List.setIfInBounds_toArray, List.set_cons_succ, List.set_cons_zero]
  refine wpAnyE_take (i := 3) (v := ?vqk83) rfl (by decide +kernel) (fun _ _ _ h => h) (Or.inl ⟨by kernel_rfl, ?hqk83⟩) (by assumption) ?rqk83
  case hqk83 =>
    intro wS hSw
    obtain ⟨h0, h1, h2, h3, h4, h5⟩ := hSw
    go_simp
    try with_reducible rfl
  try simp only [Act.put, List.getElem_toArray, List.getElem_cons_succ, List.getElem_cons_zero, List.setIfInBounds_toArray, List.set_cons_succ, List.set_cons_zero]
  refine wpAnyE_take (i := 4) (v := ?vqk84) rfl (by decide +kernel) (fun _ _ _ h => h) (Or.inl ⟨by kernel_rfl, ?hqk84⟩) (by assumption) ?rqk84
  case hqk84 =>
    intro wS hSw
    obtain ⟨h0, h1, h2, h3, h4, h5⟩ := hSw
    go_simp
    try with_reducible rfl
  try simp only [Act.put, List.getElem_toArray, List.getElem_cons_succ, List.getElem_cons_zero, List.setIfInBounds_toArray, List.set_cons_succ, List.set_cons_zero]
  refine wpAnyE_take (i := 5) (v := ?vqk85) rfl (by decide +kernel) (fun _ _ _ h => h) (Or.inl ⟨by kernel_rfl, ?hqk85⟩) (by assumption) ?rqk85
  case hqk85 =>
    intro wS hSw
    obtain ⟨h0, h1, h2, h3, h4, h5⟩ := hSw
    go_simp
    try with_reducible rfl
  try simp only [Act.put, List.getElem_toArray, List.getElem_cons_succ, List.getElem_cons_zero, List.setIfInBounds_toArray, List.set_cons_succ, List.set_cons_zero]
  refine wpAnyE_take (i := 6) (v := ?vqk86) rfl (by decide +kernel) (fun _ _ _ h => h) (Or.inl ⟨by kernel_rfl, ?hqk86⟩) (by assumption) ?rqk86
  case hqk86 =>
    intro wS hSw
    obtain ⟨h0, h1, h2, h3, h4, h5⟩ := hSw
    go_simp
    try with_reducible rfl
  try simp only [Act.put, List.getElem_toArray, List.getElem_cons_succ, List.getElem_cons_zero, List.setIfInBounds_toArray, List.set_cons_succ, List.set_cons_zero]
  refine wpAnyE_take (i := 7) (v := ?vqk87) rfl (by decide +kernel) (fun _ _ _ h => h) (Or.inl ⟨by kernel_rfl, ?hqk87⟩) (by assumption) ?rqk87
  case hqk87 =>
    intro wS hSw
    obtain ⟨h0, h1, h2, h3, h4, h5⟩ := hSw
    go_simp
    try with_reducible rfl
  try simp only [Act.put, List.getElem_toArray, List.getElem_cons_succ, List.getElem_cons_zero, List.setIfInBounds_toArray, List.set_cons_succ, List.set_cons_zero]
  refine wpAnyE_take (i := 8) (v := ?vqk88) rfl (by decide +kernel) (fun _ _ _ h => h) (Or.inl ⟨by kernel_rfl, ?hqk88⟩) (by assumption) ?rqk88
  case hqk88 =>
    intro wS hSw
    obtain ⟨h0, h1, h2, h3, h4, h5⟩ := hSw
    go_simp
    try with_reducible rfl
  try simp only [Act.put, List.getElem_toArray, List.getElem_cons_succ, List.getElem_cons_zero, List.setIfInBounds_toArray, List.set_cons_succ, List.set_cons_zero]
  refine wpAnyE_take (i := 9) (v := ?vqk89) rfl (by decide +kernel) (fun _ _ _ h => h) (Or.inl ⟨by kernel_rfl, ?hqk89⟩) (by assumption) ?rqk89
  case hqk89 =>
    intro wS hSw
    obtain ⟨h0, h1, h2, h3, h4, h5⟩ := hSw
    go_simp
    try with_reducible rfl
  try simp only [Act.put, List.getElem_toArray, List.getElem_cons_succ, List.getElem_cons_zero, List.setIfInBounds_toArray, List.set_cons_succ, List.set_cons_zero]
  refine wpAnyE_take (i := 10) (v := ?vqk810) rfl (by decide +kernel) (fun _ _ _ h => h) (Or.inl ⟨by kernel_rfl, ?hqk810⟩) (by assumption) ?rqk810
  case hqk810 =>
    intro wS hSw
    obtain ⟨h0, h1, h2, h3, h4, h5⟩ := hSw
    go_simp
    try with_reducible rfl
  try simp only [Act.put, List.getElem_toArray, List.getElem_cons_succ, List.getElem_cons_zero, List.setIfInBounds_toArray, List.set_cons_succ, List.set_cons_zero]
  refine wpAnyE_take (i := 11) (v := ?vqk811) rfl (by decide +kernel) (fun _ _ _ h => h) (Or.inl ⟨by kernel_rfl, ?hqk811⟩) (by assumption) ?rqk811
  case hqk811 =>
    intro wS hSw
    obtain ⟨h0, h1, h2, h3, h4, h5⟩ := hSw
    go_simp
    try with_reducible rfl
  try simp only [Act.put, List.getElem_toArray, List.getElem_cons_succ, List.getElem_cons_zero, List.setIfInBounds_toArray, List.set_cons_succ, List.set_cons_zero]
  refine wpAnyE_take (i := 12) (v := ?vqk812) rfl (by decide +kernel) (fun _ _ _ h => h) (Or.inl ⟨by kernel_rfl, ?hqk812⟩) (by assumption) ?rqk812
  case hqk812 =>
    intro wS hSw
    obtain ⟨h0, h1, h2, h3, h4, h5⟩ := hSw
    go_simp
    try with_reducible rfl
  try simp only [Act.put, List.getElem_toArray, List.getElem_cons_succ, List.getElem_cons_zero, List.setIfInBounds_toArray, List.set_cons_succ, List.set_cons_zero]
  refine wpAnyE_ready (rs := [13]) (by kernel_rfl) (by simp) ?_
  refine AllReadyE.cons (i := 13) rfl (by decide) (fun K hK => ?_) AllReadyE.nil
  go_simp
  have B1 := Lib.hid (E0.out.drew.alloc (.cells #[.int .i64 x, .int .i64 y] 3))
  refine hK.out _ _ ⟨B1.out.cell 0, B1.out.cell 1, B1.out.cell 2, B1.out.cell 3, B1.out.cell 4, B1.out.cell 5⟩ (fun hHeld => ?_)
  clear hK K
  try simp only [Act.put, List.getElem_toArray, List.getElem_cons_succ, List.getElem_cons_zero, List.setIfInBounds_toArray, List.set_cons_succ, List.set_cons_zero]
  refine wpAnyE_ready (rs := [14]) (by kernel_rfl) (by simp) ?_
  refine AllReadyE.cons (i := 14) rfl (by decide) (fun K hK => ?_) AllReadyE.nil
  go_simp
  refine (G3.out _ _ rfl).mono ?_
  rintro e w' ⟨rfl, rfl⟩
  go_simp
  refine hK.out _ _ ⟨B1.out.cell 0, B1.out.cell 1, B1.out.cell 2, B1.out.cell 3, B1.out.cell 4, B1.out.cell 5⟩ (fun hHeld => ?_)
  clear hK K
  try simp only [Act.put, List.getElem_toArray, List.getElem_cons_succ, List.getElem_cons_zero, List.setIfInBounds_toArray, List.set_cons_succ, List.set_cons_zero]
  refine wpAnyE_take (i := 15) (v := ?vqk815) rfl (by decide +kernel) (fun _ _ _ h => h) (Or.inl ⟨by kernel_rfl, ?hqk815⟩) (by assumption) ?rqk815
  case hqk815 =>
    intro wS hSw
    obtain ⟨h0, h1, h2, h3, h4, h5⟩ := hSw
    go_simp
    try with_reducible rfl
  try simp only [Act.put, List.getElem_toArray, List.getElem_cons_succ, List.getElem_cons_zero, List.setIfInBounds_toArray, List.set_cons_succ, List.set_cons_zero]
  refine wpAnyE_take (i := 16) (v := ?vqk816) rfl (by decide +kernel) (fun _ _ _ h => h) (Or.inl ⟨by kernel_rfl, ?hqk816⟩) (by assumption) ?rqk816
  case hqk816 =>
    intro wS hSw
    obtain ⟨h0, h1, h2, h3, h4, h5⟩ := hSw
    go_simp
    try with_reducible rfl
  try simp only [Act.put, List.getElem_toArray, List.getElem_cons_succ, List.getElem_cons_zero, List.setIfInBounds_toArray, List.set_cons_succ, List.set_cons_zero]
  refine wpAnyE_take (i := 17) (v := ?vqk817) rfl (by decide +kernel) (fun _ _ _ h => h) (Or.inl ⟨by kernel_rfl, ?hqk817⟩) (by assumption) ?rqk817
  case hqk817 =>
    intro wS hSw
    obtain ⟨h0, h1, h2, h3, h4, h5⟩ := hSw
    go_simp
    try with_reducible rfl
  try simp only [Act.put, List.getElem_toArray, List.getElem_cons_succ, List.getElem_cons_zero, List.setIfInBounds_toArray, List.set_cons_succ, List.set_cons_zero]
  refine wpAnyE_take (i := 18) (v := ?vqk818) rfl (by decide +kernel) (fun _ _ _ h => h) (Or.inl ⟨by kernel_rfl, ?hqk818⟩) (by assumption) ?rqk818
  case hqk818 =>
    intro wS hSw
    obtain ⟨h0, h1, h2, h3, h4, h5⟩ := hSw
    go_simp
    try with_reducible rfl
  try simp only [Act.put, List.getElem_toArray, List.getElem_cons_succ, List.getElem_cons_zero, List.setIfInBounds_toArray, List.set_cons_succ, List.set_cons_zero]
  refine wpAnyE_take (i := 19) (v := ?vqk819) rfl (by decide +kernel) (fun _ _ _ h => h) (Or.inl ⟨by kernel_rfl, ?hqk819⟩) (by assumption) ?rqk819
  case hqk819 =>
    intro wS hSw
    obtain ⟨h0, h1, h2, h3, h4, h5⟩ := hSw
    go_simp
    try with_reducible rfl
  try simp only [Act.put, List.getElem_toArray, List.getElem_cons_succ, List.getElem_cons_zero, List.setIfInBounds_toArray, List.set_cons_succ, List.set_cons_zero]
  refine wpAnyE_take (i := 20) (v := ?vqk820) rfl (by decide +kernel) (fun _ _ _ h => h) (Or.inl ⟨by kernel_rfl, ?hqk820⟩) (by assumption) ?rqk820
  case hqk820 =>
    intro wS hSw
    obtain ⟨h0, h1, h2, h3, h4, h5⟩ := hSw
    go_simp
    try with_reducible rfl
  try simp only [Act.put, List.getElem_toArray, List.getElem_cons_succ, List.getElem_cons_zero, List.setIfInBounds_toArray, List.set_cons_succ, List.set_cons_zero]
  refine wpAnyE_take (i := 21) (v := ?vqk821) rfl (by decide +kernel) (fun _ _ _ h => h) (Or.inl ⟨by kernel_rfl, ?hqk821⟩) (by assumption) ?rqk821
  case hqk821 =>
    intro wS hSw
    obtain ⟨h0, h1, h2, h3, h4, h5⟩ := hSw
    go_simp
    try with_reducible rfl
  try simp only [Act.put, List.getElem_toArray, List.getElem_cons_succ, List.getElem_cons_zero, List.setIfInBounds_toArray, List.set_cons_succ, List.set_cons_zero]
  refine wpAnyE_take (i := 22) (v := ?vqk822) rfl (by decide +kernel) (fun _ _ _ h => h) (Or.inl ⟨by kernel_rfl, ?hqk822⟩) (by assumption) ?rqk822
  case hqk822 =>
    intro wS hSw
    obtain ⟨h0, h1, h2, h3, h4, h5⟩ := hSw
    go_simp
    try with_reducible rfl
  try simp only [Act.put, List.getElem_toArray, List.getElem_cons_succ, List.getElem_cons_zero, List.setIfInBounds_toArray, List.set_cons_succ, List.set_cons_zero]
  refine wpAnyE_take (i := 23) (v := ?vqk823) rfl (by decide +kernel) (fun _ _ _ h => h) (Or.inl ⟨by kernel_rfl, ?hqk823⟩) (by assumption) ?rqk823
  case hqk823 =>
    intro wS hSw
    obtain ⟨h0, h1, h2, h3, h4, h5⟩ := hSw
    go_simp
    try with_reducible rfl
  try simp only [Act.put, List.getElem_toArray, List.getElem_cons_succ, List.getElem_cons_zero, List.setIfInBounds_toArray, List.set_cons_succ, List.set_cons_zero]
  refine wpAnyE_take (i := 24) (v := ?vqk824) rfl (by decide +kernel) (fun _ _ _ h => h) (Or.inl ⟨by kernel_rfl, ?hqk824⟩) (by assumption) ?rqk824
  case hqk824 =>
    intro wS hSw
    obtain ⟨h0, h1, h2, h3, h4, h5⟩ := hSw
    go_simp
    try with_reducible rfl
  try simp only [Act.put, List.getElem_toArray, List.getElem_cons_succ, List.getElem_cons_zero, List.setIfInBounds_toArray, List.set_cons_succ, List.set_cons_zero]
  refine wpAnyE_take (i := 25) (v := ?vqk825) rfl (by decide +kernel) (fun _ _ _ h => h) (Or.inl ⟨by kernel_rfl, ?hqk825⟩) (by assumption) ?rqk825
  case hqk825 =>
    intro wS hSw
    obtain ⟨h0, h1, h2, h3, h4, h5⟩ := hSw
    go_simp
    try with_reducible rfl
  try simp only [Act.put, List.getElem_toArray, List.getElem_cons_succ, List.getElem_cons_zero, List.setIfInBounds_toArray, List.set_cons_succ, List.set_cons_zero]
  refine wpAnyE_take (i := 26) (v := ?vqk826) rfl (by decide +kernel) (fun _ _ _ h => h) (Or.inl ⟨by kernel_rfl, ?hqk826⟩) (by assumption) ?rqk826
  case hqk826 =>
    intro wS hSw
    obtain ⟨h0, h1, h2, h3, h4, h5⟩ := hSw
    go_simp
    try with_reducible rfl
  try simp only [Act.put, List.getElem_toArray, List.getElem_cons_succ, List.getElem_cons_zero, List.setIfInBounds_toArray, List.set_cons_succ, List.set_cons_zero]
  refine wpAnyE_take (i := 27) (v := ?vqk827) rfl (by decide +kernel) (fun _ _ _ h => h) (Or.inl ⟨by kernel_rfl, ?hqk827⟩) (by assumption) ?rqk827
  case hqk827 =>
    intro wS hSw
    obtain ⟨h0, h1, h2, h3, h4, h5⟩ := hSw
    go_simp
    try with_reducible rfl
  try simp only [Act.put, List.getElem_toArray, List.getElem_cons_succ, List.getElem_cons_zero, List.setIfInBounds_toArray, List.set_cons_succ, List.set_cons_zero]
  refine wpAnyE_take (i := 28) (v := ?vqk828) rfl (by decide +kernel) (fun _ _ _ h => h) (Or.inl ⟨by kernel_rfl, ?hqk828⟩) (by assumption) ?rqk828
  case hqk828 =>
    intro wS hSw
    obtain ⟨h0, h1, h2, h3, h4, h5⟩ := hSw
    go_simp
    try with_reducible rfl
  try simp only [Act.put, List.getElem_toArray, List.getElem_cons_succ, List.getElem_cons_zero, List.setIfInBounds_toArray, List.set_cons_succ, List.set_cons_zero]
  refine wpAnyE_take (i := 29) (v := ?vqk829) rfl (by decide +kernel) (fun _ _ _ h => h) (Or.inl ⟨by kernel_rfl, ?hqk829⟩) (by assumption) ?rqk829
  case hqk829 =>
    intro wS hSw
    obtain ⟨h0, h1, h2, h3, h4, h5⟩ := hSw
    go_simp
    try with_reducible rfl
  try simp only [Act.put, List.getElem_toArray, List.getElem_cons_succ, List.getElem_cons_zero, List.setIfInBounds_toArray, List.set_cons_succ, List.set_cons_zero]
  refine wpAnyE_take (i := 30) (v := ?vqk830) rfl (by decide +kernel) (fun _ _ _ h => h) (Or.inl ⟨by kernel_rfl, ?hqk830⟩) (by assumption) ?rqk830
  case hqk830 =>
    intro wS hSw
    obtain ⟨h0, h1, h2, h3, h4, h5⟩ := hSw
    go_simp
    try with_reducible rfl
  try simp only [Act.put, List.getElem_toArray, List.getElem_cons_succ, List.getElem_cons_zero, List.setIfInBounds_toArray, List.set_cons_succ, List.set_cons_zero]
  refine wpAnyE_take (i := 31) (v := ?vqk831) rfl (by decide +kernel) (fun _ _ _ h => h) (Or.inl ⟨by kernel_rfl, ?hqk831⟩) (by assumption) ?rqk831
  case hqk831 =>
    intro wS hSw
    obtain ⟨h0, h1, h2, h3, h4, h5⟩ := hSw
    go_simp
    try with_reducible rfl
  try simp only [Act.put, List.getElem_toArray, List.getElem_cons_succ, List.getElem_cons_zero, List.setIfInBounds_toArray, List.set_cons_succ, List.set_cons_zero]
  refine wpAnyE_take (i := 32) (v := ?vqk832) rfl (by decide +kernel) (fun _ _ _ h => h) (Or.inl ⟨by kernel_rfl, ?hqk832⟩) (by assumption) ?rqk832
  case hqk832 =>
    intro wS hSw
    obtain ⟨h0, h1, h2, h3, h4, h5⟩ := hSw
    go_simp
    try with_reducible rfl
  try simp only [Act.put, List.getElem_toArray, List.getElem_cons_succ, List.getElem_cons_zero, List.setIfInBounds_toArray, List.set_cons_succ, List.set_cons_zero]
  refine wpAnyE_take (i := 33) (v := ?vqk833) rfl (by decide +kernel) (fun _ _ _ h => h) (Or.inl ⟨by kernel_rfl, ?hqk833⟩) (by assumption) ?rqk833
  case hqk833 =>
    intro wS hSw
    obtain ⟨h0, h1, h2, h3, h4, h5⟩ := hSw
    go_simp
    try with_reducible rfl
  try simp only [Act.put, List.getElem_toArray, List.getElem_cons_succ, List.getElem_cons_zero, List.setIfInBounds_toArray, List.set_cons_succ, List.set_cons_zero]
  refine wpAnyE_take (i := 34) (v := ?vqk834) rfl (by decide +kernel) (fun _ _ _ h => h) (Or.inl ⟨by kernel_rfl, ?hqk834⟩) (by assumption) ?rqk834
  case hqk834 =>
    intro wS hSw
    obtain ⟨h0, h1, h2, h3, h4, h5⟩ := hSw
    go_simp
    try with_reducible rfl
  try simp only [Act.put, List.getElem_toArray, List.getElem_cons_succ, List.getElem_cons_zero, List.setIfInBounds_toArray, List.set_cons_succ, List.set_cons_zero]
  refine wpAnyE_take (i := 35) (v := ?vqk835) rfl (by decide +kernel) (fun _ _ _ h => h) (Or.inl ⟨by kernel_rfl, ?hqk835⟩) (by assumption) ?rqk835
  case hqk835 =>
    intro wS hSw
    obtain ⟨h0, h1, h2, h3, h4, h5⟩ := hSw
    go_simp
    try with_reducible rfl
  try simp only [Act.put, List.getElem_toArray, List.getElem_cons_succ, List.getElem_cons_zero, List.setIfInBounds_toArray, List.set_cons_succ, List.set_cons_zero]
  refine wpAnyE_take (i := 36) (v := ?vqk836) rfl (by decide +kernel) (fun _ _ _ h => h) (Or.inl ⟨by kernel_rfl, ?hqk836⟩) (by assumption) ?rqk836
  case hqk836 =>
    intro wS hSw
    obtain ⟨h0, h1, h2, h3, h4, h5⟩ := hSw
    go_simp
    try with_reducible rfl
  try simp only [Act.put, List.getElem_toArray, List.getElem_cons_succ, List.getElem_cons_zero, List.setIfInBounds_toArray, List.set_cons_succ, List.set_cons_zero]
  refine wpAnyE_take (i := 37) (v := ?vqk837) rfl (by decide +kernel) (fun _ _ _ h => h) (Or.inl ⟨by kernel_rfl, ?hqk837⟩) (by assumption) ?rqk837
  case hqk837 =>
    intro wS hSw
    obtain ⟨h0, h1, h2, h3, h4, h5⟩ := hSw
    go_simp
    try with_reducible rfl
  try simp only [Act.put, List.getElem_toArray, List.getElem_cons_succ, List.getElem_cons_zero, List.setIfInBounds_toArray, List.set_cons_succ, List.set_cons_zero]
  refine wpAnyE_take (i := 38) (v := ?vqk838) rfl (by decide +kernel) (fun _ _ _ h => h) (Or.inl ⟨by kernel_rfl, ?hqk838⟩) (by assumption) ?rqk838
  case hqk838 =>
    intro wS hSw
    obtain ⟨h0, h1, h2, h3, h4, h5⟩ := hSw
    go_simp
    try with_reducible rfl
  try simp only [Act.put, List.getElem_toArray, List.getElem_cons_succ, List.getElem_cons_zero, List.setIfInBounds_toArray, List.set_cons_succ, List.set_cons_zero]
  refine wpAnyE_take (i := 39) (v := ?vqk839) rfl (by decide +kernel) (fun _ _ _ h => h) (Or.inl ⟨by kernel_rfl, ?hqk839⟩) (by assumption) ?rqk839
  case hqk839 =>
    intro wS hSw
    obtain ⟨h0, h1, h2, h3, h4, h5⟩ := hSw
    go_simp
    try with_reducible rfl
  try simp only [Act.put, List.getElem_toArray, List.getElem_cons_succ, List.getElem_cons_zero, List.setIfInBounds_toArray, List.set_cons_succ, List.set_cons_zero]
  refine wpAnyE_take (i := 40) (v := ?vqk840) rfl (by decide +kernel) (fun _ _ _ h => h) (Or.inl ⟨by kernel_rfl, ?hqk840⟩) (by assumption) ?rqk840
  case hqk840 =>
    intro wS hSw
    obtain ⟨h0, h1, h2, h3, h4, h5⟩ := hSw
    go_simp
    try with_reducible rfl
  try simp only [Act.put, List.getElem_toArray, List.getElem_cons_succ, List.getElem_cons_zero, List.setIfInBounds_toArray, List.set_cons_succ, List.set_cons_zero]
  refine wpAnyE_take (i := 41) (v := ?vqk841) rfl (by decide +kernel) (fun _ _ _ h => h) (Or.inl ⟨by kernel_rfl, ?hqk841⟩) (by assumption) ?rqk841
  case hqk841 =>
    intro wS hSw
    obtain ⟨h0, h1, h2, h3, h4, h5⟩ := hSw
    go_simp
    try with_reducible rfl
  try simp only [Act.put, List.getElem_toArray, List.getElem_cons_succ, List.getElem_cons_zero, List.setIfInBounds_toArray, List.set_cons_succ, List.set_cons_zero]
  refine wpAnyE_take (i := 42) (v := ?vqk842) rfl (by decide +kernel) (fun _ _ _ h => h) (Or.inl ⟨by kernel_rfl, ?hqk842⟩) (by assumption) ?rqk842
  case hqk842 =>
    intro wS hSw
    obtain ⟨h0, h1, h2, h3, h4, h5⟩ := hSw
    go_simp
    try with_reducible rfl
  try simp only [Act.put, List.getElem_toArray, List.getElem_cons_succ, List.getElem_cons_zero, List.setIfInBounds_toArray, List.set_cons_succ, List.set_cons_zero]
  refine wpAnyE_take (i := 43) (v := ?vqk843) rfl (by decide +kernel) (fun _ _ _ h => h) (Or.inl ⟨by kernel_rfl, ?hqk843⟩) (by assumption) ?rqk843
  case hqk843 =>
    intro wS hSw
    obtain ⟨h0, h1, h2, h3, h4, h5⟩ := hSw
    go_simp
    try with_reducible rfl
  try simp only [Act.put, List.getElem_toArray, List.getElem_cons_succ, List.getElem_cons_zero, List.setIfInBounds_toArray, List.set_cons_succ, List.set_cons_zero]
  refine wpAnyE_take (i := 44) (v := ?vqk844) rfl (by decide +kernel) (fun _ _ _ h => h) (Or.inl ⟨by kernel_rfl, ?hqk844⟩) (by assumption) ?rqk844
  case hqk844 =>
    intro wS hSw
    obtain ⟨h0, h1, h2, h3, h4, h5⟩ := hSw
    go_simp
    try with_reducible rfl
  try simp only [Act.put, List.getElem_toArray, List.getElem_cons_succ, List.getElem_cons_zero, List.setIfInBounds_toArray, List.set_cons_succ, List.set_cons_zero]
  refine wpAnyE_take (i := 45) (v := ?vqk845) rfl (by decide +kernel) (fun _ _ _ h => h) (Or.inl ⟨by kernel_rfl, ?hqk845⟩) (by assumption) ?rqk845
  case hqk845 =>
    intro wS hSw
    obtain ⟨h0, h1, h2, h3, h4, h5⟩ := hSw
    go_simp
    try with_reducible rfl
  try simp only [Act.put, List.getElem_toArray, List.getElem_cons_succ, List.getElem_cons_zero, List.setIfInBounds_toArray, List.set_cons_succ, List.set_cons_zero]
  refine wpAnyE_take (i := 46) (v := ?vqk846) rfl (by decide +kernel) (fun _ _ _ h => h) (Or.inl ⟨by kernel_rfl, ?hqk846⟩) (by assumption) ?rqk846
  case hqk846 =>
    intro wS hSw
    obtain ⟨h0, h1, h2, h3, h4, h5⟩ := hSw
    go_simp
    try with_reducible rfl
  try simp only [Act.put, List.getElem_toArray, List.getElem_cons_succ, List.getElem_cons_zero, List.setIfInBounds_toArray, List.set_cons_succ, List.set_cons_zero]
  refine wpAnyE_take (i := 47) (v := ?vqk847) rfl (by decide +kernel) (fun _ _ _ h => h) (Or.inl ⟨by kernel_rfl, ?hqk847⟩) (by assumption) ?rqk847
  case hqk847 =>
    intro wS hSw
    obtain ⟨h0, h1, h2, h3, h4, h5⟩ := hSw
    go_simp
    try with_reducible rfl
  try simp only [Act.put, List.getElem_toArray, List.getElem_cons_succ, List.getElem_cons_zero, List.setIfInBounds_toArray, List.set_cons_succ, List.set_cons_zero]
  refine wpAnyE_ready (rs := [48]) (by kernel_rfl) (by simp) ?_
  refine AllReadyE.cons (i := 48) rfl (by decide) (fun K hK => ?_) AllReadyE.nil
  go_simp
  refine (G9.out _).mono ?_
  rintro e w' ⟨rfl, rfl⟩
  go_simp
  refine hK.out _ _ ⟨B1.out.cell 0, B1.out.cell 1, B1.out.cell 2, B1.out.cell 3, B1.out.cell 4, B1.out.cell 5⟩ (fun hHeld => ?_)
  clear hK K
  try simp only [Act.put, List.getElem_toArray, List.getElem_cons_succ, List.getElem_cons_zero, List.setIfInBounds_toArray, List.set_cons_succ, List.set_cons_zero]
  refine wpAnyE_take (i := 49) (v := ?vqk849) rfl (by decide +kernel) (fun _ _ _ h => h) (Or.inl ⟨by kernel_rfl, ?hqk849⟩) (by assumption) ?rqk849
  case hqk849 =>
    intro wS hSw
    obtain ⟨h0, h1, h2, h3, h4, h5⟩ := hSw
    go_simp
    try with_reducible rfl
  try simp only [Act.put, List.getElem_toArray, List.getElem_cons_succ, List.getElem_cons_zero, List.setIfInBounds_toArray, List.set_cons_succ, List.set_cons_zero]
  refine wpAnyE_take (i := 50) (v := ?vqk850) rfl (by decide +kernel) (fun _ _ _ h => h) (Or.inl ⟨by kernel_rfl, ?hqk850⟩) (by assumption) ?rqk850
  case hqk850 =>
    intro wS hSw
    obtain ⟨h0, h1, h2, h3, h4, h5⟩ := hSw
    go_simp
    try with_reducible rfl
  try simp only [Act.put, List.getElem_toArray, List.getElem_cons_succ, List.getElem_cons_zero, List.setIfInBounds_toArray, List.set_cons_succ, List.set_cons_zero]
  refine wpAnyE_ready (rs := [51]) (by kernel_rfl) (by simp) ?_
  refine AllReadyE.last (i := 51) rfl rfl (fun K hK => ?_)
  go_simp
  refine hK.out _ _ ?_
  clear hK K
  try simp only [Act.put, List.getElem_toArray, List.getElem_cons_succ, List.getElem_cons_zero, List.setIfInBounds_toArray, List.set_cons_succ, List.set_cons_zero]
  refine wpAnyE_done (by kernel_rfl) ?_ _
  try simp only [List.getElem_toArray, List.getElem_cons_succ, List.getElem_cons_zero, List.setIfInBounds_toArray, List.set_cons_succ, List.set_cons_zero]
  go_wp2_with fail
  go_ret
  exact ⟨rfl, B1.out.1⟩

set_option maxRecDepth 100000 in
set_option maxHeartbeats 8000000 in
theorem valid9 (i s x y h l : Int) (w : World) (g1 : decide (1 ≤ i) = true) (g2 : decide (i ≤ 999) = true) (g3 : pB x y = true) (g4 : decide (1 ≤ h) = true) (g5 : decide (h ≤ 9999) = true) (g6 : decide (0 ≤ l) = true) (g7 : decide (l ≤ 3) = true) (g8 : (s != 0) = true) (g9 : (s == sw h l) = true) :
    Calls Tryz.prog 10 #[.agg #[.int .i64 i, .int .i64 s, .int .i64 x, .int .i64 y, .int .i64 h, .int .i64 l]] w fun e w' => e = .returned (.bool true) ∧ Below w.heap.size w w' := by
  have E0 := Lib.hid (newS 25 #[.int .i64 i, .int .i64 s, .int .i64 x, .int .i64 y, .int .i64 h, .int .i64 l] w)
  have G3 := Lib.hid (show ∀ (W : World) (b : Nat) (hb : W.heap.size = b), Calls Tryz.prog 35 #[.func (.func 36) #[] #[], .slice (some ⟨b, 0, none⟩) 2 2] (W.alloc (.cells #[.int .i64 x, .int .i64 y] 3)).drew (fun e w' => e = .returned (.bool (pB x y)) ∧ (W.alloc (.cells #[.int .i64 x, .int .i64 y] 3)).drew = w') from fun W b hb => posj.areAll_new x y W.drew b hb)
  have G9 := Lib.hid (fun w => stateWith h l w)
  rw [g3] at G3
  clear g3
  generalize sw h l = sv at *
  go_enter Tryz.func10, Tryz.ntmps10
  go_upto_region 1 with fail
  generalize w.alloc (.cells #[.int .i64 i, .int .i64 s, .int .i64 x, .int .i64 y, .int .i64 h, .int .i64 l] 25) = W0 at *
  have HS := Lib.hid (show World.cell? W0.drew ⟨w.heap.size, 0, none⟩ = some (.int .i64 i) ∧ World.cell? W0.drew ⟨w.heap.size, 1, none⟩ = some (.int .i64 s) ∧ World.cell? W0.drew ⟨w.heap.size, 2, none⟩ = some (.int .i64 x) ∧ World.cell? W0.drew ⟨w.heap.size, 3, none⟩ = some (.int .i64 y) ∧ World.cell? W0.drew ⟨w.heap.size, 4, none⟩ = some (.int .i64 h) ∧ World.cell? W0.drew ⟨w.heap.size, 5, none⟩ = some (.int .i64 l) from ⟨E0.out.drew.cell 0, E0.out.drew.cell 1, E0.out.drew.cell 2, E0.out.drew.cell 3, E0.out.drew.cell 4, E0.out.drew.cell 5⟩)
  refine wp_region_tail (S := fun w' => World.cell? w' ⟨w.heap.size, 0, none⟩ = some (.int .i64 i) ∧ World.cell? w' ⟨w.heap.size, 1, none⟩ = some (.int .i64 s) ∧ World.cell? w' ⟨w.heap.size, 2, none⟩ = some (.int .i64 x) ∧ World.cell? w' ⟨w.heap.size, 3, none⟩ = some (.int .i64 y) ∧ World.cell? w' ⟨w.heap.size, 4, none⟩ = some (.int .i64 h) ∧ World.cell? w' ⟨w.heap.size, 5, none⟩ = some (.int .i64 l)) 51 (by kernel_rfl) HS.out (fun hHeld => ?_)
  try simp only [Act.put, List.getElem_toArray, List.getElem_cons_succ, List.getElem_cons_zero, List.setIfInBounds_toArray, List.set_cons_succ, List.set_cons_zero]
  refine wpAnyE_take (i := 0) (v := ?vqk90) rfl (by decide +kernel) (fun _ _ _ h => h) (Or.inl ⟨by kernel_rfl, ?hqk90⟩) (by assumption) ?rqk90
  case hqk90 =>
    intro wS hSw
    obtain ⟨h0, h1, h2, h3, h4, h5⟩ := hSw
    go_simp
    try with_reducible rfl
  try simp only [Act.put, List.getElem_toArray, List.getElem_cons_succ, List.getElem_cons_zero, List.setIfInBounds_toArray, List.set_cons_succ, List.set_cons_zero]
  refine wpAnyE_take (i := 1) (v := ?vqk91) rfl (by decide +kernel) (fun _ _ _ h => h) (Or.inl ⟨by kernel_rfl, ?hqk91⟩) (by assumption) ?rqk91
  case hqk91 =>
    intro wS hSw
    obtain ⟨h0, h1, h2, h3, h4, h5⟩ := hSw
    go_simp
    try with_reducible rfl
  try simp only [Act.put, List.getElem_toArray, List.getElem_cons_succ, List.getElem_cons_zero, List.setIfInBounds_toArray, List.set_cons_succ, List.set_cons_zero]
  refine wpAnyE_take (i := 2) (v := ?vqk92) rfl (by decide +kernel) (fun _ _ _ h => h) (Or.inl ⟨by kernel_rfl, ?hqk92⟩) (by assumption) ?rqk92
  case hqk92 =>
    intro wS hSw
    obtain ⟨h0, h1, h2, h3, h4, h5⟩ := hSw
    go_simp
    try with_reducible rfl
  try simp only [Act.put, List.getElem_toArray, List.getElem_cons_succ, List.getElem_cons_zero, List.setIfInBounds_toArray, List.set_cons_succ, List.set_cons_zero]
  refine wpAnyE_take (i := 3) (v := ?vqk93) rfl (by decide +kernel) (fun _ _ _ h => h) (Or.inl ⟨by kernel_rfl, ?hqk93⟩) (by assumption) ?rqk93
  case hqk93 =>
    intro wS hSw
    obtain ⟨h0, h1, h2, h3, h4, h5⟩ := hSw
    go_simp
    try with_reducible rfl
  try simp only [Act.put, List.getElem_toArray, List.getElem_cons_succ, List.getElem_cons_zero, List.setIfInBounds_toArray, List.set_cons_succ, List.set_cons_zero]
  refine wpAnyE_take (i := 4) (v := ?vqk94) rfl (by decide +kernel) (fun _ _ _ h => h) (Or.inl ⟨by kernel_rfl, ?hqk94⟩) (by assumption) ?rqk94
  case hqk94 =>
    intro wS hSw
    obtain ⟨h0, h1, h2, h3, h4, h5⟩ := hSw
    go_simp
    try with_reducible rfl
  try simp only [Act.put, List.getElem_toArray, List.getElem_cons_succ, List.getElem_cons_zero, List.setIfInBounds_toArray, List.set_cons_succ, List.set_cons_zero]
  refine wpAnyE_take (i := 5) (v := ?vqk95) rfl (by decide +kernel) (fun _ _ _ h => h) (Or.inl ⟨by kernel_rfl, ?hqk95⟩) (by assumption) ?rqk95
  case hqk95 =>
    intro wS hSw
    obtain ⟨h0, h1, h2, h3, h4, h5⟩ := hSw
    go_simp
    try with_reducible rfl
  try simp only [Act.put, List.getElem_toArray, List.getElem_cons_succ, List.getElem_cons_zero, List.setIfInBounds_toArray, List.set_cons_succ, List.set_cons_zero]
  refine wpAnyE_take (i := 6) (v := ?vqk96) rfl (by decide +kernel) (fun _ _ _ h => h) (Or.inl ⟨by kernel_rfl, ?hqk96⟩) (by assumption) ?rqk96
  case hqk96 =>
    intro wS hSw
    obtain ⟨h0, h1, h2, h3, h4, h5⟩ := hSw
    go_simp
    try with_reducible rfl
  try simp only [Act.put, List.getElem_toArray, List.getElem_cons_succ, List.getElem_cons_zero, List.setIfInBounds_toArray, List.set_cons_succ, List.set_cons_zero]
  refine wpAnyE_take (i := 7) (v := ?vqk97) rfl (by decide +kernel) (fun _ _ _ h => h) (Or.inl ⟨by kernel_rfl, ?hqk97⟩) (by assumption) ?rqk97
  case hqk97 =>
    intro wS hSw
    obtain ⟨h0, h1, h2, h3, h4, h5⟩ := hSw
    go_simp
    try with_reducible rfl
  try simp only [Act.put, List.getElem_toArray, List.getElem_cons_succ, List.getElem_cons_zero, List.setIfInBounds_toArray, List.set_cons_succ, List.set_cons_zero]
  refine wpAnyE_take (i := 8) (v := ?vqk98) rfl (by decide +kernel) (fun _ _ _ h => h) (Or.inl ⟨by kernel_rfl, ?hqk98⟩) (by assumption) ?rqk98
  case hqk98 =>
    intro wS hSw
    obtain ⟨h0, h1, h2, h3, h4, h5⟩ := hSw
    go_simp
    try with_reducible rfl
  try simp only [Act.put, List.getElem_toArray, List.getElem_cons_succ, List.getElem_cons_zero, List.setIfInBounds_toArray, List.set_cons_succ, List.set_cons_zero]
  refine wpAnyE_take (i := 9) (v := ?vqk99) rfl (by decide +kernel) (fun _ _ _ h => h) (Or.inl ⟨by kernel_rfl, ?hqk99⟩) (by assumption) ?rqk99
  case hqk99 =>
    intro wS hSw
    obtain ⟨h0, h1, h2, h3, h4, h5⟩ := hSw
    go_simp
    try with_reducible rfl
  try simp only [Act.put, List.getElem_toArray, List.getElem_cons_succ, List.getElem_cons_zero, List.setIfInBounds_toArray, List.set_cons_succ, List.set_cons_zero]
  refine wpAnyE_take (i := 10) (v := ?vqk910) rfl (by decide +kernel) (fun _ _ _ h => h) (Or.inl ⟨by kernel_rfl, ?hqk910⟩) (by assumption) ?rqk910
  case hqk910 =>
    intro wS hSw
    obtain ⟨h0, h1, h2, h3, h4, h5⟩ := hSw
    go_simp
    try with_reducible rfl
  try simp only [Act.put, List.getElem_toArray, List.getElem_cons_succ, List.getElem_cons_zero, List.setIfInBounds_toArray, List.set_cons_succ, List.set_cons_zero]
  refine wpAnyE_take (i := 11) (v := ?vqk911) rfl (by decide +kernel) (fun _ _ _ h => h) (Or.inl ⟨by kernel_rfl, ?hqk911⟩) (by assumption) ?rqk911
  case hqk911 =>
    intro wS hSw
    obtain ⟨h0, h1, h2, h3, h4, h5⟩ := hSw
    go_simp
    try with_reducible rfl
  try simp only [Act.put, List.getElem_toArray, List.getElem_cons_succ, List.getElem_cons_zero, List.setIfInBounds_toArray, List.set_cons_succ, List.set_cons_zero]
  refine wpAnyE_take (i := 12) (v := ?vqk912) rfl (by decide +kernel) (fun _ _ _ h => h) (Or.inl ⟨by kernel_rfl, ?hqk912⟩) (by assumption) ?rqk912
  case hqk912 =>
    intro wS hSw
    obtain ⟨h0, h1, h2, h3, h4, h5⟩ := hSw
    go_simp
    try with_reducible rfl
  try simp only [Act.put, List.getElem_toArray, List.getElem_cons_succ, List.getElem_cons_zero, List.setIfInBounds_toArray, List.set_cons_succ, List.set_cons_zero]
  refine wpAnyE_ready (rs := [13]) (by kernel_rfl) (by simp) ?_
  refine AllReadyE.cons (i := 13) rfl (by decide) (fun K hK => ?_) AllReadyE.nil
  go_simp
  have B1 := Lib.hid (E0.out.drew.alloc (.cells #[.int .i64 x, .int .i64 y] 3))
  refine hK.out _ _ ⟨B1.out.cell 0, B1.out.cell 1, B1.out.cell 2, B1.out.cell 3, B1.out.cell 4, B1.out.cell 5⟩ (fun hHeld => ?_)
  clear hK K
  try simp only [Act.put, List.getElem_toArray, List.getElem_cons_succ, List.getElem_cons_zero, List.setIfInBounds_toArray, List.set_cons_succ, List.set_cons_zero]
  refine wpAnyE_ready (rs := [14]) (by kernel_rfl) (by simp) ?_
  refine AllReadyE.cons (i := 14) rfl (by decide) (fun K hK => ?_) AllReadyE.nil
  go_simp
  refine (G3.out _ _ rfl).mono ?_
  rintro e w' ⟨rfl, rfl⟩
  go_simp
  refine hK.out _ _ ⟨B1.out.cell 0, B1.out.cell 1, B1.out.cell 2, B1.out.cell 3, B1.out.cell 4, B1.out.cell 5⟩ (fun hHeld => ?_)
  clear hK K
  try simp only [Act.put, List.getElem_toArray, List.getElem_cons_succ, List.getElem_cons_zero, List.setIfInBounds_toArray, List.set_cons_succ, List.set_cons_zero]
  refine wpAnyE_take (i := 15) (v := ?vqk915) rfl (by decide +kernel) (fun _ _ _ h => h) (Or.inl ⟨by kernel_rfl, ?hqk915⟩) (by assumption) ?rqk915
  case hqk915 =>
    intro wS hSw
    obtain ⟨h0, h1, h2, h3, h4, h5⟩ := hSw
    go_simp
    try with_reducible rfl
  try simp only [Act.put, List.getElem_toArray, List.getElem_cons_succ, List.getElem_cons_zero, List.setIfInBounds_toArray, List.set_cons_succ, List.set_cons_zero]
  refine wpAnyE_take (i := 16) (v := ?vqk916) rfl (by decide +kernel) (fun _ _ _ h => h) (Or.inl ⟨by kernel_rfl, ?hqk916⟩) (by assumption) ?rqk916
  case hqk916 =>
    intro wS hSw
    obtain ⟨h0, h1, h2, h3, h4, h5⟩ := hSw
    go_simp
    try with_reducible rfl
  try simp only [Act.put, List.getElem_toArray, List.getElem_cons_succ, List.getElem_cons_zero, List.setIfInBounds_toArray, List.set_cons_succ, List.set_cons_zero]
  refine wpAnyE_take (i := 17) (v := ?vqk917) rfl (by decide +kernel) (fun _ _ _ h => h) (Or.inl ⟨by kernel_rfl, ?hqk917⟩) (by assumption) ?rqk917
  case hqk917 =>
    intro wS hSw
    obtain ⟨h0, h1, h2, h3, h4, h5⟩ := hSw
    go_simp
    try with_reducible rfl
  try simp only [Act.put, List.getElem_toArray, List.getElem_cons_succ, List.getElem_cons_zero, List.setIfInBounds_toArray, List.set_cons_succ, List.set_cons_zero]
  refine wpAnyE_take (i := 18) (v := ?vqk918) rfl (by decide +kernel) (fun _ _ _ h => h) (Or.inl ⟨by kernel_rfl, ?hqk918⟩) (by assumption) ?rqk918
  case hqk918 =>
    intro wS hSw
    obtain ⟨h0, h1, h2, h3, h4, h5⟩ := hSw
    go_simp
    try with_reducible rfl
  try simp only [Act.put, List.getElem_toArray, List.getElem_cons_succ, List.getElem_cons_zero, List.setIfInBounds_toArray, List.set_cons_succ, List.set_cons_zero]
  refine wpAnyE_take (i := 19) (v := ?vqk919) rfl (by decide +kernel) (fun _ _ _ h => h) (Or.inl ⟨by kernel_rfl, ?hqk919⟩) (by assumption) ?rqk919
  case hqk919 =>
    intro wS hSw
    obtain ⟨h0, h1, h2, h3, h4, h5⟩ := hSw
    go_simp
    try with_reducible rfl
  try simp only [Act.put, List.getElem_toArray, List.getElem_cons_succ, List.getElem_cons_zero, List.setIfInBounds_toArray, List.set_cons_succ, List.set_cons_zero]
  refine wpAnyE_take (i := 20) (v := ?vqk920) rfl (by decide +kernel) (fun _ _ _ h => h) (Or.inl ⟨by kernel_rfl, ?hqk920⟩) (by assumption) ?rqk920
  case hqk920 =>
    intro wS hSw
    obtain ⟨h0, h1, h2, h3, h4, h5⟩ := hSw
    go_simp
    try with_reducible rfl
  try simp only [Act.put, List.getElem_toArray, List.getElem_cons_succ, List.getElem_cons_zero, List.setIfInBounds_toArray, List.set_cons_succ, List.set_cons_zero]
  refine wpAnyE_take (i := 21) (v := ?vqk921) rfl (by decide +kernel) (fun _ _ _ h => h) (Or.inl ⟨by kernel_rfl, ?hqk921⟩) (by assumption) ?rqk921
  case hqk921 =>
    intro wS hSw
    obtain ⟨h0, h1, h2, h3, h4, h5⟩ := hSw
    go_simp
    try with_reducible rfl
  try simp only [Act.put, List.getElem_toArray, List.getElem_cons_succ, List.getElem_cons_zero, List.setIfInBounds_toArray, List.set_cons_succ, List.set_cons_zero]
  refine wpAnyE_take (i := 22) (v := ?vqk922) rfl (by decide +kernel) (fun _ _ _ h => h) (Or.inl ⟨by kernel_rfl, ?hqk922⟩) (by assumption) ?rqk922
  case hqk922 =>
    intro wS hSw
    obtain ⟨h0, h1, h2, h3, h4, h5⟩ := hSw
    go_simp
    try with_reducible rfl
  try simp only [Act.put, List.getElem_toArray, List.getElem_cons_succ, List.getElem_cons_zero, List.setIfInBounds_toArray, List.set_cons_succ, List.set_cons_zero]
  refine wpAnyE_take (i := 23) (v := ?vqk923) rfl (by decide +kernel) (fun _ _ _ h => h) (Or.inl ⟨by kernel_rfl, ?hqk923⟩) (by assumption) ?rqk923
  case hqk923 =>
    intro wS hSw
    obtain ⟨h0, h1, h2, h3, h4, h5⟩ := hSw
    go_simp
    try with_reducible rfl
  try simp only [Act.put, List.getElem_toArray, List.getElem_cons_succ, List.getElem_cons_zero, List.setIfInBounds_toArray, List.set_cons_succ, List.set_cons_zero]
  refine wpAnyE_take (i := 24) (v := ?vqk924) rfl (by decide +kernel) (fun _ _ _ h => h) (Or.inl ⟨by kernel_rfl, ?hqk924⟩) (by assumption) ?rqk924
  case hqk924 =>
    intro wS hSw
    obtain ⟨h0, h1, h2, h3, h4, h5⟩ := hSw
    go_simp
    try with_reducible rfl
  try simp only [Act.put, List.getElem_toArray, List.getElem_cons_succ, List.getElem_cons_zero, List.setIfInBounds_toArray, List.set_cons_succ, List.set_cons_zero]
  refine wpAnyE_take (i := 25) (v := ?vqk925) rfl (by decide +kernel) (fun _ _ _ h => h) (Or.inl ⟨by kernel_rfl, ?hqk925⟩) (by assumption) ?rqk925
  case hqk925 =>
    intro wS hSw
    obtain ⟨h0, h1, h2, h3, h4, h5⟩ := hSw
    go_simp
    try with_reducible rfl
  try simp only [Act.put, List.getElem_toArray, List.getElem_cons_succ, List.getElem_cons_zero, List.setIfInBounds_toArray, List.set_cons_succ, List.set_cons_zero]
  refine wpAnyE_take (i := 26) (v := ?vqk926) rfl (by decide +kernel) (fun _ _ _ h => h) (Or.inl ⟨by kernel_rfl, ?hqk926⟩) (by assumption) ?rqk926
  case hqk926 =>
    intro wS hSw
    obtain ⟨h0, h1, h2, h3, h4, h5⟩ := hSw
    go_simp
    try with_reducible rfl
  try simp only [Act.put, List.getElem_toArray, List.getElem_cons_succ, List.getElem_cons_zero, List.setIfInBounds_toArray, List.set_cons_succ, List.set_cons_zero]
  refine wpAnyE_take (i := 27) (v := ?vqk927) rfl (by decide +kernel) (fun _ _ _ h => h) (Or.inl ⟨by kernel_rfl, ?hqk927⟩) (by assumption) ?rqk927
  case hqk927 =>
    intro wS hSw
    obtain ⟨h0, h1, h2, h3, h4, h5⟩ := hSw
    go_simp
    try with_reducible rfl
  try simp only [Act.put, List.getElem_toArray, List.getElem_cons_succ, List.getElem_cons_zero, List.setIfInBounds_toArray, List.set_cons_succ, List.set_cons_zero]
  refine wpAnyE_take (i := 28) (v := ?vqk928) rfl (by decide +kernel) (fun _ _ _ h => h) (Or.inl ⟨by kernel_rfl, ?hqk928⟩) (by assumption) ?rqk928
  case hqk928 =>
    intro wS hSw
    obtain ⟨h0, h1, h2, h3, h4, h5⟩ := hSw
    go_simp
    try with_reducible rfl
  try simp only [Act.put, List.getElem_toArray, List.getElem_cons_succ, List.getElem_cons_zero, List.setIfInBounds_toArray, List.set_cons_succ, List.set_cons_zero]
  refine wpAnyE_take (i := 29) (v := ?vqk929) rfl (by decide +kernel) (fun _ _ _ h => h) (Or.inl ⟨by kernel_rfl, ?hqk929⟩) (by assumption) ?rqk929
  case hqk929 =>
    intro wS hSw
    obtain ⟨h0, h1, h2, h3, h4, h5⟩ := hSw
    go_simp
    try with_reducible rfl
  try simp only [Act.put, List.getElem_toArray, List.getElem_cons_succ, List.getElem_cons_zero, List.setIfInBounds_toArray, List.set_cons_succ, List.set_cons_zero]
  refine wpAnyE_take (i := 30) (v := ?vqk930) rfl (by decide +kernel) (fun _ _ _ h => h) (Or.inl ⟨by kernel_rfl, ?hqk930⟩) (by assumption) ?rqk930
  case hqk930 =>
    intro wS hSw
    obtain ⟨h0, h1, h2, h3, h4, h5⟩ := hSw
    go_simp
    try with_reducible rfl
  try simp only [Act.put, List.getElem_toArray, List.getElem_cons_succ, List.getElem_cons_zero, List.setIfInBounds_toArray, List.set_cons_succ, List.set_cons_zero]
  refine wpAnyE_take (i := 31) (v := ?vqk931) rfl (by decide +kernel) (fun _ _ _ h => h) (Or.inl ⟨by kernel_rfl, ?hqk931⟩) (by assumption) ?rqk931
  case hqk931 =>
    intro wS hSw
    obtain ⟨h0, h1, h2, h3, h4, h5⟩ := hSw
    go_simp
    try with_reducible rfl
  try simp only [Act.put, List.getElem_toArray, List.getElem_cons_succ, List.getElem_cons_zero, List.setIfInBounds_toArray, List.set_cons_succ, List.set_cons_zero]
  refine wpAnyE_take (i := 32) (v := ?vqk932) rfl (by decide +kernel) (fun _ _ _ h => h) (Or.inl ⟨by kernel_rfl, ?hqk932⟩) (by assumption) ?rqk932
  case hqk932 =>
    intro wS hSw
    obtain ⟨h0, h1, h2, h3, h4, h5⟩ := hSw
    go_simp
    try with_reducible rfl
  try simp only [Act.put, List.getElem_toArray, List.getElem_cons_succ, List.getElem_cons_zero, List.setIfInBounds_toArray, List.set_cons_succ, List.set_cons_zero]
  refine wpAnyE_take (i := 33) (v := ?vqk933) rfl (by decide +kernel) (fun _ _ _ h => h) (Or.inl ⟨by kernel_rfl, ?hqk933⟩) (by assumption) ?rqk933
  case hqk933 =>
    intro wS hSw
    obtain ⟨h0, h1, h2, h3, h4, h5⟩ := hSw
    go_simp
    try with_reducible rfl
  try simp only [Act.put, List.getElem_toArray, List.getElem_cons_succ, List.getElem_cons_zero, List.setIfInBounds_toArray, List.set_cons_succ, List.set_cons_zero]
  refine wpAnyE_take (i := 34) (v := ?vqk934) rfl (by decide +kernel) (fun _ _ _ h => h) (Or.inl ⟨by kernel_rfl, ?hqk934⟩) (by assumption) ?rqk934
  case hqk934 =>
    intro wS hSw
    obtain ⟨h0, h1, h2, h3, h4, h5⟩ := hSw
    go_simp
    try with_reducible rfl
  try simp only [Act.put, List.getElem_toArray, List.getElem_cons_succ, List.getElem_cons_zero, List.setIfInBounds_toArray, List.set_cons_succ, List.set_cons_zero]
  refine wpAnyE_take (i := 35) (v := ?vqk935) rfl (by decide +kernel) (fun _ _ _ h => h) (Or.inl ⟨by kernel_rfl, ?hqk935⟩) (by assumption) ?rqk935
  case hqk935 =>
    intro wS hSw
    obtain ⟨h0, h1, h2, h3, h4, h5⟩ := hSw
    go_simp
    try with_reducible rfl
  try simp only [Act.put, List.getElem_toArray, List.getElem_cons_succ, List.getElem_cons_zero, List.setIfInBounds_toArray, List.set_cons_succ, List.set_cons_zero]
  refine wpAnyE_take (i := 36) (v := ?vqk936) rfl (by decide +kernel) (fun _ _ _ h => h) (Or.inl ⟨by kernel_rfl, ?hqk936⟩) (by assumption) ?rqk936
  case hqk936 =>
    intro wS hSw
    obtain ⟨h0, h1, h2, h3, h4, h5⟩ := hSw
    go_simp
    try with_reducible rfl
  try simp only [Act.put, List.getElem_toArray, List.getElem_cons_succ, List.getElem_cons_zero, List.setIfInBounds_toArray, List.set_cons_succ, List.set_cons_zero]
  refine wpAnyE_take (i := 37) (v := ?vqk937) rfl (by decide +kernel) (fun _ _ _ h => h) (Or.inl ⟨by kernel_rfl, ?hqk937⟩) (by assumption) ?rqk937
  case hqk937 =>
    intro wS hSw
    obtain ⟨h0, h1, h2, h3, h4, h5⟩ := hSw
    go_simp
    try with_reducible rfl
  try simp only [Act.put, List.getElem_toArray, List.getElem_cons_succ, List.getElem_cons_zero, List.setIfInBounds_toArray, List.set_cons_succ, List.set_cons_zero]
  refine wpAnyE_take (i := 38) (v := ?vqk938) rfl (by decide +kernel) (fun _ _ _ h => h) (Or.inl ⟨by kernel_rfl, ?hqk938⟩) (by assumption) ?rqk938
  case hqk938 =>
    intro wS hSw
    obtain ⟨h0, h1, h2, h3, h4, h5⟩ := hSw
    go_simp
    try with_reducible rfl
  try simp only [Act.put, List.getElem_toArray, List.getElem_cons_succ, List.getElem_cons_zero, List.setIfInBounds_toArray, List.set_cons_succ, List.set_cons_zero]
  refine wpAnyE_take (i := 39) (v := ?vqk939) rfl (by decide +kernel) (fun _ _ _ h => h) (Or.inl ⟨by kernel_rfl, ?hqk939⟩) (by assumption) ?rqk939
  case hqk939 =>
    intro wS hSw
    obtain ⟨h0, h1, h2, h3, h4, h5⟩ := hSw
    go_simp
    try with_reducible rfl
  try simp only [Act.put, List.getElem_toArray, List.getElem_cons_succ, List.getElem_cons_zero, List.setIfInBounds_toArray, List.set_cons_succ, List.set_cons_zero]
  refine wpAnyE_take (i := 40) (v := ?vqk940) rfl (by decide +kernel) (fun _ _ _ h => h) (Or.inl ⟨by kernel_rfl, ?hqk940⟩) (by assumption) ?rqk940
  case hqk940 =>
    intro wS hSw
    obtain ⟨h0, h1, h2, h3, h4, h5⟩ := hSw
    go_simp
    try with_reducible rfl
  try simp only [Act.put, List.getElem_toArray, List.getElem_cons_succ, List.getElem_cons_zero, List.setIfInBounds_toArray, List.set_cons_succ, List.set_cons_zero]
  refine wpAnyE_take (i := 41) (v := ?vqk941) rfl (by decide +kernel) (fun _ _ _ h => h) (Or.inl ⟨by kernel_rfl, ?hqk941⟩) (by assumption) ?rqk941
  case hqk941 =>
    intro wS hSw
    obtain ⟨h0, h1, h2, h3, h4, h5⟩ := hSw
    go_simp
    try with_reducible rfl
  try simp only [Act.put, List.getElem_toArray, List.getElem_cons_succ, List.getElem_cons_zero, List.setIfInBounds_toArray, List.set_cons_succ, List.set_cons_zero]
  refine wpAnyE_take (i := 42) (v := ?vqk942) rfl (by decide +kernel) (fun _ _ _ h => h) (Or.inl ⟨by kernel_rfl, ?hqk942⟩) (by assumption) ?rqk942
  case hqk942 =>
    intro wS hSw
    obtain ⟨h0, h1, h2, h3, h4, h5⟩ := hSw
    go_simp
    try with_reducible rfl
  try simp only [Act.put, List.getElem_toArray, List.getElem_cons_succ, List.getElem_cons_zero, List.setIfInBounds_toArray, List.set_cons_succ, List.set_cons_zero]
  refine wpAnyE_take (i := 43) (v := ?vqk943) rfl (by decide +kernel) (fun _ _ _ h => h) (Or.inl ⟨by kernel_rfl, ?hqk943⟩) (by assumption) ?rqk943
  case hqk943 =>
    intro wS hSw
    obtain ⟨h0, h1, h2, h3, h4, h5⟩ := hSw
    go_simp
    try with_reducible rfl
  try simp only [Act.put, List.getElem_toArray, List.getElem_cons_succ, List.getElem_cons_zero, List.setIfInBounds_toArray, List.set_cons_succ, List.set_cons_zero]
  refine wpAnyE_take (i := 44) (v := ?vqk944) rfl (by decide +kernel) (fun _ _ _ h => h) (Or.inl ⟨by kernel_rfl, ?hqk944⟩) (by assumption) ?rqk944
  case hqk944 =>
    intro wS hSw
    obtain ⟨h0, h1, h2, h3, h4, h5⟩ := hSw
    go_simp
    try with_reducible rfl
  try simp only [Act.put, List.getElem_toArray, List.getElem_cons_succ, List.getElem_cons_zero, List.setIfInBounds_toArray, List.set_cons_succ, List.set_cons_zero]
  refine wpAnyE_take (i := 45) (v := ?vqk945) rfl (by decide +kernel) (fun _ _ _ h => h) (Or.inl ⟨by kernel_rfl, ?hqk945⟩) (by assumption) ?rqk945
  case hqk945 =>
    intro wS hSw
    obtain ⟨h0, h1, h2, h3, h4, h5⟩ := hSw
    go_simp
    try with_reducible rfl
  try simp only [Act.put, List.getElem_toArray, List.getElem_cons_succ, List.getElem_cons_zero, List.setIfInBounds_toArray, List.set_cons_succ, List.set_cons_zero]
  refine wpAnyE_take (i := 46) (v := ?vqk946) rfl (by decide +kernel) (fun _ _ _ h => h) (Or.inl ⟨by kernel_rfl, ?hqk946⟩) (by assumption) ?rqk946
  case hqk946 =>
    intro wS hSw
    obtain ⟨h0, h1, h2, h3, h4, h5⟩ := hSw
    go_simp
    try with_reducible rfl
  try simp only [Act.put, List.getElem_toArray, List.getElem_cons_succ, List.getElem_cons_zero, List.setIfInBounds_toArray, List.set_cons_succ, List.set_cons_zero]
  refine wpAnyE_take (i := 47) (v := ?vqk947) rfl (by decide +kernel) (fun _ _ _ h => h) (Or.inl ⟨by kernel_rfl, ?hqk947⟩) (by assumption) ?rqk947
  case hqk947 =>
    intro wS hSw
    obtain ⟨h0, h1, h2, h3, h4, h5⟩ := hSw
    go_simp
    try with_reducible rfl
  try simp only [Act.put, List.getElem_toArray, List.getElem_cons_succ, List.getElem_cons_zero, List.setIfInBounds_toArray, List.set_cons_succ, List.set_cons_zero]
  refine wpAnyE_ready (rs := [48]) (by kernel_rfl) (by simp) ?_
  refine AllReadyE.cons (i := 48) rfl (by decide) (fun K hK => ?_) AllReadyE.nil
  go_simp
  refine (G9.out _).mono ?_
  rintro e w' ⟨rfl, rfl⟩
  go_simp
  refine hK.out _ _ ⟨B1.out.cell 0, B1.out.cell 1, B1.out.cell 2, B1.out.cell 3, B1.out.cell 4, B1.out.cell 5⟩ (fun hHeld => ?_)
  clear hK K
  try simp only [Act.put, List.getElem_toArray, List.getElem_cons_succ, List.getElem_cons_zero, List.setIfInBounds_toArray, List.set_cons_succ, List.set_cons_zero]
  refine wpAnyE_take (i := 49) (v := ?vqk949) rfl (by decide +kernel) (fun _ _ _ h => h) (Or.inl ⟨by kernel_rfl, ?hqk949⟩) (by assumption) ?rqk949
  case hqk949 =>
    intro wS hSw
    obtain ⟨h0, h1, h2, h3, h4, h5⟩ := hSw
    go_simp
    try with_reducible rfl
  try simp only [Act.put, List.getElem_toArray, List.getElem_cons_succ, List.getElem_cons_zero, List.setIfInBounds_toArray, List.set_cons_succ, List.set_cons_zero]
  refine wpAnyE_take (i := 50) (v := ?vqk950) rfl (by decide +kernel) (fun _ _ _ h => h) (Or.inl ⟨by kernel_rfl, ?hqk950⟩) (by assumption) ?rqk950
  case hqk950 =>
    intro wS hSw
    obtain ⟨h0, h1, h2, h3, h4, h5⟩ := hSw
    go_simp
    try with_reducible rfl
  try simp only [Act.put, List.getElem_toArray, List.getElem_cons_succ, List.getElem_cons_zero, List.setIfInBounds_toArray, List.set_cons_succ, List.set_cons_zero]
  refine wpAnyE_ready (rs := [51]) (by kernel_rfl) (by simp) ?_
  refine AllReadyE.last (i := 51) rfl rfl (fun K hK => ?_)
  go_simp
  refine hK.out _ _ ?_
  clear hK K
  try simp only [Act.put, List.getElem_toArray, List.getElem_cons_succ, List.getElem_cons_zero, List.setIfInBounds_toArray, List.set_cons_succ, List.set_cons_zero]
  refine wpAnyE_done (by kernel_rfl) ?_ _
  try simp only [List.getElem_toArray, List.getElem_cons_succ, List.getElem_cons_zero, List.setIfInBounds_toArray, List.set_cons_succ, List.set_cons_zero]
  go_wp2_with fail
  go_ret
  exact ⟨rfl, B1.out.1⟩

end Go.Proofs.YtfigjfckelichaaGreatDoor.trkl
