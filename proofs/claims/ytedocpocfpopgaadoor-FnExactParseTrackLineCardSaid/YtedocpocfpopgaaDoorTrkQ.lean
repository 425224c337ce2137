/- spec's TrackLine. -/
import Derived.Test.YtedocpocfpopgaaDoorTrkP
import Derived.Test.YtedocpocfpopgaaDoorTrkS
import Derived.Test.YtedocpocfpopgaaDoorTailH
import Derived.Deep.CutRange
namespace Go.Proofs.YtedocpocfpopgaaDoor.trkq
open Go.RowKit Go.Proofs.YtedocpocfpopgaaDoor.num Go.Proofs.YtedocpocfpopgaaDoor.ints Go.Proofs.YtedocpocfpopgaaDoor.lst Go.Proofs.YtedocpocfpopgaaDoor.in_ Go.Proofs.YtedocpocfpopgaaDoor.ats Go.Proofs.YtedocpocfpopgaaDoor.pos Go.Proofs.YtedocpocfpopgaaDoor.trk Go.Proofs.YtedocpocfpopgaaDoor.trkm Go.Proofs.YtedocpocfpopgaaDoor.trkp Go.Proofs.YtedocpocfpopgaaDoor.tailh
set_option linter.unusedSimpArgs false

theorem at_five {T : TypeId} {a b c d e f : Value} {w W : World} {p : Nat} (h : ats.AtS T #[a, b, c, d, e, f] w W p) : W.cell? ⟨p, 5, none⟩ = some f := h.cell 5
def wordsC : Array Value := #[.string (wd 0), .string (wd 1), .string (wd 2), .string (wd 3)]
/-- A block holds the words. -/
def Wd (W : World) (b : Nat) : Prop := b < W.heap.size ∧ ∀ k, k < 4 → W.cell? ⟨b, k, none⟩ = some (.string (wd k))
theorem Wd.old {W W' : World} {b : Nat} (h : Wd W b) (hb : Below W.heap.size W W') : Wd W' b :=
  ⟨Nat.lt_of_lt_of_le h.1 hb.size, fun k hk => (hb.cell (p := ⟨b, k, none⟩) h.1).trans (h.2 k hk)⟩
theorem words_at : ∀ k, k < 4 → wordsC[k]? = some (.string (wd k))
  | 0, _ => rfl
  | 1, _ => rfl
  | 2, _ => rfl
  | 3, _ => rfl
theorem wd_new (W : World) : Wd (W.alloc (.cells wordsC 9)) W.heap.size :=
  ⟨by rw [World.size_alloc]; omega, fun k hk => by
    rw [cell_of_row _ _ k wordsC 9 (0, 0) (heap_alloc_new W _)]
    exact words_at k hk⟩
theorem words14 (w : World) : Calls Tryd.prog 48 #[] w fun e w' => e = .returned (.slice (some ⟨w.heap.size, 0, none⟩) 4 4) ∧ Below w.heap.size w w' ∧ Wd w' w.heap.size := by
  have hw : wordsC = #[.string ⟨#[]⟩, .string ⟨#[110, 101, 119]⟩, .string ⟨#[99, 111, 110, 102, 105, 114, 109, 101, 100]⟩, .string ⟨#[99, 111, 97, 115, 116, 105, 110, 103]⟩] := rfl
  have HW := Lib.hid hw
  have HN := Lib.hid (wd_new w)
  have HB := Lib.hid ((Below.refl w.heap.size w).alloc (Nat.le_refl _) (.cells wordsC 9))
  rw [hw] at HN HB
  clear hw
  go_enter Tryd.func48, Tryd.ntmps48
  go_wp2_with fail
  go_ret
  exact ⟨rfl, HB.out, HN.out⟩
theorem num_below (n : Int) (w : World) (h0 : 0 ≤ n) (h1 : n ≤ 99999) : Calls Tryd.prog 86 #[.int .i64 n] w fun e w' => e = .returned (.string (txt n)) ∧ Below w.heap.size w w' :=
  (num_any n w (by omega) (by omega) (by omega)).mono fun _ _ ⟨e, j, hj⟩ => ⟨e, hj ▸ aid.below_drewN (Below.refl _ _) j⟩

set_option maxRecDepth 100000 in
set_option maxHeartbeats 64000000 in
theorem line14 (i : Int) (k : Nat) (x y h l : Int) (w : World) (hv : tkB i (k : Int) x y h l = true) (k3 : k ≤ 3) :
    Calls Tryd.prog 50 #[.agg #[.int .i64 i, .int .i64 (k : Int), .int .i64 x, .int .i64 y, .int .i64 h, .int .i64 l]] w fun e w' => e = .returned (.string (tlT i (k : Int) x y h l)) ∧ Below w.heap.size w w' := by
  obtain ⟨hi, hp, hh, hl, -, -⟩ := tkB_yes hv
  obtain ⟨hx, hy⟩ := pB_yes hp
  have H2 := Lib.hid (fun (W : World) => num_below i W (by omega) (by omega))
  have H13 := Lib.hid (fun (W : World) => num_below x W (by omega) (by omega))
  have H18 := Lib.hid (fun (W : World) => num_below y W (by omega) (by omega))
  have H23 := Lib.hid (fun (W : World) => num_below h W (by omega) (by omega))
  have H9 := Lib.hid (fun (W : World) => num_below l W (by omega) (by omega))
  have z1 := txt_size i (by omega) (by omega)
  have z2 := txt_size x (by omega) (by omega)
  have z3 := txt_size y (by omega) (by omega)
  have z4 := txt_size h (by omega) (by omega)
  have z5 := txt_size l (by omega) (by omega)
  have z6 := wd_size k
  have HKW := Lib.hid (show k < 4 by omega)
  have kk0 : (0 : Int) ≤ (k : Int) := by omega
  have kk : (k : Int) < 4 := by omega
  have HD := Lib.hid (show hdT i k x y h = txt i ++ ⟨#[32]⟩ ++ wd k ++ ⟨#[32, 97, 116, 32]⟩ ++ txt x ++ ⟨#[44]⟩ ++ txt y ++ ⟨#[32, 104, 105, 116, 115, 32]⟩ ++ txt h from rfl)
  have HT0 := Lib.hid (fun (hz : l = 0) => show hdT i k x y h = tlT i (k : Int) x y h l by unfold tlT; rw [if_pos hz]; rfl)
  have HT1 := Lib.hid (fun (hz : ¬ l = 0) => show hdT i k x y h ++ ⟨#[32, 108, 111, 115, 116, 32]⟩ ++ txt l = tlT i (k : Int) x y h l by unfold tlT; rw [if_neg hz]; rfl)
  have HZ := Lib.hid (show (hdT i k x y h).size ≤ 120 by
    rw [HD.out]
    simp only [ByteArray.size_append]
    have e1 : (⟨#[32]⟩ : ByteArray).size = 1 := rfl
    have e2 : (⟨#[32, 97, 116, 32]⟩ : ByteArray).size = 4 := rfl
    have e3 : (⟨#[44]⟩ : ByteArray).size = 1 := rfl
    have e4 : (⟨#[32, 104, 105, 116, 115, 32]⟩ : ByteArray).size = 6 := rfl
    omega)
  have HLN := Lib.hid (show 0 ≤ l from hl.1)
  have HWK := Lib.hid (rfl : wd k = wd k)
  clear hv hi hp hh hl hx hy k3
  generalize txt i = t1 at *
  generalize txt x = t2 at *
  generalize txt y = t3 at *
  generalize txt h = t4 at *
  generalize txt l = t5 at *
  generalize hwk : wd k = wk at *
  have HWK := Lib.hid hwk
  clear hwk
  generalize hdT i k x y h = hd at *
  generalize tlT i (k : Int) x y h l = R at *
  have P0 := Lib.hid (newS 38 #[.int .i64 i, .int .i64 (k : Int), .int .i64 x, .int .i64 y, .int .i64 h, .int .i64 l] w)
  go_enter Tryd.func50, Tryd.ntmps50
  go_upto_region 1 with fail
  generalize w.alloc (.cells #[.int .i64 i, .int .i64 (k : Int), .int .i64 x, .int .i64 y, .int .i64 h, .int .i64 l] 38) = W0 at *
  have Q0 := Lib.hid P0.out
  have HM := Lib.hid (show ∀ W, Below w.heap.size w W → Below w.heap.size w W from fun _ h => h)
  have y0 : ¬ 9223372036854775807 < t1.size + 1 := by omega
  have y1 : ¬ 9223372036854775807 < t1.size + 1 + wk.size := by omega
  have y2 : ¬ 9223372036854775807 < t1.size + 1 + wk.size + 4 := by omega
  have y3 : ¬ 9223372036854775807 < t1.size + 1 + wk.size + 4 + t2.size := by omega
  have y4 : ¬ 9223372036854775807 < t1.size + 1 + wk.size + 4 + t2.size + 1 := by omega
  have y5 : ¬ 9223372036854775807 < t1.size + 1 + wk.size + 4 + t2.size + 1 + t3.size := by omega
  have y6 : ¬ 9223372036854775807 < t1.size + 1 + wk.size + 4 + t2.size + 1 + t3.size + 6 := by omega
  have y7 : ¬ 9223372036854775807 < t1.size + 1 + wk.size + 4 + t2.size + 1 + t3.size + 6 + t4.size := by omega
  go_cut [3] from 4 to 28 (fun v wx => v = .string hd ∧ ats.AtS 38 #[.int .i64 i, .int .i64 (k : Int), .int .i64 x, .int .i64 y, .int .i64 h, .int .i64 l] w wx w.heap.size)
  case first =>
    have HSd := Lib.hid (show World.cell? W0.drew ⟨w.heap.size, 0, none⟩ = some (.int .i64 i) ∧ World.cell? W0.drew ⟨w.heap.size, 1, none⟩ = some (.int .i64 (k : Int)) ∧ World.cell? W0.drew ⟨w.heap.size, 2, none⟩ = some (.int .i64 x) ∧ World.cell? W0.drew ⟨w.heap.size, 3, none⟩ = some (.int .i64 y) ∧ World.cell? W0.drew ⟨w.heap.size, 4, none⟩ = some (.int .i64 h) from ⟨P0.out.drew.cell 0, P0.out.drew.cell 1, P0.out.drew.cell 2, P0.out.drew.cell 3, P0.out.drew.cell 4⟩)
    refine wp_region_tail (S := fun w' => World.cell? w' ⟨w.heap.size, 0, none⟩ = some (.int .i64 i) ∧ World.cell? w' ⟨w.heap.size, 1, none⟩ = some (.int .i64 (k : Int)) ∧ World.cell? w' ⟨w.heap.size, 2, none⟩ = some (.int .i64 x) ∧ World.cell? w' ⟨w.heap.size, 3, none⟩ = some (.int .i64 y) ∧ World.cell? w' ⟨w.heap.size, 4, none⟩ = some (.int .i64 h)) 25 (by kernel_rfl) HSd.out (fun hHeld => ?_)
    try simp only [Act.put, List.getElem_toArray, List.getElem_cons_succ, List.getElem_cons_zero, List.setIfInBounds_toArray, List.set_cons_succ, List.set_cons_zero]
    refine wpAnyE_take (i := 0) (v := ?vqz0) rfl (by decide +kernel) (fun _ _ _ h => h) (Or.inl ⟨by kernel_rfl, ?hqz0⟩) (by assumption) ?rqz0
    case hqz0 =>
      intro wS hSw
      obtain ⟨h0_, h1_, h2_, h3_, h4_⟩ := hSw
      go_simp
      try with_reducible rfl
    try simp only [Act.put, List.getElem_toArray, List.getElem_cons_succ, List.getElem_cons_zero, List.setIfInBounds_toArray, List.set_cons_succ, List.set_cons_zero]
    refine wpAnyE_take (i := 1) (v := ?vqz1) rfl (by decide +kernel) (fun _ _ _ h => h) (Or.inl ⟨by kernel_rfl, ?hqz1⟩) (by assumption) ?rqz1
    case hqz1 =>
      intro wS hSw
      obtain ⟨h0_, h1_, h2_, h3_, h4_⟩ := hSw
      go_simp
      try with_reducible rfl
    try simp only [Act.put, List.getElem_toArray, List.getElem_cons_succ, List.getElem_cons_zero, List.setIfInBounds_toArray, List.set_cons_succ, List.set_cons_zero]
    refine wpAnyE_take (i := 5) (v := ?vqz5) rfl (by decide +kernel) (fun _ _ _ h => h) (Or.inl ⟨by kernel_rfl, ?hqz5⟩) (by assumption) ?rqz5
    case hqz5 =>
      intro wS hSw
      obtain ⟨h0_, h1_, h2_, h3_, h4_⟩ := hSw
      go_simp
      try with_reducible rfl
    try simp only [Act.put, List.getElem_toArray, List.getElem_cons_succ, List.getElem_cons_zero, List.setIfInBounds_toArray, List.set_cons_succ, List.set_cons_zero]
    refine wpAnyE_take (i := 6) (v := ?vqz6) rfl (by decide +kernel) (fun _ _ _ h => h) (Or.inl ⟨by kernel_rfl, ?hqz6⟩) (by assumption) ?rqz6
    case hqz6 =>
      intro wS hSw
      obtain ⟨h0_, h1_, h2_, h3_, h4_⟩ := hSw
      go_simp
      try with_reducible rfl
    try simp only [Act.put, List.getElem_toArray, List.getElem_cons_succ, List.getElem_cons_zero, List.setIfInBounds_toArray, List.set_cons_succ, List.set_cons_zero]
    refine wpAnyE_take (i := 11) (v := ?vqz11) rfl (by decide +kernel) (fun _ _ _ h => h) (Or.inl ⟨by kernel_rfl, ?hqz11⟩) (by assumption) ?rqz11
    case hqz11 =>
      intro wS hSw
      obtain ⟨h0_, h1_, h2_, h3_, h4_⟩ := hSw
      go_simp
      try with_reducible rfl
    try simp only [Act.put, List.getElem_toArray, List.getElem_cons_succ, List.getElem_cons_zero, List.setIfInBounds_toArray, List.set_cons_succ, List.set_cons_zero]
    refine wpAnyE_take (i := 12) (v := ?vqz12) rfl (by decide +kernel) (fun _ _ _ h => h) (Or.inl ⟨by kernel_rfl, ?hqz12⟩) (by assumption) ?rqz12
    case hqz12 =>
      intro wS hSw
      obtain ⟨h0_, h1_, h2_, h3_, h4_⟩ := hSw
      go_simp
      try with_reducible rfl
    try simp only [Act.put, List.getElem_toArray, List.getElem_cons_succ, List.getElem_cons_zero, List.setIfInBounds_toArray, List.set_cons_succ, List.set_cons_zero]
    refine wpAnyE_take (i := 16) (v := ?vqz16) rfl (by decide +kernel) (fun _ _ _ h => h) (Or.inl ⟨by kernel_rfl, ?hqz16⟩) (by assumption) ?rqz16
    case hqz16 =>
      intro wS hSw
      obtain ⟨h0_, h1_, h2_, h3_, h4_⟩ := hSw
      go_simp
      try with_reducible rfl
    try simp only [Act.put, List.getElem_toArray, List.getElem_cons_succ, List.getElem_cons_zero, List.setIfInBounds_toArray, List.set_cons_succ, List.set_cons_zero]
    refine wpAnyE_take (i := 17) (v := ?vqz17) rfl (by decide +kernel) (fun _ _ _ h => h) (Or.inl ⟨by kernel_rfl, ?hqz17⟩) (by assumption) ?rqz17
    case hqz17 =>
      intro wS hSw
      obtain ⟨h0_, h1_, h2_, h3_, h4_⟩ := hSw
      go_simp
      try with_reducible rfl
    try simp only [Act.put, List.getElem_toArray, List.getElem_cons_succ, List.getElem_cons_zero, List.setIfInBounds_toArray, List.set_cons_succ, List.set_cons_zero]
    refine wpAnyE_take (i := 21) (v := ?vqz21) rfl (by decide +kernel) (fun _ _ _ h => h) (Or.inl ⟨by kernel_rfl, ?hqz21⟩) (by assumption) ?rqz21
    case hqz21 =>
      intro wS hSw
      obtain ⟨h0_, h1_, h2_, h3_, h4_⟩ := hSw
      go_simp
      try with_reducible rfl
    try simp only [Act.put, List.getElem_toArray, List.getElem_cons_succ, List.getElem_cons_zero, List.setIfInBounds_toArray, List.set_cons_succ, List.set_cons_zero]
    refine wpAnyE_take (i := 22) (v := ?vqz22) rfl (by decide +kernel) (fun _ _ _ h => h) (Or.inl ⟨by kernel_rfl, ?hqz22⟩) (by assumption) ?rqz22
    case hqz22 =>
      intro wS hSw
      obtain ⟨h0_, h1_, h2_, h3_, h4_⟩ := hSw
      go_simp
      try with_reducible rfl
    try simp only [Act.put, List.getElem_toArray, List.getElem_cons_succ, List.getElem_cons_zero, List.setIfInBounds_toArray, List.set_cons_succ, List.set_cons_zero]
    refine wpAnyE_ready (rs := [2]) (by kernel_rfl) (by simp) ?_
    refine AllReadyE.cons (i := 2) rfl (by decide) (fun K hK => ?_) AllReadyE.nil
    go_simp
    refine (H2.out _).mono ?_
    rintro e Wa ⟨rfl, hb⟩
    have Pa := Lib.hid (P0.out.drew.old hb)
    clear hb
    refine hK.out _ _ ⟨Pa.out.cell 0, Pa.out.cell 1, Pa.out.cell 2, Pa.out.cell 3, Pa.out.cell 4⟩ (fun hHeld => ?_)
    clear hK K
    try simp only [Act.put, List.getElem_toArray, List.getElem_cons_succ, List.getElem_cons_zero, List.setIfInBounds_toArray, List.set_cons_succ, List.set_cons_zero]
    refine wpAnyE_take (i := 3) (v := ?vqza3) rfl (by decide +kernel) (fun _ _ _ h => h) (Or.inl ⟨by kernel_rfl, ?hqza3⟩) (by assumption) ?rqza3
    case hqza3 =>
      intro wS hSw
      obtain ⟨h0_, h1_, h2_, h3_, h4_⟩ := hSw
      go_simp
      try with_reducible rfl
    try simp only [Act.put, List.getElem_toArray, List.getElem_cons_succ, List.getElem_cons_zero, List.setIfInBounds_toArray, List.set_cons_succ, List.set_cons_zero]
    refine wpAnyE_ready (rs := [4]) (by kernel_rfl) (by simp) ?_
    refine AllReadyE.cons (i := 4) rfl (by decide) (fun K hK => ?_) AllReadyE.nil
    go_simp
    refine (words14 _).mono ?_
    rintro e Wab ⟨he, hb, hd⟩
    subst he
    have Dab := Lib.hid hd
    have Pab := Lib.hid (Pa.out.old hb)
    clear hb hd
    refine hK.out _ _ ⟨Pab.out.cell 0, Pab.out.cell 1, Pab.out.cell 2, Pab.out.cell 3, Pab.out.cell 4⟩ (fun hHeld => ?_)
    clear hK K
    try simp only [Act.put, List.getElem_toArray, List.getElem_cons_succ, List.getElem_cons_zero, List.setIfInBounds_toArray, List.set_cons_succ, List.set_cons_zero]
    refine wpAnyE_take (i := 7) (v := ?vqzab7) rfl (by decide +kernel) (fun _ _ _ h => h) (Or.inl ⟨by kernel_rfl, ?hqzab7⟩) (by assumption) ?rqzab7
    case hqzab7 =>
      intro wS hSw
      obtain ⟨h0_, h1_, h2_, h3_, h4_⟩ := hSw
      go_simp
      try with_reducible rfl
    try simp only [Act.put, List.getElem_toArray, List.getElem_cons_succ, List.getElem_cons_zero, List.setIfInBounds_toArray, List.set_cons_succ, List.set_cons_zero]
    have cw := Dab.out.2 k HKW.out
    rw [HWK.out] at cw
    refine wpAnyE_ready (rs := [8, 13]) (by kernel_rfl) (by simp) ?_
    refine AllReadyE.cons (i := 8) rfl (by decide) (fun K hK => ?_) (AllReadyE.cons (i := 13) rfl (by decide) (fun K hK => ?_) AllReadyE.nil)
    · go_simp
      refine hK.out _ _ ⟨Pab.out.cell 0, Pab.out.cell 1, Pab.out.cell 2, Pab.out.cell 3, Pab.out.cell 4⟩ (fun hHeld => ?_)
      clear hK K
      try simp only [Act.put, List.getElem_toArray, List.getElem_cons_succ, List.getElem_cons_zero, List.setIfInBounds_toArray, List.set_cons_succ, List.set_cons_zero]
      clear cw
      refine wpAnyE_take (i := 9) (v := ?vqzabf9) rfl (by decide +kernel) (fun _ _ _ h => h) (Or.inl ⟨by kernel_rfl, ?hqzabf9⟩) (by assumption) ?rqzabf9
      case hqzabf9 =>
        intro wS hSw
        obtain ⟨h0_, h1_, h2_, h3_, h4_⟩ := hSw
        go_simp
        try with_reducible rfl
      try simp only [Act.put, List.getElem_toArray, List.getElem_cons_succ, List.getElem_cons_zero, List.setIfInBounds_toArray, List.set_cons_succ, List.set_cons_zero]
      refine wpAnyE_take (i := 10) (v := ?vqzabf10) rfl (by decide +kernel) (fun _ _ _ h => h) (Or.inl ⟨by kernel_rfl, ?hqzabf10⟩) (by assumption) ?rqzabf10
      case hqzabf10 =>
        intro wS hSw
        obtain ⟨h0_, h1_, h2_, h3_, h4_⟩ := hSw
        go_simp
        try with_reducible rfl
      try simp only [Act.put, List.getElem_toArray, List.getElem_cons_succ, List.getElem_cons_zero, List.setIfInBounds_toArray, List.set_cons_succ, List.set_cons_zero]
      refine wpAnyE_ready (rs := [13]) (by kernel_rfl) (by simp) ?_
      refine AllReadyE.cons (i := 13) rfl (by decide) (fun K hK => ?_) AllReadyE.nil
      go_simp
      refine (H13.out _).mono ?_
      rintro e Wabfc ⟨rfl, hb⟩
      have Pabfc := Lib.hid (Pab.out.old hb)
      have Dabfc := Lib.hid (Dab.out.old hb)
      clear hb
      refine hK.out _ _ ⟨Pabfc.out.cell 0, Pabfc.out.cell 1, Pabfc.out.cell 2, Pabfc.out.cell 3, Pabfc.out.cell 4⟩ (fun hHeld => ?_)
      clear hK K
      try simp only [Act.put, List.getElem_toArray, List.getElem_cons_succ, List.getElem_cons_zero, List.setIfInBounds_toArray, List.set_cons_succ, List.set_cons_zero]
      refine wpAnyE_take (i := 14) (v := ?vqzabfc14) rfl (by decide +kernel) (fun _ _ _ h => h) (Or.inl ⟨by kernel_rfl, ?hqzabfc14⟩) (by assumption) ?rqzabfc14
      case hqzabfc14 =>
        intro wS hSw
        obtain ⟨h0_, h1_, h2_, h3_, h4_⟩ := hSw
        go_simp
        try with_reducible rfl
      try simp only [Act.put, List.getElem_toArray, List.getElem_cons_succ, List.getElem_cons_zero, List.setIfInBounds_toArray, List.set_cons_succ, List.set_cons_zero]
      refine wpAnyE_take (i := 15) (v := ?vqzabfc15) rfl (by decide +kernel) (fun _ _ _ h => h) (Or.inl ⟨by kernel_rfl, ?hqzabfc15⟩) (by assumption) ?rqzabfc15
      case hqzabfc15 =>
        intro wS hSw
        obtain ⟨h0_, h1_, h2_, h3_, h4_⟩ := hSw
        go_simp
        try with_reducible rfl
      try simp only [Act.put, List.getElem_toArray, List.getElem_cons_succ, List.getElem_cons_zero, List.setIfInBounds_toArray, List.set_cons_succ, List.set_cons_zero]
      refine wpAnyE_ready (rs := [18]) (by kernel_rfl) (by simp) ?_
      refine AllReadyE.cons (i := 18) rfl (by decide) (fun K hK => ?_) AllReadyE.nil
      go_simp
      refine (H18.out _).mono ?_
      rintro e Wabfcd ⟨rfl, hb⟩
      have Pabfcd := Lib.hid (Pabfc.out.old hb)
      have Dabfcd := Lib.hid (Dabfc.out.old hb)
      clear hb
      refine hK.out _ _ ⟨Pabfcd.out.cell 0, Pabfcd.out.cell 1, Pabfcd.out.cell 2, Pabfcd.out.cell 3, Pabfcd.out.cell 4⟩ (fun hHeld => ?_)
      clear hK K
      try simp only [Act.put, List.getElem_toArray, List.getElem_cons_succ, List.getElem_cons_zero, List.setIfInBounds_toArray, List.set_cons_succ, List.set_cons_zero]
      refine wpAnyE_take (i := 19) (v := ?vqzabfcd19) rfl (by decide +kernel) (fun _ _ _ h => h) (Or.inl ⟨by kernel_rfl, ?hqzabfcd19⟩) (by assumption) ?rqzabfcd19
      case hqzabfcd19 =>
        intro wS hSw
        obtain ⟨h0_, h1_, h2_, h3_, h4_⟩ := hSw
        go_simp
        try with_reducible rfl
      try simp only [Act.put, List.getElem_toArray, List.getElem_cons_succ, List.getElem_cons_zero, List.setIfInBounds_toArray, List.set_cons_succ, List.set_cons_zero]
      refine wpAnyE_take (i := 20) (v := ?vqzabfcd20) rfl (by decide +kernel) (fun _ _ _ h => h) (Or.inl ⟨by kernel_rfl, ?hqzabfcd20⟩) (by assumption) ?rqzabfcd20
      case hqzabfcd20 =>
        intro wS hSw
        obtain ⟨h0_, h1_, h2_, h3_, h4_⟩ := hSw
        go_simp
        try with_reducible rfl
      try simp only [Act.put, List.getElem_toArray, List.getElem_cons_succ, List.getElem_cons_zero, List.setIfInBounds_toArray, List.set_cons_succ, List.set_cons_zero]
      refine wpAnyE_ready (rs := [23]) (by kernel_rfl) (by simp) ?_
      refine AllReadyE.cons (i := 23) rfl (by decide) (fun K hK => ?_) AllReadyE.nil
      go_simp
      refine (H23.out _).mono ?_
      rintro e Wabfcde ⟨rfl, hb⟩
      have Pabfcde := Lib.hid (Pabfcd.out.old hb)
      have Dabfcde := Lib.hid (Dabfcd.out.old hb)
      clear hb
      refine hK.out _ _ ⟨Pabfcde.out.cell 0, Pabfcde.out.cell 1, Pabfcde.out.cell 2, Pabfcde.out.cell 3, Pabfcde.out.cell 4⟩ (fun hHeld => ?_)
      clear hK K
      try simp only [Act.put, List.getElem_toArray, List.getElem_cons_succ, List.getElem_cons_zero, List.setIfInBounds_toArray, List.set_cons_succ, List.set_cons_zero]
      refine wpAnyE_take (i := 24) (v := ?vqzabfcde24) rfl (by decide +kernel) (fun _ _ _ h => h) (Or.inl ⟨by kernel_rfl, ?hqzabfcde24⟩) (by assumption) ?rqzabfcde24
      case hqzabfcde24 =>
        intro wS hSw
        obtain ⟨h0_, h1_, h2_, h3_, h4_⟩ := hSw
        go_simp
        try with_reducible rfl
      try simp only [Act.put, List.getElem_toArray, List.getElem_cons_succ, List.getElem_cons_zero, List.setIfInBounds_toArray, List.set_cons_succ, List.set_cons_zero]
      refine wpAnyE_ready (rs := [25]) (by kernel_rfl) (by simp) ?_
      refine AllReadyE.last (i := 25) rfl rfl (fun K hK => ?_)
      go_simp
      refine hK.out _ _ ?_
      clear hK K
      try simp only [Act.put, List.getElem_toArray, List.getElem_cons_succ, List.getElem_cons_zero, List.setIfInBounds_toArray, List.set_cons_succ, List.set_cons_zero]
      refine wpAnyE_done (by kernel_rfl) ?_ _
      try simp only [List.getElem_toArray, List.getElem_cons_succ, List.getElem_cons_zero, List.setIfInBounds_toArray, List.set_cons_succ, List.set_cons_zero]
      go_wp2_with fail
      go_meet
      exact ⟨by rw [HD.out], Pabfcde.out⟩
    · go_simp
      refine (H13.out _).mono ?_
      rintro e Wabc ⟨rfl, hb⟩
      have Pabc := Lib.hid (Pab.out.old hb)
      have Dabc := Lib.hid (Dab.out.old hb)
      clear hb
      refine hK.out _ _ ⟨Pabc.out.cell 0, Pabc.out.cell 1, Pabc.out.cell 2, Pabc.out.cell 3, Pabc.out.cell 4⟩ (fun hHeld => ?_)
      clear hK K
      try simp only [Act.put, List.getElem_toArray, List.getElem_cons_succ, List.getElem_cons_zero, List.setIfInBounds_toArray, List.set_cons_succ, List.set_cons_zero]
      clear cw
      have cw := Dabc.out.2 k HKW.out
      rw [HWK.out] at cw
      refine wpAnyE_ready (rs := [8, 18]) (by kernel_rfl) (by simp) ?_
      refine AllReadyE.cons (i := 8) rfl (by decide) (fun K hK => ?_) (AllReadyE.cons (i := 18) rfl (by decide) (fun K hK => ?_) AllReadyE.nil)
      · go_simp
        refine hK.out _ _ ⟨Pabc.out.cell 0, Pabc.out.cell 1, Pabc.out.cell 2, Pabc.out.cell 3, Pabc.out.cell 4⟩ (fun hHeld => ?_)
        clear hK K
        try simp only [Act.put, List.getElem_toArray, List.getElem_cons_succ, List.getElem_cons_zero, List.setIfInBounds_toArray, List.set_cons_succ, List.set_cons_zero]
        clear cw
        refine wpAnyE_take (i := 9) (v := ?vqzabcf9) rfl (by decide +kernel) (fun _ _ _ h => h) (Or.inl ⟨by kernel_rfl, ?hqzabcf9⟩) (by assumption) ?rqzabcf9
        case hqzabcf9 =>
          intro wS hSw
          obtain ⟨h0_, h1_, h2_, h3_, h4_⟩ := hSw
          go_simp
          try with_reducible rfl
        try simp only [Act.put, List.getElem_toArray, List.getElem_cons_succ, List.getElem_cons_zero, List.setIfInBounds_toArray, List.set_cons_succ, List.set_cons_zero]
        refine wpAnyE_take (i := 10) (v := ?vqzabcf10) rfl (by decide +kernel) (fun _ _ _ h => h) (Or.inl ⟨by kernel_rfl, ?hqzabcf10⟩) (by assumption) ?rqzabcf10
        case hqzabcf10 =>
          intro wS hSw
          obtain ⟨h0_, h1_, h2_, h3_, h4_⟩ := hSw
          go_simp
          try with_reducible rfl
        try simp only [Act.put, List.getElem_toArray, List.getElem_cons_succ, List.getElem_cons_zero, List.setIfInBounds_toArray, List.set_cons_succ, List.set_cons_zero]
        refine wpAnyE_take (i := 14) (v := ?vqzabcf14) rfl (by decide +kernel) (fun _ _ _ h => h) (Or.inl ⟨by kernel_rfl, ?hqzabcf14⟩) (by assumption) ?rqzabcf14
        case hqzabcf14 =>
          intro wS hSw
          obtain ⟨h0_, h1_, h2_, h3_, h4_⟩ := hSw
          go_simp
          try with_reducible rfl
        try simp only [Act.put, List.getElem_toArray, List.getElem_cons_succ, List.getElem_cons_zero, List.setIfInBounds_toArray, List.set_cons_succ, List.set_cons_zero]
        refine wpAnyE_take (i := 15) (v := ?vqzabcf15) rfl (by decide +kernel) (fun _ _ _ h => h) (Or.inl ⟨by kernel_rfl, ?hqzabcf15⟩) (by assumption) ?rqzabcf15
        case hqzabcf15 =>
          intro wS hSw
          obtain ⟨h0_, h1_, h2_, h3_, h4_⟩ := hSw
          go_simp
          try with_reducible rfl
        try simp only [Act.put, List.getElem_toArray, List.getElem_cons_succ, List.getElem_cons_zero, List.setIfInBounds_toArray, List.set_cons_succ, List.set_cons_zero]
        refine wpAnyE_ready (rs := [18]) (by kernel_rfl) (by simp) ?_
        refine AllReadyE.cons (i := 18) rfl (by decide) (fun K hK => ?_) AllReadyE.nil
        go_simp
        refine (H18.out _).mono ?_
        rintro e Wabcfd ⟨rfl, hb⟩
        have Pabcfd := Lib.hid (Pabc.out.old hb)
        have Dabcfd := Lib.hid (Dabc.out.old hb)
        clear hb
        refine hK.out _ _ ⟨Pabcfd.out.cell 0, Pabcfd.out.cell 1, Pabcfd.out.cell 2, Pabcfd.out.cell 3, Pabcfd.out.cell 4⟩ (fun hHeld => ?_)
        clear hK K
        try simp only [Act.put, List.getElem_toArray, List.getElem_cons_succ, List.getElem_cons_zero, List.setIfInBounds_toArray, List.set_cons_succ, List.set_cons_zero]
        refine wpAnyE_take (i := 19) (v := ?vqzabcfd19) rfl (by decide +kernel) (fun _ _ _ h => h) (Or.inl ⟨by kernel_rfl, ?hqzabcfd19⟩) (by assumption) ?rqzabcfd19
        case hqzabcfd19 =>
          intro wS hSw
          obtain ⟨h0_, h1_, h2_, h3_, h4_⟩ := hSw
          go_simp
          try with_reducible rfl
        try simp only [Act.put, List.getElem_toArray, List.getElem_cons_succ, List.getElem_cons_zero, List.setIfInBounds_toArray, List.set_cons_succ, List.set_cons_zero]
        refine wpAnyE_take (i := 20) (v := ?vqzabcfd20) rfl (by decide +kernel) (fun _ _ _ h => h) (Or.inl ⟨by kernel_rfl, ?hqzabcfd20⟩) (by assumption) ?rqzabcfd20
        case hqzabcfd20 =>
          intro wS hSw
          obtain ⟨h0_, h1_, h2_, h3_, h4_⟩ := hSw
          go_simp
          try with_reducible rfl
        try simp only [Act.put, List.getElem_toArray, List.getElem_cons_succ, List.getElem_cons_zero, List.setIfInBounds_toArray, List.set_cons_succ, List.set_cons_zero]
        refine wpAnyE_ready (rs := [23]) (by kernel_rfl) (by simp) ?_
        refine AllReadyE.cons (i := 23) rfl (by decide) (fun K hK => ?_) AllReadyE.nil
        go_simp
        refine (H23.out _).mono ?_
        rintro e Wabcfde ⟨rfl, hb⟩
        have Pabcfde := Lib.hid (Pabcfd.out.old hb)
        have Dabcfde := Lib.hid (Dabcfd.out.old hb)
        clear hb
        refine hK.out _ _ ⟨Pabcfde.out.cell 0, Pabcfde.out.cell 1, Pabcfde.out.cell 2, Pabcfde.out.cell 3, Pabcfde.out.cell 4⟩ (fun hHeld => ?_)
        clear hK K
        try simp only [Act.put, List.getElem_toArray, List.getElem_cons_succ, List.getElem_cons_zero, List.setIfInBounds_toArray, List.set_cons_succ, List.set_cons_zero]
        refine wpAnyE_take (i := 24) (v := ?vqzabcfde24) rfl (by decide +kernel) (fun _ _ _ h => h) (Or.inl ⟨by kernel_rfl, ?hqzabcfde24⟩) (by assumption) ?rqzabcfde24
        case hqzabcfde24 =>
          intro wS hSw
          obtain ⟨h0_, h1_, h2_, h3_, h4_⟩ := hSw
          go_simp
          try with_reducible rfl
        try simp only [Act.put, List.getElem_toArray, List.getElem_cons_succ, List.getElem_cons_zero, List.setIfInBounds_toArray, List.set_cons_succ, List.set_cons_zero]
        refine wpAnyE_ready (rs := [25]) (by kernel_rfl) (by simp) ?_
        refine AllReadyE.last (i := 25) rfl rfl (fun K hK => ?_)
        go_simp
        refine hK.out _ _ ?_
        clear hK K
        try simp only [Act.put, List.getElem_toArray, List.getElem_cons_succ, List.getElem_cons_zero, List.setIfInBounds_toArray, List.set_cons_succ, List.set_cons_zero]
        refine wpAnyE_done (by kernel_rfl) ?_ _
        try simp only [List.getElem_toArray, List.getElem_cons_succ, List.getElem_cons_zero, List.setIfInBounds_toArray, List.set_cons_succ, List.set_cons_zero]
        go_wp2_with fail
        go_meet
        exact ⟨by rw [HD.out], Pabcfde.out⟩
      · go_simp
        refine (H18.out _).mono ?_
        rintro e Wabcd ⟨rfl, hb⟩
        have Pabcd := Lib.hid (Pabc.out.old hb)
        have Dabcd := Lib.hid (Dabc.out.old hb)
        clear hb
        refine hK.out _ _ ⟨Pabcd.out.cell 0, Pabcd.out.cell 1, Pabcd.out.cell 2, Pabcd.out.cell 3, Pabcd.out.cell 4⟩ (fun hHeld => ?_)
        clear hK K
        try simp only [Act.put, List.getElem_toArray, List.getElem_cons_succ, List.getElem_cons_zero, List.setIfInBounds_toArray, List.set_cons_succ, List.set_cons_zero]
        clear cw
        have cw := Dabcd.out.2 k HKW.out
        rw [HWK.out] at cw
        refine wpAnyE_ready (rs := [8, 23]) (by kernel_rfl) (by simp) ?_
        refine AllReadyE.cons (i := 8) rfl (by decide) (fun K hK => ?_) (AllReadyE.cons (i := 23) rfl (by decide) (fun K hK => ?_) AllReadyE.nil)
        · go_simp
          refine hK.out _ _ ⟨Pabcd.out.cell 0, Pabcd.out.cell 1, Pabcd.out.cell 2, Pabcd.out.cell 3, Pabcd.out.cell 4⟩ (fun hHeld => ?_)
          clear hK K
          try simp only [Act.put, List.getElem_toArray, List.getElem_cons_succ, List.getElem_cons_zero, List.setIfInBounds_toArray, List.set_cons_succ, List.set_cons_zero]
          clear cw
          refine wpAnyE_take (i := 9) (v := ?vqzabcdf9) rfl (by decide +kernel) (fun _ _ _ h => h) (Or.inl ⟨by kernel_rfl, ?hqzabcdf9⟩) (by assumption) ?rqzabcdf9
          case hqzabcdf9 =>
            intro wS hSw
            obtain ⟨h0_, h1_, h2_, h3_, h4_⟩ := hSw
            go_simp
            try with_reducible rfl
          try simp only [Act.put, List.getElem_toArray, List.getElem_cons_succ, List.getElem_cons_zero, List.setIfInBounds_toArray, List.set_cons_succ, List.set_cons_zero]
          refine wpAnyE_take (i := 10) (v := ?vqzabcdf10) rfl (by decide +kernel) (fun _ _ _ h => h) (Or.inl ⟨by kernel_rfl, ?hqzabcdf10⟩) (by assumption) ?rqzabcdf10
          case hqzabcdf10 =>
            intro wS hSw
            obtain ⟨h0_, h1_, h2_, h3_, h4_⟩ := hSw
            go_simp
            try with_reducible rfl
          try simp only [Act.put, List.getElem_toArray, List.getElem_cons_succ, List.getElem_cons_zero, List.setIfInBounds_toArray, List.set_cons_succ, List.set_cons_zero]
          refine wpAnyE_take (i := 14) (v := ?vqzabcdf14) rfl (by decide +kernel) (fun _ _ _ h => h) (Or.inl ⟨by kernel_rfl, ?hqzabcdf14⟩) (by assumption) ?rqzabcdf14
          case hqzabcdf14 =>
            intro wS hSw
            obtain ⟨h0_, h1_, h2_, h3_, h4_⟩ := hSw
            go_simp
            try with_reducible rfl
          try simp only [Act.put, List.getElem_toArray, List.getElem_cons_succ, List.getElem_cons_zero, List.setIfInBounds_toArray, List.set_cons_succ, List.set_cons_zero]
          refine wpAnyE_take (i := 15) (v := ?vqzabcdf15) rfl (by decide +kernel) (fun _ _ _ h => h) (Or.inl ⟨by kernel_rfl, ?hqzabcdf15⟩) (by assumption) ?rqzabcdf15
          case hqzabcdf15 =>
            intro wS hSw
            obtain ⟨h0_, h1_, h2_, h3_, h4_⟩ := hSw
            go_simp
            try with_reducible rfl
          try simp only [Act.put, List.getElem_toArray, List.getElem_cons_succ, List.getElem_cons_zero, List.setIfInBounds_toArray, List.set_cons_succ, List.set_cons_zero]
          refine wpAnyE_take (i := 19) (v := ?vqzabcdf19) rfl (by decide +kernel) (fun _ _ _ h => h) (Or.inl ⟨by kernel_rfl, ?hqzabcdf19⟩) (by assumption) ?rqzabcdf19
          case hqzabcdf19 =>
            intro wS hSw
            obtain ⟨h0_, h1_, h2_, h3_, h4_⟩ := hSw
            go_simp
            try with_reducible rfl
          try simp only [Act.put, List.getElem_toArray, List.getElem_cons_succ, List.getElem_cons_zero, List.setIfInBounds_toArray, List.set_cons_succ, List.set_cons_zero]
          refine wpAnyE_take (i := 20) (v := ?vqzabcdf20) rfl (by decide +kernel) (fun _ _ _ h => h) (Or.inl ⟨by kernel_rfl, ?hqzabcdf20⟩) (by assumption) ?rqzabcdf20
          case hqzabcdf20 =>
            intro wS hSw
            obtain ⟨h0_, h1_, h2_, h3_, h4_⟩ := hSw
            go_simp
            try with_reducible rfl
          try simp only [Act.put, List.getElem_toArray, List.getElem_cons_succ, List.getElem_cons_zero, List.setIfInBounds_toArray, List.set_cons_succ, List.set_cons_zero]
          refine wpAnyE_ready (rs := [23]) (by kernel_rfl) (by simp) ?_
          refine AllReadyE.cons (i := 23) rfl (by decide) (fun K hK => ?_) AllReadyE.nil
          go_simp
          refine (H23.out _).mono ?_
          rintro e Wabcdfe ⟨rfl, hb⟩
          have Pabcdfe := Lib.hid (Pabcd.out.old hb)
          have Dabcdfe := Lib.hid (Dabcd.out.old hb)
          clear hb
          refine hK.out _ _ ⟨Pabcdfe.out.cell 0, Pabcdfe.out.cell 1, Pabcdfe.out.cell 2, Pabcdfe.out.cell 3, Pabcdfe.out.cell 4⟩ (fun hHeld => ?_)
          clear hK K
          try simp only [Act.put, List.getElem_toArray, List.getElem_cons_succ, List.getElem_cons_zero, List.setIfInBounds_toArray, List.set_cons_succ, List.set_cons_zero]
          refine wpAnyE_take (i := 24) (v := ?vqzabcdfe24) rfl (by decide +kernel) (fun _ _ _ h => h) (Or.inl ⟨by kernel_rfl, ?hqzabcdfe24⟩) (by assumption) ?rqzabcdfe24
          case hqzabcdfe24 =>
            intro wS hSw
            obtain ⟨h0_, h1_, h2_, h3_, h4_⟩ := hSw
            go_simp
            try with_reducible rfl
          try simp only [Act.put, List.getElem_toArray, List.getElem_cons_succ, List.getElem_cons_zero, List.setIfInBounds_toArray, List.set_cons_succ, List.set_cons_zero]
          refine wpAnyE_ready (rs := [25]) (by kernel_rfl) (by simp) ?_
          refine AllReadyE.last (i := 25) rfl rfl (fun K hK => ?_)
          go_simp
          refine hK.out _ _ ?_
          clear hK K
          try simp only [Act.put, List.getElem_toArray, List.getElem_cons_succ, List.getElem_cons_zero, List.setIfInBounds_toArray, List.set_cons_succ, List.set_cons_zero]
          refine wpAnyE_done (by kernel_rfl) ?_ _
          try simp only [List.getElem_toArray, List.getElem_cons_succ, List.getElem_cons_zero, List.setIfInBounds_toArray, List.set_cons_succ, List.set_cons_zero]
          go_wp2_with fail
          go_meet
          exact ⟨by rw [HD.out], Pabcdfe.out⟩
        · go_simp
          refine (H23.out _).mono ?_
          rintro e Wabcde ⟨rfl, hb⟩
          have Pabcde := Lib.hid (Pabcd.out.old hb)
          have Dabcde := Lib.hid (Dabcd.out.old hb)
          clear hb
          refine hK.out _ _ ⟨Pabcde.out.cell 0, Pabcde.out.cell 1, Pabcde.out.cell 2, Pabcde.out.cell 3, Pabcde.out.cell 4⟩ (fun hHeld => ?_)
          clear hK K
          try simp only [Act.put, List.getElem_toArray, List.getElem_cons_succ, List.getElem_cons_zero, List.setIfInBounds_toArray, List.set_cons_succ, List.set_cons_zero]
          clear cw
          have cw := Dabcde.out.2 k HKW.out
          rw [HWK.out] at cw
          refine wpAnyE_ready (rs := [8]) (by kernel_rfl) (by simp) ?_
          refine AllReadyE.cons (i := 8) rfl (by decide) (fun K hK => ?_) AllReadyE.nil
          go_simp
          refine hK.out _ _ ⟨Pabcde.out.cell 0, Pabcde.out.cell 1, Pabcde.out.cell 2, Pabcde.out.cell 3, Pabcde.out.cell 4⟩ (fun hHeld => ?_)
          clear hK K
          try simp only [Act.put, List.getElem_toArray, List.getElem_cons_succ, List.getElem_cons_zero, List.setIfInBounds_toArray, List.set_cons_succ, List.set_cons_zero]
          clear cw
          refine wpAnyE_take (i := 9) (v := ?vqzabcdef9) rfl (by decide +kernel) (fun _ _ _ h => h) (Or.inl ⟨by kernel_rfl, ?hqzabcdef9⟩) (by assumption) ?rqzabcdef9
          case hqzabcdef9 =>
            intro wS hSw
            obtain ⟨h0_, h1_, h2_, h3_, h4_⟩ := hSw
            go_simp
            try with_reducible rfl
          try simp only [Act.put, List.getElem_toArray, List.getElem_cons_succ, List.getElem_cons_zero, List.setIfInBounds_toArray, List.set_cons_succ, List.set_cons_zero]
          refine wpAnyE_take (i := 10) (v := ?vqzabcdef10) rfl (by decide +kernel) (fun _ _ _ h => h) (Or.inl ⟨by kernel_rfl, ?hqzabcdef10⟩) (by assumption) ?rqzabcdef10
          case hqzabcdef10 =>
            intro wS hSw
            obtain ⟨h0_, h1_, h2_, h3_, h4_⟩ := hSw
            go_simp
            try with_reducible rfl
          try simp only [Act.put, List.getElem_toArray, List.getElem_cons_succ, List.getElem_cons_zero, List.setIfInBounds_toArray, List.set_cons_succ, List.set_cons_zero]
          refine wpAnyE_take (i := 14) (v := ?vqzabcdef14) rfl (by decide +kernel) (fun _ _ _ h => h) (Or.inl ⟨by kernel_rfl, ?hqzabcdef14⟩) (by assumption) ?rqzabcdef14
          case hqzabcdef14 =>
            intro wS hSw
            obtain ⟨h0_, h1_, h2_, h3_, h4_⟩ := hSw
            go_simp
            try with_reducible rfl
          try simp only [Act.put, List.getElem_toArray, List.getElem_cons_succ, List.getElem_cons_zero, List.setIfInBounds_toArray, List.set_cons_succ, List.set_cons_zero]
          refine wpAnyE_take (i := 15) (v := ?vqzabcdef15) rfl (by decide +kernel) (fun _ _ _ h => h) (Or.inl ⟨by kernel_rfl, ?hqzabcdef15⟩) (by assumption) ?rqzabcdef15
          case hqzabcdef15 =>
            intro wS hSw
            obtain ⟨h0_, h1_, h2_, h3_, h4_⟩ := hSw
            go_simp
            try with_reducible rfl
          try simp only [Act.put, List.getElem_toArray, List.getElem_cons_succ, List.getElem_cons_zero, List.setIfInBounds_toArray, List.set_cons_succ, List.set_cons_zero]
          refine wpAnyE_take (i := 19) (v := ?vqzabcdef19) rfl (by decide +kernel) (fun _ _ _ h => h) (Or.inl ⟨by kernel_rfl, ?hqzabcdef19⟩) (by assumption) ?rqzabcdef19
          case hqzabcdef19 =>
            intro wS hSw
            obtain ⟨h0_, h1_, h2_, h3_, h4_⟩ := hSw
            go_simp
            try with_reducible rfl
          try simp only [Act.put, List.getElem_toArray, List.getElem_cons_succ, List.getElem_cons_zero, List.setIfInBounds_toArray, List.set_cons_succ, List.set_cons_zero]
          refine wpAnyE_take (i := 20) (v := ?vqzabcdef20) rfl (by decide +kernel) (fun _ _ _ h => h) (Or.inl ⟨by kernel_rfl, ?hqzabcdef20⟩) (by assumption) ?rqzabcdef20
          case hqzabcdef20 =>
            intro wS hSw
            obtain ⟨h0_, h1_, h2_, h3_, h4_⟩ := hSw
            go_simp
            try with_reducible rfl
          try simp only [Act.put, List.getElem_toArray, List.getElem_cons_succ, List.getElem_cons_zero, List.setIfInBounds_toArray, List.set_cons_succ, List.set_cons_zero]
          refine wpAnyE_take (i := 24) (v := ?vqzabcdef24) rfl (by decide +kernel) (fun _ _ _ h => h) (Or.inl ⟨by kernel_rfl, ?hqzabcdef24⟩) (by assumption) ?rqzabcdef24
          case hqzabcdef24 =>
            intro wS hSw
            obtain ⟨h0_, h1_, h2_, h3_, h4_⟩ := hSw
            go_simp
            try with_reducible rfl
          try simp only [Act.put, List.getElem_toArray, List.getElem_cons_succ, List.getElem_cons_zero, List.setIfInBounds_toArray, List.set_cons_succ, List.set_cons_zero]
          refine wpAnyE_ready (rs := [25]) (by kernel_rfl) (by simp) ?_
          refine AllReadyE.last (i := 25) rfl rfl (fun K hK => ?_)
          go_simp
          refine hK.out _ _ ?_
          clear hK K
          try simp only [Act.put, List.getElem_toArray, List.getElem_cons_succ, List.getElem_cons_zero, List.setIfInBounds_toArray, List.set_cons_succ, List.set_cons_zero]
          refine wpAnyE_done (by kernel_rfl) ?_ _
          try simp only [List.getElem_toArray, List.getElem_cons_succ, List.getElem_cons_zero, List.setIfInBounds_toArray, List.set_cons_succ, List.set_cons_zero]
          go_wp2_with fail
          go_meet
          exact ⟨by rw [HD.out], Pabcde.out⟩
  case rest =>
    obtain ⟨rfl, hb9⟩ := hcut
    have P9 := Lib.hid hb9
    clear hb9
    have c5 := at_five P9.out
    have zh := HZ.out
    by_cases hz : 0 < l
    · have HR := Lib.hid (HT1.out (by omega))
      clear HT0 HT1 HZ HD
      go_wp2_with fail
      refine (H9.out _).mono ?_
      rintro e W9 ⟨rfl, hb⟩
      have P10 := Lib.hid (P9.out.old hb)
      clear hb
      go_wp2_with fail
      go_ret
      exact ⟨by rw [← HR.out]; rfl, P10.out.1⟩
    · have HR := Lib.hid (HT0.out (by have := HLN.out; omega))
      clear HT0 HT1 HZ HD
      go_wp2_with fail
      go_ret
      exact ⟨by rw [← HR.out]; rfl, P9.out.1⟩
end Go.Proofs.YtedocpocfpopgaaDoor.trkq
