/- spec's DrawPathCells. -/
import Derived.Test.YtinkkdgjpcnklaaDrawT16
namespace Go.Proofs.Ytinkkdgjpcnklaa.drawu16
open Go.RowKit Go.Proofs.Ytinkkdgjpcnklaa.cur Go.Proofs.Ytinkkdgjpcnklaa.atc Go.Proofs.Ytinkkdgjpcnklaa.ats Go.Proofs.Ytinkkdgjpcnklaa.drawh Go.Proofs.Ytinkkdgjpcnklaa.drawq7 Go.Proofs.Ytinkkdgjpcnklaa.draws16 Go.Proofs.Ytinkkdgjpcnklaa.drawt16 Go.Proofs.Ytinkkdgjpcnklaa.tailh

theorem grown_refl (w : World) (r : Option Nat) : w.grownBy w r := ⟨rfl, rfl, rfl, Nat.le_refl _, fun _ _ _ => rfl⟩
/-- a seventh of the picks: the length of the list's head. -/
theorem head_len {r : Int} (r0 : 0 ≤ r) (r1 : r ≤ 24 - 1) : ∃ m : Nat, r / 11 = (m : Int) ∧ m ≤ 2 := ⟨(r / 11).toNat, by omega, by omega⟩
set_option maxRecDepth 100000 in
set_option maxHeartbeats 16000000 in
theorem pathCells (A : Option Addr) (nn c0 : Nat) (w : World) (hn : nn ≤ 65536) (h : Bytes w w.heap.size A nn) :
    Calls Try.prog 30 #[.slice A nn c0] w (MotInts w) := by
  have R0 := Lib.hid ((newS 28 #[.int .i64 0, .int .i64 0, .int .i64 0, .int .i64 0, .int .i64 0, .int .i64 0] w).alloc (.cells #[.slice A nn c0, .int .i64 0, .int .u64 0] 62))
  have hc := new_cur c0 (by omega) (bytes_al (.cells #[.int .i64 0, .int .i64 0, .int .i64 0, .int .i64 0, .int .i64 0, .int .i64 0] 28) h)
  rw [World.size_alloc] at hc
  have HC0 := Lib.hid hc
  have hpw : w.heap.size ≤ w.heap.size + 1 := by omega
  have hpR : w.heap.size ≠ w.heap.size + 1 := by omega
  clear h hc
  go_enter Try.func30, Try.ntmps30
  go_wp2_with fail
  generalize (w.alloc (.cells #[.int .i64 0, .int .i64 0, .int .i64 0, .int .i64 0, .int .i64 0, .int .i64 0] 28)).alloc (.cells #[.slice A nn c0, .int .i64 0, .int .u64 0] 62) = W1 at *
  refine (motion _ 0 W1 HC0.out (by omega)).mono ?_
  rintro e w1 ⟨x, y, u, v, h, c, rfl, hin, hcN, hgN⟩
  have R1 := at_grown R0.out hgN hpR hpw
  have hpb' : w.heap.size + 1 < w1.heap.size := hcN.lt
  have hpb : w1.heap.size ≠ w.heap.size + 1 := by omega
  have hbR : w1.heap.size ≠ w.heap.size := by omega
  have B2 := Lib.hid (R1.next 28 #[.int .i64 x, .int .i64 y, .int .i64 u, .int .i64 v, .int .i64 h, .int .i64 c])
  have R2 := Lib.hid (R1.alloc (.cells #[.int .i64 x, .int .i64 y, .int .i64 u, .int .i64 v, .int .i64 h, .int .i64 c] 28))
  have HC2 := Lib.hid (Cur.alloc hcN (.cells #[.int .i64 x, .int .i64 y, .int .i64 u, .int .i64 v, .int .i64 h, .int .i64 c] 28))
  clear hcN hgN R0 HC0 R1 hpb'
  go_upto_region 3 with fail
  generalize w1.alloc (.cells #[.int .i64 x, .int .i64 y, .int .i64 u, .int .i64 v, .int .i64 h, .int .i64 c] 28) = W2 at *
  generalize w1.heap.size = b at *
  generalize w.heap.size + 1 = p at *
  have HA := Lib.hid (show ∀ x ∈ ([0, 1, 3, 10, 60, -1, 61] : List Int), -1 ≤ x ∧ x ≤ 61 by decide)
  have HB := Lib.hid (show ∀ x ∈ ([1, 10, 100, 1000, 0, 1001] : List Int), 0 ≤ x ∧ x ≤ 1001 by decide)
  have R3 := Lib.hid R2.out.drew
  have B3 := Lib.hid B2.out.drew
  have HC3 := Lib.hid (HC2.out.keep (Below.refl _ _).drew)
  clear R2 B2 HC2
  have BS := Blk.of_s B3.out
  refine wp_region_tail (S := fun w' => Blk 28 #[.int .i64 x, .int .i64 y, .int .i64 u, .int .i64 v, .int .i64 h, .int .i64 c] w' b) 19 (by kernel_rfl) BS (fun hHeld => ?_)
  generalize W2.drew = w3 at *
  try simp only [Act.put]
  refine wpAnyE_take (i := 0) (v := ?vqf0) rfl (by decide +kernel) (fun _ _ _ h => h) (Or.inl ⟨by rfl, ?hqf0⟩) (by assumption) ?rqf0
  case hqf0 =>
    intro wS hSw
    have m0_ := hSw.cell 0 _ rfl
    have m1_ := hSw.cell 1 _ rfl
    have m2_ := hSw.cell 2 _ rfl
    have m3_ := hSw.cell 3 _ rfl
    have m4_ := hSw.cell 4 _ rfl
    have m5_ := hSw.cell 5 _ rfl
    go_simp
    try with_reducible rfl
  try simp only [Act.put]
  refine wpAnyE_take (i := 1) (v := ?vqf1) rfl (by decide +kernel) (fun _ _ _ h => h) (Or.inl ⟨by rfl, ?hqf1⟩) (by assumption) ?rqf1
  case hqf1 =>
    intro wS hSw
    have m0_ := hSw.cell 0 _ rfl
    have m1_ := hSw.cell 1 _ rfl
    have m2_ := hSw.cell 2 _ rfl
    have m3_ := hSw.cell 3 _ rfl
    have m4_ := hSw.cell 4 _ rfl
    have m5_ := hSw.cell 5 _ rfl
    go_simp
    try with_reducible rfl
  try simp only [Act.put]
  refine wpAnyE_take (i := 3) (v := ?vqf3) rfl (by decide +kernel) (fun _ _ _ h => h) (Or.inl ⟨by rfl, ?hqf3⟩) (by assumption) ?rqf3
  case hqf3 =>
    intro wS hSw
    have m0_ := hSw.cell 0 _ rfl
    have m1_ := hSw.cell 1 _ rfl
    have m2_ := hSw.cell 2 _ rfl
    have m3_ := hSw.cell 3 _ rfl
    have m4_ := hSw.cell 4 _ rfl
    have m5_ := hSw.cell 5 _ rfl
    go_simp
    try with_reducible rfl
  try simp only [Act.put]
  refine wpAnyE_take (i := 9) (v := ?vqf9) rfl (by decide +kernel) (fun _ _ _ h => h) (Or.inl ⟨by rfl, ?hqf9⟩) (by assumption) ?rqf9
  case hqf9 =>
    intro wS hSw
    have m0_ := hSw.cell 0 _ rfl
    have m1_ := hSw.cell 1 _ rfl
    have m2_ := hSw.cell 2 _ rfl
    have m3_ := hSw.cell 3 _ rfl
    have m4_ := hSw.cell 4 _ rfl
    have m5_ := hSw.cell 5 _ rfl
    go_simp
    try with_reducible rfl
  try simp only [Act.put]
  refine wpAnyE_take (i := 11) (v := ?vqf11) rfl (by decide +kernel) (fun _ _ _ h => h) (Or.inl ⟨by rfl, ?hqf11⟩) (by assumption) ?rqf11
  case hqf11 =>
    intro wS hSw
    have m0_ := hSw.cell 0 _ rfl
    have m1_ := hSw.cell 1 _ rfl
    have m2_ := hSw.cell 2 _ rfl
    have m3_ := hSw.cell 3 _ rfl
    have m4_ := hSw.cell 4 _ rfl
    have m5_ := hSw.cell 5 _ rfl
    go_simp
    try with_reducible rfl
  try simp only [Act.put]
  refine wpAnyE_ready (rs := [2, 4, 10]) (by kernel_rfl) (by simp) ?_
  refine AllReadyE.cons (i := 2) rfl (by decide) (fun K hK => ?_) (AllReadyE.cons (i := 4) rfl (by decide) (fun K hK => ?_) (AllReadyE.cons (i := 10) rfl (by decide) (fun K hK => ?_) AllReadyE.nil))
  · go_simp
    have hpga : p < w3.heap.size := HC3.out.lt
    have hcN := Cur.alloc HC3.out (.cells #[.int .i64 0, .int .i64 1, .int .i64 3, .int .i64 10, .int .i64 60, .int .i64 (-1), .int .i64 61] 3)
    have hgN : w3.grownBy (w3.alloc (.cells #[.int .i64 0, .int .i64 1, .int .i64 3, .int .i64 10, .int .i64 60, .int .i64 (-1), .int .i64 61] 3)) (some p) := grown_alloc _ _
    have HSga := (Blk.of_s B3.out).alloc (.cells #[.int .i64 0, .int .i64 1, .int .i64 3, .int .i64 10, .int .i64 60, .int .i64 (-1), .int .i64 61] 3)
    refine hK.out _ _ HSga (fun hHeld => ?_)
    clear hK K
    try simp only [Act.put]
    generalize hWga : w3.alloc (.cells #[.int .i64 0, .int .i64 1, .int .i64 3, .int .i64 10, .int .i64 60, .int .i64 (-1), .int .i64 61] 3) = Wga at *
    have Rga := Lib.hid (at_grown R3.out hgN hpR hpw)
    have Bga := Lib.hid (at_grown B3.out hgN hpb hpw)
    have HCga := Lib.hid hcN
    clear hcN hgN
    have LAga := Lib.hid (show (w3.alloc (.cells #[.int .i64 0, .int .i64 1, .int .i64 3, .int .i64 10, .int .i64 60, .int .i64 (-1), .int .i64 61] 3)).grownBy Wga (some p) from by rw [hWga]; exact grown_refl _ _)
    clear hWga
    refine wpAnyE_ready (rs := [4, 10]) (by kernel_rfl) (by simp) ?_
    refine AllReadyE.cons (i := 4) rfl (by decide) (fun K hK => ?_) (AllReadyE.cons (i := 10) rfl (by decide) (fun K hK => ?_) AllReadyE.nil)
    · go_simp
      refine (pick p _ 24 Wga HCga.out (by omega) (by omega) (by omega)).mono ?_
      rintro e Wgap ⟨rA, rfl, rA0, rA1, hcN, hgN⟩
      have Rgap := Lib.hid (at_grown Rga.out hgN hpR hpw)
      have Bgap := Lib.hid (at_grown Bga.out hgN hpb hpw)
      have HCgap := Lib.hid hcN
      have LAgap := Lib.hid (grown_trans LAga.out hgN)
      clear hcN hgN
      obtain ⟨mA, hmA, hmA2⟩ := head_len rA0 rA1
      have htA : rA.tdiv 11 = (mA : Int) := by rw [Int.tdiv_eq_ediv_of_nonneg rA0]; exact hmA
      have hwA : IntKind.i64.wrap (mA : Int) = (mA : Int) := IntWalk.i64_in _ (by omega)
      obtain ⟨lA, hlA⟩ : ∃ l : Nat, l = 5 + mA := ⟨_, rfl⟩
      have hvA : IntKind.i64.wrap (5 + (mA : Int)) = (lA : Int) := by rw [IntWalk.i64_in _ (by omega)]; omega
      have hlA7 : (lA : Int) ≤ 7 := by omega
      have hlA1 : 1 ≤ lA := by omega
      have hlA8 : lA ≤ 7 := by omega
      clear hlA
      refine hK.out _ _ (Blk.of_s Bgap.out) (fun hHeld => ?_)
      clear hK K
      try simp only [Act.put]
      refine wpAnyE_take (i := 5) (v := ?vqgap5) rfl (by decide +kernel) (fun _ _ _ h => h) (Or.inl ⟨by rfl, ?hqgap5⟩) (by assumption) ?rqgap5
      case hqgap5 =>
        intro wS hSw
        have m0_ := hSw.cell 0 _ rfl
        have m1_ := hSw.cell 1 _ rfl
        have m2_ := hSw.cell 2 _ rfl
        have m3_ := hSw.cell 3 _ rfl
        have m4_ := hSw.cell 4 _ rfl
        have m5_ := hSw.cell 5 _ rfl
        go_simp
        try with_reducible rfl
      try simp only [Act.put]
      refine wpAnyE_take (i := 6) (v := ?vqgap6) rfl (by decide +kernel) (fun _ _ _ h => h) (Or.inl ⟨by rfl, ?hqgap6⟩) (by assumption) ?rqgap6
      case hqgap6 =>
        intro wS hSw
        have m0_ := hSw.cell 0 _ rfl
        have m1_ := hSw.cell 1 _ rfl
        have m2_ := hSw.cell 2 _ rfl
        have m3_ := hSw.cell 3 _ rfl
        have m4_ := hSw.cell 4 _ rfl
        have m5_ := hSw.cell 5 _ rfl
        go_simp
        try with_reducible rfl
      try simp only [Act.put]
      refine wpAnyE_take (i := 7) (v := ?vqgap7) rfl (by decide +kernel) (fun _ _ _ h => h) (Or.inl ⟨by rfl, ?hqgap7⟩) (by assumption) ?rqgap7
      case hqgap7 =>
        intro wS hSw
        have m0_ := hSw.cell 0 _ rfl
        have m1_ := hSw.cell 1 _ rfl
        have m2_ := hSw.cell 2 _ rfl
        have m3_ := hSw.cell 3 _ rfl
        have m4_ := hSw.cell 4 _ rfl
        have m5_ := hSw.cell 5 _ rfl
        go_simp
        try with_reducible rfl
      try simp only [Act.put]
      refine wpAnyE_ready (rs := [8, 10]) (by kernel_rfl) (by simp) ?_
      refine AllReadyE.cons (i := 8) rfl (by decide) (fun K hK => ?_) (AllReadyE.cons (i := 10) rfl (by decide) (fun K hK => ?_) AllReadyE.nil)
      · go_simp
        refine (among_old (-1) 61 p _ lA 7 _ [0, 1, 3, 10, 60, -1, 61] _ w3 Wgap HCgap.out (by omega) LAgap.out rfl hpga rfl rfl hlA1 hlA8 (by omega) HA.out).mono ?_
        rintro e Wgapx ⟨n, rfl, n0, n1, hcN, hgN⟩
        have Rgapx := Lib.hid (at_grown Rgap.out hgN hpR hpw)
        have Bgapx := Lib.hid (at_grown Bgap.out hgN hpb hpw)
        have HCgapx := Lib.hid hcN
        have LAgapx := Lib.hid (grown_trans LAgap.out hgN)
        clear hcN hgN
        refine hK.out _ _ (Blk.of_s Bgapx.out) (fun hHeld => ?_)
        clear hK K
        try simp only [Act.put]
        refine wpAnyE_ready (rs := [10, 12]) (by kernel_rfl) (by simp) ?_
        refine AllReadyE.cons (i := 10) rfl (by decide) (fun K hK => ?_) (AllReadyE.cons (i := 12) rfl (by decide) (fun K hK => ?_) AllReadyE.nil)
        · go_simp
          have hpgapxb : p < Wgapx.heap.size := HCgapx.out.lt
          have hcN := Cur.alloc HCgapx.out (.cells #[.int .i64 1, .int .i64 10, .int .i64 100, .int .i64 1000, .int .i64 0, .int .i64 1001] 3)
          have hgN : Wgapx.grownBy (Wgapx.alloc (.cells #[.int .i64 1, .int .i64 10, .int .i64 100, .int .i64 1000, .int .i64 0, .int .i64 1001] 3)) (some p) := grown_alloc _ _
          have HSgapxb := (Blk.of_s Bgapx.out).alloc (.cells #[.int .i64 1, .int .i64 10, .int .i64 100, .int .i64 1000, .int .i64 0, .int .i64 1001] 3)
          refine hK.out _ _ HSgapxb (fun hHeld => ?_)
          clear hK K
          try simp only [Act.put]
          generalize hWgapxb : Wgapx.alloc (.cells #[.int .i64 1, .int .i64 10, .int .i64 100, .int .i64 1000, .int .i64 0, .int .i64 1001] 3) = Wgapxb at *
          have Rgapxb := Lib.hid (at_grown Rgapx.out hgN hpR hpw)
          have Bgapxb := Lib.hid (at_grown Bgapx.out hgN hpb hpw)
          have HCgapxb := Lib.hid hcN
          clear hcN hgN
          have LBgapxb := Lib.hid (show (Wgapx.alloc (.cells #[.int .i64 1, .int .i64 10, .int .i64 100, .int .i64 1000, .int .i64 0, .int .i64 1001] 3)).grownBy Wgapxb (some p) from by rw [hWgapxb]; exact grown_refl _ _)
          clear hWgapxb
          refine wpAnyE_ready (rs := [12]) (by kernel_rfl) (by simp) ?_
          refine AllReadyE.cons (i := 12) rfl (by decide) (fun K hK => ?_) AllReadyE.nil
          go_simp
          refine (pick p _ 24 Wgapxb HCgapxb.out (by omega) (by omega) (by omega)).mono ?_
          rintro e Wgapxbr ⟨rB, rfl, rB0, rB1, hcN, hgN⟩
          have Rgapxbr := Lib.hid (at_grown Rgapxb.out hgN hpR hpw)
          have Bgapxbr := Lib.hid (at_grown Bgapxb.out hgN hpb hpw)
          have HCgapxbr := Lib.hid hcN
          have LBgapxbr := Lib.hid (grown_trans LBgapxb.out hgN)
          clear hcN hgN
          obtain ⟨mB, hmB, hmB2⟩ := head_len rB0 rB1
          have htB : rB.tdiv 11 = (mB : Int) := by rw [Int.tdiv_eq_ediv_of_nonneg rB0]; exact hmB
          have hwB : IntKind.i64.wrap (mB : Int) = (mB : Int) := IntWalk.i64_in _ (by omega)
          obtain ⟨lB, hlB⟩ : ∃ l : Nat, l = 4 + mB := ⟨_, rfl⟩
          have hvB : IntKind.i64.wrap (4 + (mB : Int)) = (lB : Int) := by rw [IntWalk.i64_in _ (by omega)]; omega
          have hlB7 : (lB : Int) ≤ 6 := by omega
          have hlB1 : 1 ≤ lB := by omega
          have hlB8 : lB ≤ 6 := by omega
          clear hlB
          refine hK.out _ _ (Blk.of_s Bgapxbr.out) (fun hHeld => ?_)
          clear hK K
          try simp only [Act.put]
          refine wpAnyE_take (i := 13) (v := ?vqgapxbr13) rfl (by decide +kernel) (fun _ _ _ h => h) (Or.inl ⟨by rfl, ?hqgapxbr13⟩) (by assumption) ?rqgapxbr13
          case hqgapxbr13 =>
            intro wS hSw
            have m0_ := hSw.cell 0 _ rfl
            have m1_ := hSw.cell 1 _ rfl
            have m2_ := hSw.cell 2 _ rfl
            have m3_ := hSw.cell 3 _ rfl
            have m4_ := hSw.cell 4 _ rfl
            have m5_ := hSw.cell 5 _ rfl
            go_simp
            try with_reducible rfl
          try simp only [Act.put]
          refine wpAnyE_take (i := 14) (v := ?vqgapxbr14) rfl (by decide +kernel) (fun _ _ _ h => h) (Or.inl ⟨by rfl, ?hqgapxbr14⟩) (by assumption) ?rqgapxbr14
          case hqgapxbr14 =>
            intro wS hSw
            have m0_ := hSw.cell 0 _ rfl
            have m1_ := hSw.cell 1 _ rfl
            have m2_ := hSw.cell 2 _ rfl
            have m3_ := hSw.cell 3 _ rfl
            have m4_ := hSw.cell 4 _ rfl
            have m5_ := hSw.cell 5 _ rfl
            go_simp
            try with_reducible rfl
          try simp only [Act.put]
          refine wpAnyE_take (i := 15) (v := ?vqgapxbr15) rfl (by decide +kernel) (fun _ _ _ h => h) (Or.inl ⟨by rfl, ?hqgapxbr15⟩) (by assumption) ?rqgapxbr15
          case hqgapxbr15 =>
            intro wS hSw
            have m0_ := hSw.cell 0 _ rfl
            have m1_ := hSw.cell 1 _ rfl
            have m2_ := hSw.cell 2 _ rfl
            have m3_ := hSw.cell 3 _ rfl
            have m4_ := hSw.cell 4 _ rfl
            have m5_ := hSw.cell 5 _ rfl
            go_simp
            try with_reducible rfl
          try simp only [Act.put]
          refine wpAnyE_ready (rs := [16]) (by kernel_rfl) (by simp) ?_
          refine AllReadyE.cons (i := 16) rfl (by decide) (fun K hK => ?_) AllReadyE.nil
          go_simp
          refine (among_old (0) 1001 p _ lB 6 _ [1, 10, 100, 1000, 0, 1001] _ Wgapx Wgapxbr HCgapxbr.out (by omega) LBgapxbr.out rfl hpgapxb rfl rfl hlB1 hlB8 (by omega) HB.out).mono ?_
          rintro e Wgapxbry ⟨d, rfl, d0, d1, hcN, hgN⟩
          have Rgapxbry := Lib.hid (at_grown Rgapxbr.out hgN hpR hpw)
          have Bgapxbry := Lib.hid (at_grown Bgapxbr.out hgN hpb hpw)
          have HCgapxbry := Lib.hid hcN
          have LBgapxbry := Lib.hid (grown_trans LBgapxbr.out hgN)
          clear hcN hgN
          refine hK.out _ _ (Blk.of_s Bgapxbry.out) (fun hHeld => ?_)
          clear hK K
          try simp only [Act.put]
          have r0_ : Wgapxbry.cell? ⟨w.heap.size, 0, none⟩ = some (.int .i64 0) := Rgapxbry.out.cell 0
          have rf0_ := Rgapxbry.out.frozen 0
          have r1_ : Wgapxbry.cell? ⟨w.heap.size, 1, none⟩ = some (.int .i64 0) := Rgapxbry.out.cell 1
          have rf1_ := Rgapxbry.out.frozen 1
          have r2_ : Wgapxbry.cell? ⟨w.heap.size, 2, none⟩ = some (.int .i64 0) := Rgapxbry.out.cell 2
          have rf2_ := Rgapxbry.out.frozen 2
          have r3_ : Wgapxbry.cell? ⟨w.heap.size, 3, none⟩ = some (.int .i64 0) := Rgapxbry.out.cell 3
          have rf3_ := Rgapxbry.out.frozen 3
          have r4_ : Wgapxbry.cell? ⟨w.heap.size, 4, none⟩ = some (.int .i64 0) := Rgapxbry.out.cell 4
          have rf4_ := Rgapxbry.out.frozen 4
          have r5_ : Wgapxbry.cell? ⟨w.heap.size, 5, none⟩ = some (.int .i64 0) := Rgapxbry.out.cell 5
          have rf5_ := Rgapxbry.out.frozen 5
          refine wpAnyE_ready (rs := [17]) (by kernel_rfl) (by simp) ?_
          refine AllReadyE.cons (i := 17) rfl (by decide) (fun K hK => ?_) AllReadyE.nil
          go_simp
          refine hK.out _ _ (((((((Blk.of_s Bgapxbry.out).other hbR 0 (.int .i64 x)).other hbR 1 (.int .i64 y)).other hbR 2 (.int .i64 u)).other hbR 3 (.int .i64 v)).other hbR 4 (.int .i64 h)).other hbR 5 (.int .i64 c)) (fun hHeld => ?_)
          clear hK K
          try simp only [Act.put]
          refine wpAnyE_ready (rs := [18]) (by kernel_rfl) (by simp) ?_
          refine AllReadyE.cons (i := 18) rfl (by decide) (fun K hK => ?_) AllReadyE.nil
          go_simp
          refine hK.out _ _ (by assumption) (fun hHeld => ?_)
          clear hK K
          try simp only [Act.put]
          refine wpAnyE_ready (rs := [19]) (by kernel_rfl) (by simp) ?_
          refine AllReadyE.last (i := 19) rfl rfl (fun K hK => ?_)
          go_simp
          refine hK.out _ _ ?_
          clear hK K
          try simp only [Act.put]
          refine wpAnyE_done (by kernel_rfl) ?_ _
          try simp only [List.getElem_toArray, List.getElem_cons_succ, List.getElem_cons_zero, List.setIfInBounds_toArray, List.set_cons_succ, List.set_cons_zero]
          have HE := Lib.hid ((((((Rgapxbry.out.set 0 (.int .i64 x)).set 1 (.int .i64 y)).set 2 (.int .i64 u)).set 3 (.int .i64 v)).set 4 (.int .i64 h)).set 5 (.int .i64 c))
          go_wp2_with fail
          have hl := HE.out.load Try.underlying28 rfl (by kernel_rfl)
          refine bodyPost_ret (v := .tuple #[.agg #[.int .i64 x, .int .i64 y, .int .i64 u, .int .i64 v, .int .i64 h, .int .i64 c], .int .i64 n, .int .i64 d]) ?_ rfl ⟨_, _, _, _, _, _, _, _, rfl, HE.out.1⟩
          rw [results_cell_tmp2 rfl]
          simp [asAddr, Result.andThen, hl]
        · go_simp
          refine (pick p _ 24 Wgapx HCgapx.out (by omega) (by omega) (by omega)).mono ?_
          rintro e Wgapxr ⟨rB, rfl, rB0, rB1, hcN, hgN⟩
          have Rgapxr := Lib.hid (at_grown Rgapx.out hgN hpR hpw)
          have Bgapxr := Lib.hid (at_grown Bgapx.out hgN hpb hpw)
          have HCgapxr := Lib.hid hcN
          clear hcN hgN
          obtain ⟨mB, hmB, hmB2⟩ := head_len rB0 rB1
          have htB : rB.tdiv 11 = (mB : Int) := by rw [Int.tdiv_eq_ediv_of_nonneg rB0]; exact hmB
          have hwB : IntKind.i64.wrap (mB : Int) = (mB : Int) := IntWalk.i64_in _ (by omega)
          obtain ⟨lB, hlB⟩ : ∃ l : Nat, l = 4 + mB := ⟨_, rfl⟩
          have hvB : IntKind.i64.wrap (4 + (mB : Int)) = (lB : Int) := by rw [IntWalk.i64_in _ (by omega)]; omega
          have hlB7 : (lB : Int) ≤ 6 := by omega
          have hlB1 : 1 ≤ lB := by omega
          have hlB8 : lB ≤ 6 := by omega
          clear hlB
          refine hK.out _ _ (Blk.of_s Bgapxr.out) (fun hHeld => ?_)
          clear hK K
          try simp only [Act.put]
          refine wpAnyE_take (i := 13) (v := ?vqgapxr13) rfl (by decide +kernel) (fun _ _ _ h => h) (Or.inl ⟨by rfl, ?hqgapxr13⟩) (by assumption) ?rqgapxr13
          case hqgapxr13 =>
            intro wS hSw
            have m0_ := hSw.cell 0 _ rfl
            have m1_ := hSw.cell 1 _ rfl
            have m2_ := hSw.cell 2 _ rfl
            have m3_ := hSw.cell 3 _ rfl
            have m4_ := hSw.cell 4 _ rfl
            have m5_ := hSw.cell 5 _ rfl
            go_simp
            try with_reducible rfl
          try simp only [Act.put]
          refine wpAnyE_take (i := 14) (v := ?vqgapxr14) rfl (by decide +kernel) (fun _ _ _ h => h) (Or.inl ⟨by rfl, ?hqgapxr14⟩) (by assumption) ?rqgapxr14
          case hqgapxr14 =>
            intro wS hSw
            have m0_ := hSw.cell 0 _ rfl
            have m1_ := hSw.cell 1 _ rfl
            have m2_ := hSw.cell 2 _ rfl
            have m3_ := hSw.cell 3 _ rfl
            have m4_ := hSw.cell 4 _ rfl
            have m5_ := hSw.cell 5 _ rfl
            go_simp
            try with_reducible rfl
          try simp only [Act.put]
          refine wpAnyE_ready (rs := [10]) (by kernel_rfl) (by simp) ?_
          refine AllReadyE.cons (i := 10) rfl (by decide) (fun K hK => ?_) AllReadyE.nil
          go_simp
          have hpgapxrb : p < Wgapxr.heap.size := HCgapxr.out.lt
          have hcN := Cur.alloc HCgapxr.out (.cells #[.int .i64 1, .int .i64 10, .int .i64 100, .int .i64 1000, .int .i64 0, .int .i64 1001] 3)
          have hgN : Wgapxr.grownBy (Wgapxr.alloc (.cells #[.int .i64 1, .int .i64 10, .int .i64 100, .int .i64 1000, .int .i64 0, .int .i64 1001] 3)) (some p) := grown_alloc _ _
          have HSgapxrb := (Blk.of_s Bgapxr.out).alloc (.cells #[.int .i64 1, .int .i64 10, .int .i64 100, .int .i64 1000, .int .i64 0, .int .i64 1001] 3)
          refine hK.out _ _ HSgapxrb (fun hHeld => ?_)
          clear hK K
          try simp only [Act.put]
          generalize hWgapxrb : Wgapxr.alloc (.cells #[.int .i64 1, .int .i64 10, .int .i64 100, .int .i64 1000, .int .i64 0, .int .i64 1001] 3) = Wgapxrb at *
          have Rgapxrb := Lib.hid (at_grown Rgapxr.out hgN hpR hpw)
          have Bgapxrb := Lib.hid (at_grown Bgapxr.out hgN hpb hpw)
          have HCgapxrb := Lib.hid hcN
          clear hcN hgN
          have LBgapxrb := Lib.hid (show (Wgapxr.alloc (.cells #[.int .i64 1, .int .i64 10, .int .i64 100, .int .i64 1000, .int .i64 0, .int .i64 1001] 3)).grownBy Wgapxrb (some p) from by rw [hWgapxrb]; exact grown_refl _ _)
          clear hWgapxrb
          refine wpAnyE_take (i := 15) (v := ?vqgapxrb15) rfl (by decide +kernel) (fun _ _ _ h => h) (Or.inl ⟨by rfl, ?hqgapxrb15⟩) (by assumption) ?rqgapxrb15
          case hqgapxrb15 =>
            intro wS hSw
            have m0_ := hSw.cell 0 _ rfl
            have m1_ := hSw.cell 1 _ rfl
            have m2_ := hSw.cell 2 _ rfl
            have m3_ := hSw.cell 3 _ rfl
            have m4_ := hSw.cell 4 _ rfl
            have m5_ := hSw.cell 5 _ rfl
            go_simp
            try with_reducible rfl
          try simp only [Act.put]
          refine wpAnyE_ready (rs := [16]) (by kernel_rfl) (by simp) ?_
          refine AllReadyE.cons (i := 16) rfl (by decide) (fun K hK => ?_) AllReadyE.nil
          go_simp
          refine (among_old (0) 1001 p _ lB 6 _ [1, 10, 100, 1000, 0, 1001] _ Wgapxr Wgapxrb HCgapxrb.out (by omega) LBgapxrb.out rfl hpgapxrb rfl rfl hlB1 hlB8 (by omega) HB.out).mono ?_
          rintro e Wgapxrby ⟨d, rfl, d0, d1, hcN, hgN⟩
          have Rgapxrby := Lib.hid (at_grown Rgapxrb.out hgN hpR hpw)
          have Bgapxrby := Lib.hid (at_grown Bgapxrb.out hgN hpb hpw)
          have HCgapxrby := Lib.hid hcN
          have LBgapxrby := Lib.hid (grown_trans LBgapxrb.out hgN)
          clear hcN hgN
          refine hK.out _ _ (Blk.of_s Bgapxrby.out) (fun hHeld => ?_)
          clear hK K
          try simp only [Act.put]
          have r0_ : Wgapxrby.cell? ⟨w.heap.size, 0, none⟩ = some (.int .i64 0) := Rgapxrby.out.cell 0
          have rf0_ := Rgapxrby.out.frozen 0
          have r1_ : Wgapxrby.cell? ⟨w.heap.size, 1, none⟩ = some (.int .i64 0) := Rgapxrby.out.cell 1
          have rf1_ := Rgapxrby.out.frozen 1
          have r2_ : Wgapxrby.cell? ⟨w.heap.size, 2, none⟩ = some (.int .i64 0) := Rgapxrby.out.cell 2
          have rf2_ := Rgapxrby.out.frozen 2
          have r3_ : Wgapxrby.cell? ⟨w.heap.size, 3, none⟩ = some (.int .i64 0) := Rgapxrby.out.cell 3
          have rf3_ := Rgapxrby.out.frozen 3
          have r4_ : Wgapxrby.cell? ⟨w.heap.size, 4, none⟩ = some (.int .i64 0) := Rgapxrby.out.cell 4
          have rf4_ := Rgapxrby.out.frozen 4
          have r5_ : Wgapxrby.cell? ⟨w.heap.size, 5, none⟩ = some (.int .i64 0) := Rgapxrby.out.cell 5
          have rf5_ := Rgapxrby.out.frozen 5
          refine wpAnyE_ready (rs := [17]) (by kernel_rfl) (by simp) ?_
          refine AllReadyE.cons (i := 17) rfl (by decide) (fun K hK => ?_) AllReadyE.nil
          go_simp
          refine hK.out _ _ (((((((Blk.of_s Bgapxrby.out).other hbR 0 (.int .i64 x)).other hbR 1 (.int .i64 y)).other hbR 2 (.int .i64 u)).other hbR 3 (.int .i64 v)).other hbR 4 (.int .i64 h)).other hbR 5 (.int .i64 c)) (fun hHeld => ?_)
          clear hK K
          try simp only [Act.put]
          refine wpAnyE_ready (rs := [18]) (by kernel_rfl) (by simp) ?_
          refine AllReadyE.cons (i := 18) rfl (by decide) (fun K hK => ?_) AllReadyE.nil
          go_simp
          refine hK.out _ _ (by assumption) (fun hHeld => ?_)
          clear hK K
          try simp only [Act.put]
          refine wpAnyE_ready (rs := [19]) (by kernel_rfl) (by simp) ?_
          refine AllReadyE.last (i := 19) rfl rfl (fun K hK => ?_)
          go_simp
          refine hK.out _ _ ?_
          clear hK K
          try simp only [Act.put]
          refine wpAnyE_done (by kernel_rfl) ?_ _
          try simp only [List.getElem_toArray, List.getElem_cons_succ, List.getElem_cons_zero, List.setIfInBounds_toArray, List.set_cons_succ, List.set_cons_zero]
          have HE := Lib.hid ((((((Rgapxrby.out.set 0 (.int .i64 x)).set 1 (.int .i64 y)).set 2 (.int .i64 u)).set 3 (.int .i64 v)).set 4 (.int .i64 h)).set 5 (.int .i64 c))
          go_wp2_with fail
          have hl := HE.out.load Try.underlying28 rfl (by kernel_rfl)
          refine bodyPost_ret (v := .tuple #[.agg #[.int .i64 x, .int .i64 y, .int .i64 u, .int .i64 v, .int .i64 h, .int .i64 c], .int .i64 n, .int .i64 d]) ?_ rfl ⟨_, _, _, _, _, _, _, _, rfl, HE.out.1⟩
          rw [results_cell_tmp2 rfl]
          simp [asAddr, Result.andThen, hl]
      · go_simp
        have hpgapb : p < Wgap.heap.size := HCgap.out.lt
        have hcN := Cur.alloc HCgap.out (.cells #[.int .i64 1, .int .i64 10, .int .i64 100, .int .i64 1000, .int .i64 0, .int .i64 1001] 3)
        have hgN : Wgap.grownBy (Wgap.alloc (.cells #[.int .i64 1, .int .i64 10, .int .i64 100, .int .i64 1000, .int .i64 0, .int .i64 1001] 3)) (some p) := grown_alloc _ _
        have HSgapb := (Blk.of_s Bgap.out).alloc (.cells #[.int .i64 1, .int .i64 10, .int .i64 100, .int .i64 1000, .int .i64 0, .int .i64 1001] 3)
        refine hK.out _ _ HSgapb (fun hHeld => ?_)
        clear hK K
        try simp only [Act.put]
        generalize hWgapb : Wgap.alloc (.cells #[.int .i64 1, .int .i64 10, .int .i64 100, .int .i64 1000, .int .i64 0, .int .i64 1001] 3) = Wgapb at *
        have Rgapb := Lib.hid (at_grown Rgap.out hgN hpR hpw)
        have Bgapb := Lib.hid (at_grown Bgap.out hgN hpb hpw)
        have HCgapb := Lib.hid hcN
        have LAgapb := Lib.hid (grown_trans LAgap.out hgN)
        clear hcN hgN
        have LBgapb := Lib.hid (show (Wgap.alloc (.cells #[.int .i64 1, .int .i64 10, .int .i64 100, .int .i64 1000, .int .i64 0, .int .i64 1001] 3)).grownBy Wgapb (some p) from by rw [hWgapb]; exact grown_refl _ _)
        clear hWgapb
        refine wpAnyE_ready (rs := [8]) (by kernel_rfl) (by simp) ?_
        refine AllReadyE.cons (i := 8) rfl (by decide) (fun K hK => ?_) AllReadyE.nil
        go_simp
        refine (among_old (-1) 61 p _ lA 7 _ [0, 1, 3, 10, 60, -1, 61] _ w3 Wgapb HCgapb.out (by omega) LAgapb.out rfl hpga rfl rfl hlA1 hlA8 (by omega) HA.out).mono ?_
        rintro e Wgapbx ⟨n, rfl, n0, n1, hcN, hgN⟩
        have Rgapbx := Lib.hid (at_grown Rgapb.out hgN hpR hpw)
        have Bgapbx := Lib.hid (at_grown Bgapb.out hgN hpb hpw)
        have HCgapbx := Lib.hid hcN
        have LAgapbx := Lib.hid (grown_trans LAgapb.out hgN)
        have LBgapbx := Lib.hid (grown_trans LBgapb.out hgN)
        clear hcN hgN
        refine hK.out _ _ (Blk.of_s Bgapbx.out) (fun hHeld => ?_)
        clear hK K
        try simp only [Act.put]
        refine wpAnyE_ready (rs := [12]) (by kernel_rfl) (by simp) ?_
        refine AllReadyE.cons (i := 12) rfl (by decide) (fun K hK => ?_) AllReadyE.nil
        go_simp
        refine (pick p _ 24 Wgapbx HCgapbx.out (by omega) (by omega) (by omega)).mono ?_
        rintro e Wgapbxr ⟨rB, rfl, rB0, rB1, hcN, hgN⟩
        have Rgapbxr := Lib.hid (at_grown Rgapbx.out hgN hpR hpw)
        have Bgapbxr := Lib.hid (at_grown Bgapbx.out hgN hpb hpw)
        have HCgapbxr := Lib.hid hcN
        have LBgapbxr := Lib.hid (grown_trans LBgapbx.out hgN)
        clear hcN hgN
        obtain ⟨mB, hmB, hmB2⟩ := head_len rB0 rB1
        have htB : rB.tdiv 11 = (mB : Int) := by rw [Int.tdiv_eq_ediv_of_nonneg rB0]; exact hmB
        have hwB : IntKind.i64.wrap (mB : Int) = (mB : Int) := IntWalk.i64_in _ (by omega)
        obtain ⟨lB, hlB⟩ : ∃ l : Nat, l = 4 + mB := ⟨_, rfl⟩
        have hvB : IntKind.i64.wrap (4 + (mB : Int)) = (lB : Int) := by rw [IntWalk.i64_in _ (by omega)]; omega
        have hlB7 : (lB : Int) ≤ 6 := by omega
        have hlB1 : 1 ≤ lB := by omega
        have hlB8 : lB ≤ 6 := by omega
        clear hlB
        refine hK.out _ _ (Blk.of_s Bgapbxr.out) (fun hHeld => ?_)
        clear hK K
        try simp only [Act.put]
        refine wpAnyE_take (i := 13) (v := ?vqgapbxr13) rfl (by decide +kernel) (fun _ _ _ h => h) (Or.inl ⟨by rfl, ?hqgapbxr13⟩) (by assumption) ?rqgapbxr13
        case hqgapbxr13 =>
          intro wS hSw
          have m0_ := hSw.cell 0 _ rfl
          have m1_ := hSw.cell 1 _ rfl
          have m2_ := hSw.cell 2 _ rfl
          have m3_ := hSw.cell 3 _ rfl
          have m4_ := hSw.cell 4 _ rfl
          have m5_ := hSw.cell 5 _ rfl
          go_simp
          try with_reducible rfl
        try simp only [Act.put]
        refine wpAnyE_take (i := 14) (v := ?vqgapbxr14) rfl (by decide +kernel) (fun _ _ _ h => h) (Or.inl ⟨by rfl, ?hqgapbxr14⟩) (by assumption) ?rqgapbxr14
        case hqgapbxr14 =>
          intro wS hSw
          have m0_ := hSw.cell 0 _ rfl
          have m1_ := hSw.cell 1 _ rfl
          have m2_ := hSw.cell 2 _ rfl
          have m3_ := hSw.cell 3 _ rfl
          have m4_ := hSw.cell 4 _ rfl
          have m5_ := hSw.cell 5 _ rfl
          go_simp
          try with_reducible rfl
        try simp only [Act.put]
        refine wpAnyE_take (i := 15) (v := ?vqgapbxr15) rfl (by decide +kernel) (fun _ _ _ h => h) (Or.inl ⟨by rfl, ?hqgapbxr15⟩) (by assumption) ?rqgapbxr15
        case hqgapbxr15 =>
          intro wS hSw
          have m0_ := hSw.cell 0 _ rfl
          have m1_ := hSw.cell 1 _ rfl
          have m2_ := hSw.cell 2 _ rfl
          have m3_ := hSw.cell 3 _ rfl
          have m4_ := hSw.cell 4 _ rfl
          have m5_ := hSw.cell 5 _ rfl
          go_simp
          try with_reducible rfl
        try simp only [Act.put]
        refine wpAnyE_ready (rs := [16]) (by kernel_rfl) (by simp) ?_
        refine AllReadyE.cons (i := 16) rfl (by decide) (fun K hK => ?_) AllReadyE.nil
        go_simp
        refine (among_old (0) 1001 p _ lB 6 _ [1, 10, 100, 1000, 0, 1001] _ Wgap Wgapbxr HCgapbxr.out (by omega) LBgapbxr.out rfl hpgapb rfl rfl hlB1 hlB8 (by omega) HB.out).mono ?_
        rintro e Wgapbxry ⟨d, rfl, d0, d1, hcN, hgN⟩
        have Rgapbxry := Lib.hid (at_grown Rgapbxr.out hgN hpR hpw)
        have Bgapbxry := Lib.hid (at_grown Bgapbxr.out hgN hpb hpw)
        have HCgapbxry := Lib.hid hcN
        have LBgapbxry := Lib.hid (grown_trans LBgapbxr.out hgN)
        clear hcN hgN
        refine hK.out _ _ (Blk.of_s Bgapbxry.out) (fun hHeld => ?_)
        clear hK K
        try simp only [Act.put]
        have r0_ : Wgapbxry.cell? ⟨w.heap.size, 0, none⟩ = some (.int .i64 0) := Rgapbxry.out.cell 0
        have rf0_ := Rgapbxry.out.frozen 0
        have r1_ : Wgapbxry.cell? ⟨w.heap.size, 1, none⟩ = some (.int .i64 0) := Rgapbxry.out.cell 1
        have rf1_ := Rgapbxry.out.frozen 1
        have r2_ : Wgapbxry.cell? ⟨w.heap.size, 2, none⟩ = some (.int .i64 0) := Rgapbxry.out.cell 2
        have rf2_ := Rgapbxry.out.frozen 2
        have r3_ : Wgapbxry.cell? ⟨w.heap.size, 3, none⟩ = some (.int .i64 0) := Rgapbxry.out.cell 3
        have rf3_ := Rgapbxry.out.frozen 3
        have r4_ : Wgapbxry.cell? ⟨w.heap.size, 4, none⟩ = some (.int .i64 0) := Rgapbxry.out.cell 4
        have rf4_ := Rgapbxry.out.frozen 4
        have r5_ : Wgapbxry.cell? ⟨w.heap.size, 5, none⟩ = some (.int .i64 0) := Rgapbxry.out.cell 5
        have rf5_ := Rgapbxry.out.frozen 5
        refine wpAnyE_ready (rs := [17]) (by kernel_rfl) (by simp) ?_
        refine AllReadyE.cons (i := 17) rfl (by decide) (fun K hK => ?_) AllReadyE.nil
        go_simp
        refine hK.out _ _ (((((((Blk.of_s Bgapbxry.out).other hbR 0 (.int .i64 x)).other hbR 1 (.int .i64 y)).other hbR 2 (.int .i64 u)).other hbR 3 (.int .i64 v)).other hbR 4 (.int .i64 h)).other hbR 5 (.int .i64 c)) (fun hHeld => ?_)
        clear hK K
        try simp only [Act.put]
        refine wpAnyE_ready (rs := [18]) (by kernel_rfl) (by simp) ?_
        refine AllReadyE.cons (i := 18) rfl (by decide) (fun K hK => ?_) AllReadyE.nil
        go_simp
        refine hK.out _ _ (by assumption) (fun hHeld => ?_)
        clear hK K
        try simp only [Act.put]
        refine wpAnyE_ready (rs := [19]) (by kernel_rfl) (by simp) ?_
        refine AllReadyE.last (i := 19) rfl rfl (fun K hK => ?_)
        go_simp
        refine hK.out _ _ ?_
        clear hK K
        try simp only [Act.put]
        refine wpAnyE_done (by kernel_rfl) ?_ _
        try simp only [List.getElem_toArray, List.getElem_cons_succ, List.getElem_cons_zero, List.setIfInBounds_toArray, List.set_cons_succ, List.set_cons_zero]
        have HE := Lib.hid ((((((Rgapbxry.out.set 0 (.int .i64 x)).set 1 (.int .i64 y)).set 2 (.int .i64 u)).set 3 (.int .i64 v)).set 4 (.int .i64 h)).set 5 (.int .i64 c))
        go_wp2_with fail
        have hl := HE.out.load Try.underlying28 rfl (by kernel_rfl)
        refine bodyPost_ret (v := .tuple #[.agg #[.int .i64 x, .int .i64 y, .int .i64 u, .int .i64 v, .int .i64 h, .int .i64 c], .int .i64 n, .int .i64 d]) ?_ rfl ⟨_, _, _, _, _, _, _, _, rfl, HE.out.1⟩
        rw [results_cell_tmp2 rfl]
        simp [asAddr, Result.andThen, hl]
    · go_simp
      have hpgab : p < Wga.heap.size := HCga.out.lt
      have hcN := Cur.alloc HCga.out (.cells #[.int .i64 1, .int .i64 10, .int .i64 100, .int .i64 1000, .int .i64 0, .int .i64 1001] 3)
      have hgN : Wga.grownBy (Wga.alloc (.cells #[.int .i64 1, .int .i64 10, .int .i64 100, .int .i64 1000, .int .i64 0, .int .i64 1001] 3)) (some p) := grown_alloc _ _
      have HSgab := (Blk.of_s Bga.out).alloc (.cells #[.int .i64 1, .int .i64 10, .int .i64 100, .int .i64 1000, .int .i64 0, .int .i64 1001] 3)
      refine hK.out _ _ HSgab (fun hHeld => ?_)
      clear hK K
      try simp only [Act.put]
      generalize hWgab : Wga.alloc (.cells #[.int .i64 1, .int .i64 10, .int .i64 100, .int .i64 1000, .int .i64 0, .int .i64 1001] 3) = Wgab at *
      have Rgab := Lib.hid (at_grown Rga.out hgN hpR hpw)
      have Bgab := Lib.hid (at_grown Bga.out hgN hpb hpw)
      have HCgab := Lib.hid hcN
      have LAgab := Lib.hid (grown_trans LAga.out hgN)
      clear hcN hgN
      have LBgab := Lib.hid (show (Wga.alloc (.cells #[.int .i64 1, .int .i64 10, .int .i64 100, .int .i64 1000, .int .i64 0, .int .i64 1001] 3)).grownBy Wgab (some p) from by rw [hWgab]; exact grown_refl _ _)
      clear hWgab
      refine wpAnyE_ready (rs := [4]) (by kernel_rfl) (by simp) ?_
      refine AllReadyE.cons (i := 4) rfl (by decide) (fun K hK => ?_) AllReadyE.nil
      go_simp
      refine (pick p _ 24 Wgab HCgab.out (by omega) (by omega) (by omega)).mono ?_
      rintro e Wgabp ⟨rA, rfl, rA0, rA1, hcN, hgN⟩
      have Rgabp := Lib.hid (at_grown Rgab.out hgN hpR hpw)
      have Bgabp := Lib.hid (at_grown Bgab.out hgN hpb hpw)
      have HCgabp := Lib.hid hcN
      have LAgabp := Lib.hid (grown_trans LAgab.out hgN)
      have LBgabp := Lib.hid (grown_trans LBgab.out hgN)
      clear hcN hgN
      obtain ⟨mA, hmA, hmA2⟩ := head_len rA0 rA1
      have htA : rA.tdiv 11 = (mA : Int) := by rw [Int.tdiv_eq_ediv_of_nonneg rA0]; exact hmA
      have hwA : IntKind.i64.wrap (mA : Int) = (mA : Int) := IntWalk.i64_in _ (by omega)
      obtain ⟨lA, hlA⟩ : ∃ l : Nat, l = 5 + mA := ⟨_, rfl⟩
      have hvA : IntKind.i64.wrap (5 + (mA : Int)) = (lA : Int) := by rw [IntWalk.i64_in _ (by omega)]; omega
      have hlA7 : (lA : Int) ≤ 7 := by omega
      have hlA1 : 1 ≤ lA := by omega
      have hlA8 : lA ≤ 7 := by omega
      clear hlA
      refine hK.out _ _ (Blk.of_s Bgabp.out) (fun hHeld => ?_)
      clear hK K
      try simp only [Act.put]
      refine wpAnyE_take (i := 5) (v := ?vqgabp5) rfl (by decide +kernel) (fun _ _ _ h => h) (Or.inl ⟨by rfl, ?hqgabp5⟩) (by assumption) ?rqgabp5
      case hqgabp5 =>
        intro wS hSw
        have m0_ := hSw.cell 0 _ rfl
        have m1_ := hSw.cell 1 _ rfl
        have m2_ := hSw.cell 2 _ rfl
        have m3_ := hSw.cell 3 _ rfl
        have m4_ := hSw.cell 4 _ rfl
        have m5_ := hSw.cell 5 _ rfl
        go_simp
        try with_reducible rfl
      try simp only [Act.put]
      refine wpAnyE_take (i := 6) (v := ?vqgabp6) rfl (by decide +kernel) (fun _ _ _ h => h) (Or.inl ⟨by rfl, ?hqgabp6⟩) (by assumption) ?rqgabp6
      case hqgabp6 =>
        intro wS hSw
        have m0_ := hSw.cell 0 _ rfl
        have m1_ := hSw.cell 1 _ rfl
        have m2_ := hSw.cell 2 _ rfl
        have m3_ := hSw.cell 3 _ rfl
        have m4_ := hSw.cell 4 _ rfl
        have m5_ := hSw.cell 5 _ rfl
        go_simp
        try with_reducible rfl
      try simp only [Act.put]
      refine wpAnyE_take (i := 7) (v := ?vqgabp7) rfl (by decide +kernel) (fun _ _ _ h => h) (Or.inl ⟨by rfl, ?hqgabp7⟩) (by assumption) ?rqgabp7
      case hqgabp7 =>
        intro wS hSw
        have m0_ := hSw.cell 0 _ rfl
        have m1_ := hSw.cell 1 _ rfl
        have m2_ := hSw.cell 2 _ rfl
        have m3_ := hSw.cell 3 _ rfl
        have m4_ := hSw.cell 4 _ rfl
        have m5_ := hSw.cell 5 _ rfl
        go_simp
        try with_reducible rfl
      try simp only [Act.put]
      refine wpAnyE_ready (rs := [8]) (by kernel_rfl) (by simp) ?_
      refine AllReadyE.cons (i := 8) rfl (by decide) (fun K hK => ?_) AllReadyE.nil
      go_simp
      refine (among_old (-1) 61 p _ lA 7 _ [0, 1, 3, 10, 60, -1, 61] _ w3 Wgabp HCgabp.out (by omega) LAgabp.out rfl hpga rfl rfl hlA1 hlA8 (by omega) HA.out).mono ?_
      rintro e Wgabpx ⟨n, rfl, n0, n1, hcN, hgN⟩
      have Rgabpx := Lib.hid (at_grown Rgabp.out hgN hpR hpw)
      have Bgabpx := Lib.hid (at_grown Bgabp.out hgN hpb hpw)
      have HCgabpx := Lib.hid hcN
      have LAgabpx := Lib.hid (grown_trans LAgabp.out hgN)
      have LBgabpx := Lib.hid (grown_trans LBgabp.out hgN)
      clear hcN hgN
      refine hK.out _ _ (Blk.of_s Bgabpx.out) (fun hHeld => ?_)
      clear hK K
      try simp only [Act.put]
      refine wpAnyE_ready (rs := [12]) (by kernel_rfl) (by simp) ?_
      refine AllReadyE.cons (i := 12) rfl (by decide) (fun K hK => ?_) AllReadyE.nil
      go_simp
      refine (pick p _ 24 Wgabpx HCgabpx.out (by omega) (by omega) (by omega)).mono ?_
      rintro e Wgabpxr ⟨rB, rfl, rB0, rB1, hcN, hgN⟩
      have Rgabpxr := Lib.hid (at_grown Rgabpx.out hgN hpR hpw)
      have Bgabpxr := Lib.hid (at_grown Bgabpx.out hgN hpb hpw)
      have HCgabpxr := Lib.hid hcN
      have LBgabpxr := Lib.hid (grown_trans LBgabpx.out hgN)
      clear hcN hgN
      obtain ⟨mB, hmB, hmB2⟩ := head_len rB0 rB1
      have htB : rB.tdiv 11 = (mB : Int) := by rw [Int.tdiv_eq_ediv_of_nonneg rB0]; exact hmB
      have hwB : IntKind.i64.wrap (mB : Int) = (mB : Int) := IntWalk.i64_in _ (by omega)
      obtain ⟨lB, hlB⟩ : ∃ l : Nat, l = 4 + mB := ⟨_, rfl⟩
      have hvB : IntKind.i64.wrap (4 + (mB : Int)) = (lB : Int) := by rw [IntWalk.i64_in _ (by omega)]; omega
      have hlB7 : (lB : Int) ≤ 6 := by omega
      have hlB1 : 1 ≤ lB := by omega
      have hlB8 : lB ≤ 6 := by omega
      clear hlB
      refine hK.out _ _ (Blk.of_s Bgabpxr.out) (fun hHeld => ?_)
      clear hK K
      try simp only [Act.put]
      refine wpAnyE_take (i := 13) (v := ?vqgabpxr13) rfl (by decide +kernel) (fun _ _ _ h => h) (Or.inl ⟨by rfl, ?hqgabpxr13⟩) (by assumption) ?rqgabpxr13
      case hqgabpxr13 =>
        intro wS hSw
        have m0_ := hSw.cell 0 _ rfl
        have m1_ := hSw.cell 1 _ rfl
        have m2_ := hSw.cell 2 _ rfl
        have m3_ := hSw.cell 3 _ rfl
        have m4_ := hSw.cell 4 _ rfl
        have m5_ := hSw.cell 5 _ rfl
        go_simp
        try with_reducible rfl
      try simp only [Act.put]
      refine wpAnyE_take (i := 14) (v := ?vqgabpxr14) rfl (by decide +kernel) (fun _ _ _ h => h) (Or.inl ⟨by rfl, ?hqgabpxr14⟩) (by assumption) ?rqgabpxr14
      case hqgabpxr14 =>
        intro wS hSw
        have m0_ := hSw.cell 0 _ rfl
        have m1_ := hSw.cell 1 _ rfl
        have m2_ := hSw.cell 2 _ rfl
        have m3_ := hSw.cell 3 _ rfl
        have m4_ := hSw.cell 4 _ rfl
        have m5_ := hSw.cell 5 _ rfl
        go_simp
        try with_reducible rfl
      try simp only [Act.put]
      refine wpAnyE_take (i := 15) (v := ?vqgabpxr15) rfl (by decide +kernel) (fun _ _ _ h => h) (Or.inl ⟨by rfl, ?hqgabpxr15⟩) (by assumption) ?rqgabpxr15
      case hqgabpxr15 =>
        intro wS hSw
        have m0_ := hSw.cell 0 _ rfl
        have m1_ := hSw.cell 1 _ rfl
        have m2_ := hSw.cell 2 _ rfl
        have m3_ := hSw.cell 3 _ rfl
        have m4_ := hSw.cell 4 _ rfl
        have m5_ := hSw.cell 5 _ rfl
        go_simp
        try with_reducible rfl
      try simp only [Act.put]
      refine wpAnyE_ready (rs := [16]) (by kernel_rfl) (by simp) ?_
      refine AllReadyE.cons (i := 16) rfl (by decide) (fun K hK => ?_) AllReadyE.nil
      go_simp
      refine (among_old (0) 1001 p _ lB 6 _ [1, 10, 100, 1000, 0, 1001] _ Wga Wgabpxr HCgabpxr.out (by omega) LBgabpxr.out rfl hpgab rfl rfl hlB1 hlB8 (by omega) HB.out).mono ?_
      rintro e Wgabpxry ⟨d, rfl, d0, d1, hcN, hgN⟩
      have Rgabpxry := Lib.hid (at_grown Rgabpxr.out hgN hpR hpw)
      have Bgabpxry := Lib.hid (at_grown Bgabpxr.out hgN hpb hpw)
      have HCgabpxry := Lib.hid hcN
      have LBgabpxry := Lib.hid (grown_trans LBgabpxr.out hgN)
      clear hcN hgN
      refine hK.out _ _ (Blk.of_s Bgabpxry.out) (fun hHeld => ?_)
      clear hK K
      try simp only [Act.put]
      have r0_ : Wgabpxry.cell? ⟨w.heap.size, 0, none⟩ = some (.int .i64 0) := Rgabpxry.out.cell 0
      have rf0_ := Rgabpxry.out.frozen 0
      have r1_ : Wgabpxry.cell? ⟨w.heap.size, 1, none⟩ = some (.int .i64 0) := Rgabpxry.out.cell 1
      have rf1_ := Rgabpxry.out.frozen 1
      have r2_ : Wgabpxry.cell? ⟨w.heap.size, 2, none⟩ = some (.int .i64 0) := Rgabpxry.out.cell 2
      have rf2_ := Rgabpxry.out.frozen 2
      have r3_ : Wgabpxry.cell? ⟨w.heap.size, 3, none⟩ = some (.int .i64 0) := Rgabpxry.out.cell 3
      have rf3_ := Rgabpxry.out.frozen 3
      have r4_ : Wgabpxry.cell? ⟨w.heap.size, 4, none⟩ = some (.int .i64 0) := Rgabpxry.out.cell 4
      have rf4_ := Rgabpxry.out.frozen 4
      have r5_ : Wgabpxry.cell? ⟨w.heap.size, 5, none⟩ = some (.int .i64 0) := Rgabpxry.out.cell 5
      have rf5_ := Rgabpxry.out.frozen 5
      refine wpAnyE_ready (rs := [17]) (by kernel_rfl) (by simp) ?_
      refine AllReadyE.cons (i := 17) rfl (by decide) (fun K hK => ?_) AllReadyE.nil
      go_simp
      refine hK.out _ _ (((((((Blk.of_s Bgabpxry.out).other hbR 0 (.int .i64 x)).other hbR 1 (.int .i64 y)).other hbR 2 (.int .i64 u)).other hbR 3 (.int .i64 v)).other hbR 4 (.int .i64 h)).other hbR 5 (.int .i64 c)) (fun hHeld => ?_)
      clear hK K
      try simp only [Act.put]
      refine wpAnyE_ready (rs := [18]) (by kernel_rfl) (by simp) ?_
      refine AllReadyE.cons (i := 18) rfl (by decide) (fun K hK => ?_) AllReadyE.nil
      go_simp
      refine hK.out _ _ (by assumption) (fun hHeld => ?_)
      clear hK K
      try simp only [Act.put]
      refine wpAnyE_ready (rs := [19]) (by kernel_rfl) (by simp) ?_
      refine AllReadyE.last (i := 19) rfl rfl (fun K hK => ?_)
      go_simp
      refine hK.out _ _ ?_
      clear hK K
      try simp only [Act.put]
      refine wpAnyE_done (by kernel_rfl) ?_ _
      try simp only [List.getElem_toArray, List.getElem_cons_succ, List.getElem_cons_zero, List.setIfInBounds_toArray, List.set_cons_succ, List.set_cons_zero]
      have HE := Lib.hid ((((((Rgabpxry.out.set 0 (.int .i64 x)).set 1 (.int .i64 y)).set 2 (.int .i64 u)).set 3 (.int .i64 v)).set 4 (.int .i64 h)).set 5 (.int .i64 c))
      go_wp2_with fail
      have hl := HE.out.load Try.underlying28 rfl (by kernel_rfl)
      refine bodyPost_ret (v := .tuple #[.agg #[.int .i64 x, .int .i64 y, .int .i64 u, .int .i64 v, .int .i64 h, .int .i64 c], .int .i64 n, .int .i64 d]) ?_ rfl ⟨_, _, _, _, _, _, _, _, rfl, HE.out.1⟩
      rw [results_cell_tmp2 rfl]
      simp [asAddr, Result.andThen, hl]
  · go_simp
    refine (pick p _ 24 w3 HC3.out (by omega) (by omega) (by omega)).mono ?_
    rintro e Wgp ⟨rA, rfl, rA0, rA1, hcN, hgN⟩
    have Rgp := Lib.hid (at_grown R3.out hgN hpR hpw)
    have Bgp := Lib.hid (at_grown B3.out hgN hpb hpw)
    have HCgp := Lib.hid hcN
    clear hcN hgN
    obtain ⟨mA, hmA, hmA2⟩ := head_len rA0 rA1
    have htA : rA.tdiv 11 = (mA : Int) := by rw [Int.tdiv_eq_ediv_of_nonneg rA0]; exact hmA
    have hwA : IntKind.i64.wrap (mA : Int) = (mA : Int) := IntWalk.i64_in _ (by omega)
    obtain ⟨lA, hlA⟩ : ∃ l : Nat, l = 5 + mA := ⟨_, rfl⟩
    have hvA : IntKind.i64.wrap (5 + (mA : Int)) = (lA : Int) := by rw [IntWalk.i64_in _ (by omega)]; omega
    have hlA7 : (lA : Int) ≤ 7 := by omega
    have hlA1 : 1 ≤ lA := by omega
    have hlA8 : lA ≤ 7 := by omega
    clear hlA
    refine hK.out _ _ (Blk.of_s Bgp.out) (fun hHeld => ?_)
    clear hK K
    try simp only [Act.put]
    refine wpAnyE_take (i := 5) (v := ?vqgp5) rfl (by decide +kernel) (fun _ _ _ h => h) (Or.inl ⟨by rfl, ?hqgp5⟩) (by assumption) ?rqgp5
    case hqgp5 =>
      intro wS hSw
      have m0_ := hSw.cell 0 _ rfl
      have m1_ := hSw.cell 1 _ rfl
      have m2_ := hSw.cell 2 _ rfl
      have m3_ := hSw.cell 3 _ rfl
      have m4_ := hSw.cell 4 _ rfl
      have m5_ := hSw.cell 5 _ rfl
      go_simp
      try with_reducible rfl
    try simp only [Act.put]
    refine wpAnyE_take (i := 6) (v := ?vqgp6) rfl (by decide +kernel) (fun _ _ _ h => h) (Or.inl ⟨by rfl, ?hqgp6⟩) (by assumption) ?rqgp6
    case hqgp6 =>
      intro wS hSw
      have m0_ := hSw.cell 0 _ rfl
      have m1_ := hSw.cell 1 _ rfl
      have m2_ := hSw.cell 2 _ rfl
      have m3_ := hSw.cell 3 _ rfl
      have m4_ := hSw.cell 4 _ rfl
      have m5_ := hSw.cell 5 _ rfl
      go_simp
      try with_reducible rfl
    try simp only [Act.put]
    refine wpAnyE_ready (rs := [2, 10]) (by kernel_rfl) (by simp) ?_
    refine AllReadyE.cons (i := 2) rfl (by decide) (fun K hK => ?_) (AllReadyE.cons (i := 10) rfl (by decide) (fun K hK => ?_) AllReadyE.nil)
    · go_simp
      have hpgpa : p < Wgp.heap.size := HCgp.out.lt
      have hcN := Cur.alloc HCgp.out (.cells #[.int .i64 0, .int .i64 1, .int .i64 3, .int .i64 10, .int .i64 60, .int .i64 (-1), .int .i64 61] 3)
      have hgN : Wgp.grownBy (Wgp.alloc (.cells #[.int .i64 0, .int .i64 1, .int .i64 3, .int .i64 10, .int .i64 60, .int .i64 (-1), .int .i64 61] 3)) (some p) := grown_alloc _ _
      have HSgpa := (Blk.of_s Bgp.out).alloc (.cells #[.int .i64 0, .int .i64 1, .int .i64 3, .int .i64 10, .int .i64 60, .int .i64 (-1), .int .i64 61] 3)
      refine hK.out _ _ HSgpa (fun hHeld => ?_)
      clear hK K
      try simp only [Act.put]
      generalize hWgpa : Wgp.alloc (.cells #[.int .i64 0, .int .i64 1, .int .i64 3, .int .i64 10, .int .i64 60, .int .i64 (-1), .int .i64 61] 3) = Wgpa at *
      have Rgpa := Lib.hid (at_grown Rgp.out hgN hpR hpw)
      have Bgpa := Lib.hid (at_grown Bgp.out hgN hpb hpw)
      have HCgpa := Lib.hid hcN
      clear hcN hgN
      have LAgpa := Lib.hid (show (Wgp.alloc (.cells #[.int .i64 0, .int .i64 1, .int .i64 3, .int .i64 10, .int .i64 60, .int .i64 (-1), .int .i64 61] 3)).grownBy Wgpa (some p) from by rw [hWgpa]; exact grown_refl _ _)
      clear hWgpa
      refine wpAnyE_take (i := 7) (v := ?vqgpa7) rfl (by decide +kernel) (fun _ _ _ h => h) (Or.inl ⟨by rfl, ?hqgpa7⟩) (by assumption) ?rqgpa7
      case hqgpa7 =>
        intro wS hSw
        have m0_ := hSw.cell 0 _ rfl
        have m1_ := hSw.cell 1 _ rfl
        have m2_ := hSw.cell 2 _ rfl
        have m3_ := hSw.cell 3 _ rfl
        have m4_ := hSw.cell 4 _ rfl
        have m5_ := hSw.cell 5 _ rfl
        go_simp
        try with_reducible rfl
      try simp only [Act.put]
      refine wpAnyE_ready (rs := [8, 10]) (by kernel_rfl) (by simp) ?_
      refine AllReadyE.cons (i := 8) rfl (by decide) (fun K hK => ?_) (AllReadyE.cons (i := 10) rfl (by decide) (fun K hK => ?_) AllReadyE.nil)
      · go_simp
        refine (among_old (-1) 61 p _ lA 7 _ [0, 1, 3, 10, 60, -1, 61] _ Wgp Wgpa HCgpa.out (by omega) LAgpa.out rfl hpgpa rfl rfl hlA1 hlA8 (by omega) HA.out).mono ?_
        rintro e Wgpax ⟨n, rfl, n0, n1, hcN, hgN⟩
        have Rgpax := Lib.hid (at_grown Rgpa.out hgN hpR hpw)
        have Bgpax := Lib.hid (at_grown Bgpa.out hgN hpb hpw)
        have HCgpax := Lib.hid hcN
        have LAgpax := Lib.hid (grown_trans LAgpa.out hgN)
        clear hcN hgN
        refine hK.out _ _ (Blk.of_s Bgpax.out) (fun hHeld => ?_)
        clear hK K
        try simp only [Act.put]
        refine wpAnyE_ready (rs := [10, 12]) (by kernel_rfl) (by simp) ?_
        refine AllReadyE.cons (i := 10) rfl (by decide) (fun K hK => ?_) (AllReadyE.cons (i := 12) rfl (by decide) (fun K hK => ?_) AllReadyE.nil)
        · go_simp
          have hpgpaxb : p < Wgpax.heap.size := HCgpax.out.lt
          have hcN := Cur.alloc HCgpax.out (.cells #[.int .i64 1, .int .i64 10, .int .i64 100, .int .i64 1000, .int .i64 0, .int .i64 1001] 3)
          have hgN : Wgpax.grownBy (Wgpax.alloc (.cells #[.int .i64 1, .int .i64 10, .int .i64 100, .int .i64 1000, .int .i64 0, .int .i64 1001] 3)) (some p) := grown_alloc _ _
          have HSgpaxb := (Blk.of_s Bgpax.out).alloc (.cells #[.int .i64 1, .int .i64 10, .int .i64 100, .int .i64 1000, .int .i64 0, .int .i64 1001] 3)
          refine hK.out _ _ HSgpaxb (fun hHeld => ?_)
          clear hK K
          try simp only [Act.put]
          generalize hWgpaxb : Wgpax.alloc (.cells #[.int .i64 1, .int .i64 10, .int .i64 100, .int .i64 1000, .int .i64 0, .int .i64 1001] 3) = Wgpaxb at *
          have Rgpaxb := Lib.hid (at_grown Rgpax.out hgN hpR hpw)
          have Bgpaxb := Lib.hid (at_grown Bgpax.out hgN hpb hpw)
          have HCgpaxb := Lib.hid hcN
          clear hcN hgN
          have LBgpaxb := Lib.hid (show (Wgpax.alloc (.cells #[.int .i64 1, .int .i64 10, .int .i64 100, .int .i64 1000, .int .i64 0, .int .i64 1001] 3)).grownBy Wgpaxb (some p) from by rw [hWgpaxb]; exact grown_refl _ _)
          clear hWgpaxb
          refine wpAnyE_ready (rs := [12]) (by kernel_rfl) (by simp) ?_
          refine AllReadyE.cons (i := 12) rfl (by decide) (fun K hK => ?_) AllReadyE.nil
          go_simp
          refine (pick p _ 24 Wgpaxb HCgpaxb.out (by omega) (by omega) (by omega)).mono ?_
          rintro e Wgpaxbr ⟨rB, rfl, rB0, rB1, hcN, hgN⟩
          have Rgpaxbr := Lib.hid (at_grown Rgpaxb.out hgN hpR hpw)
          have Bgpaxbr := Lib.hid (at_grown Bgpaxb.out hgN hpb hpw)
          have HCgpaxbr := Lib.hid hcN
          have LBgpaxbr := Lib.hid (grown_trans LBgpaxb.out hgN)
          clear hcN hgN
          obtain ⟨mB, hmB, hmB2⟩ := head_len rB0 rB1
          have htB : rB.tdiv 11 = (mB : Int) := by rw [Int.tdiv_eq_ediv_of_nonneg rB0]; exact hmB
          have hwB : IntKind.i64.wrap (mB : Int) = (mB : Int) := IntWalk.i64_in _ (by omega)
          obtain ⟨lB, hlB⟩ : ∃ l : Nat, l = 4 + mB := ⟨_, rfl⟩
          have hvB : IntKind.i64.wrap (4 + (mB : Int)) = (lB : Int) := by rw [IntWalk.i64_in _ (by omega)]; omega
          have hlB7 : (lB : Int) ≤ 6 := by omega
          have hlB1 : 1 ≤ lB := by omega
          have hlB8 : lB ≤ 6 := by omega
          clear hlB
          refine hK.out _ _ (Blk.of_s Bgpaxbr.out) (fun hHeld => ?_)
          clear hK K
          try simp only [Act.put]
          refine wpAnyE_take (i := 13) (v := ?vqgpaxbr13) rfl (by decide +kernel) (fun _ _ _ h => h) (Or.inl ⟨by rfl, ?hqgpaxbr13⟩) (by assumption) ?rqgpaxbr13
          case hqgpaxbr13 =>
            intro wS hSw
            have m0_ := hSw.cell 0 _ rfl
            have m1_ := hSw.cell 1 _ rfl
            have m2_ := hSw.cell 2 _ rfl
            have m3_ := hSw.cell 3 _ rfl
            have m4_ := hSw.cell 4 _ rfl
            have m5_ := hSw.cell 5 _ rfl
            go_simp
            try with_reducible rfl
          try simp only [Act.put]
          refine wpAnyE_take (i := 14) (v := ?vqgpaxbr14) rfl (by decide +kernel) (fun _ _ _ h => h) (Or.inl ⟨by rfl, ?hqgpaxbr14⟩) (by assumption) ?rqgpaxbr14
          case hqgpaxbr14 =>
            intro wS hSw
            have m0_ := hSw.cell 0 _ rfl
            have m1_ := hSw.cell 1 _ rfl
            have m2_ := hSw.cell 2 _ rfl
            have m3_ := hSw.cell 3 _ rfl
            have m4_ := hSw.cell 4 _ rfl
            have m5_ := hSw.cell 5 _ rfl
            go_simp
            try with_reducible rfl
          try simp only [Act.put]
          refine wpAnyE_take (i := 15) (v := ?vqgpaxbr15) rfl (by decide +kernel) (fun _ _ _ h => h) (Or.inl ⟨by rfl, ?hqgpaxbr15⟩) (by assumption) ?rqgpaxbr15
          case hqgpaxbr15 =>
            intro wS hSw
            have m0_ := hSw.cell 0 _ rfl
            have m1_ := hSw.cell 1 _ rfl
            have m2_ := hSw.cell 2 _ rfl
            have m3_ := hSw.cell 3 _ rfl
            have m4_ := hSw.cell 4 _ rfl
            have m5_ := hSw.cell 5 _ rfl
            go_simp
            try with_reducible rfl
          try simp only [Act.put]
          refine wpAnyE_ready (rs := [16]) (by kernel_rfl) (by simp) ?_
          refine AllReadyE.cons (i := 16) rfl (by decide) (fun K hK => ?_) AllReadyE.nil
          go_simp
          refine (among_old (0) 1001 p _ lB 6 _ [1, 10, 100, 1000, 0, 1001] _ Wgpax Wgpaxbr HCgpaxbr.out (by omega) LBgpaxbr.out rfl hpgpaxb rfl rfl hlB1 hlB8 (by omega) HB.out).mono ?_
          rintro e Wgpaxbry ⟨d, rfl, d0, d1, hcN, hgN⟩
          have Rgpaxbry := Lib.hid (at_grown Rgpaxbr.out hgN hpR hpw)
          have Bgpaxbry := Lib.hid (at_grown Bgpaxbr.out hgN hpb hpw)
          have HCgpaxbry := Lib.hid hcN
          have LBgpaxbry := Lib.hid (grown_trans LBgpaxbr.out hgN)
          clear hcN hgN
          refine hK.out _ _ (Blk.of_s Bgpaxbry.out) (fun hHeld => ?_)
          clear hK K
          try simp only [Act.put]
          have r0_ : Wgpaxbry.cell? ⟨w.heap.size, 0, none⟩ = some (.int .i64 0) := Rgpaxbry.out.cell 0
          have rf0_ := Rgpaxbry.out.frozen 0
          have r1_ : Wgpaxbry.cell? ⟨w.heap.size, 1, none⟩ = some (.int .i64 0) := Rgpaxbry.out.cell 1
          have rf1_ := Rgpaxbry.out.frozen 1
          have r2_ : Wgpaxbry.cell? ⟨w.heap.size, 2, none⟩ = some (.int .i64 0) := Rgpaxbry.out.cell 2
          have rf2_ := Rgpaxbry.out.frozen 2
          have r3_ : Wgpaxbry.cell? ⟨w.heap.size, 3, none⟩ = some (.int .i64 0) := Rgpaxbry.out.cell 3
          have rf3_ := Rgpaxbry.out.frozen 3
          have r4_ : Wgpaxbry.cell? ⟨w.heap.size, 4, none⟩ = some (.int .i64 0) := Rgpaxbry.out.cell 4
          have rf4_ := Rgpaxbry.out.frozen 4
          have r5_ : Wgpaxbry.cell? ⟨w.heap.size, 5, none⟩ = some (.int .i64 0) := Rgpaxbry.out.cell 5
          have rf5_ := Rgpaxbry.out.frozen 5
          refine wpAnyE_ready (rs := [17]) (by kernel_rfl) (by simp) ?_
          refine AllReadyE.cons (i := 17) rfl (by decide) (fun K hK => ?_) AllReadyE.nil
          go_simp
          refine hK.out _ _ (((((((Blk.of_s Bgpaxbry.out).other hbR 0 (.int .i64 x)).other hbR 1 (.int .i64 y)).other hbR 2 (.int .i64 u)).other hbR 3 (.int .i64 v)).other hbR 4 (.int .i64 h)).other hbR 5 (.int .i64 c)) (fun hHeld => ?_)
          clear hK K
          try simp only [Act.put]
          refine wpAnyE_ready (rs := [18]) (by kernel_rfl) (by simp) ?_
          refine AllReadyE.cons (i := 18) rfl (by decide) (fun K hK => ?_) AllReadyE.nil
          go_simp
          refine hK.out _ _ (by assumption) (fun hHeld => ?_)
          clear hK K
          try simp only [Act.put]
          refine wpAnyE_ready (rs := [19]) (by kernel_rfl) (by simp) ?_
          refine AllReadyE.last (i := 19) rfl rfl (fun K hK => ?_)
          go_simp
          refine hK.out _ _ ?_
          clear hK K
          try simp only [Act.put]
          refine wpAnyE_done (by kernel_rfl) ?_ _
          try simp only [List.getElem_toArray, List.getElem_cons_succ, List.getElem_cons_zero, List.setIfInBounds_toArray, List.set_cons_succ, List.set_cons_zero]
          have HE := Lib.hid ((((((Rgpaxbry.out.set 0 (.int .i64 x)).set 1 (.int .i64 y)).set 2 (.int .i64 u)).set 3 (.int .i64 v)).set 4 (.int .i64 h)).set 5 (.int .i64 c))
          go_wp2_with fail
          have hl := HE.out.load Try.underlying28 rfl (by kernel_rfl)
          refine bodyPost_ret (v := .tuple #[.agg #[.int .i64 x, .int .i64 y, .int .i64 u, .int .i64 v, .int .i64 h, .int .i64 c], .int .i64 n, .int .i64 d]) ?_ rfl ⟨_, _, _, _, _, _, _, _, rfl, HE.out.1⟩
          rw [results_cell_tmp2 rfl]
          simp [asAddr, Result.andThen, hl]
        · go_simp
          refine (pick p _ 24 Wgpax HCgpax.out (by omega) (by omega) (by omega)).mono ?_
          rintro e Wgpaxr ⟨rB, rfl, rB0, rB1, hcN, hgN⟩
          have Rgpaxr := Lib.hid (at_grown Rgpax.out hgN hpR hpw)
          have Bgpaxr := Lib.hid (at_grown Bgpax.out hgN hpb hpw)
          have HCgpaxr := Lib.hid hcN
          clear hcN hgN
          obtain ⟨mB, hmB, hmB2⟩ := head_len rB0 rB1
          have htB : rB.tdiv 11 = (mB : Int) := by rw [Int.tdiv_eq_ediv_of_nonneg rB0]; exact hmB
          have hwB : IntKind.i64.wrap (mB : Int) = (mB : Int) := IntWalk.i64_in _ (by omega)
          obtain ⟨lB, hlB⟩ : ∃ l : Nat, l = 4 + mB := ⟨_, rfl⟩
          have hvB : IntKind.i64.wrap (4 + (mB : Int)) = (lB : Int) := by rw [IntWalk.i64_in _ (by omega)]; omega
          have hlB7 : (lB : Int) ≤ 6 := by omega
          have hlB1 : 1 ≤ lB := by omega
          have hlB8 : lB ≤ 6 := by omega
          clear hlB
          refine hK.out _ _ (Blk.of_s Bgpaxr.out) (fun hHeld => ?_)
          clear hK K
          try simp only [Act.put]
          refine wpAnyE_take (i := 13) (v := ?vqgpaxr13) rfl (by decide +kernel) (fun _ _ _ h => h) (Or.inl ⟨by rfl, ?hqgpaxr13⟩) (by assumption) ?rqgpaxr13
          case hqgpaxr13 =>
            intro wS hSw
            have m0_ := hSw.cell 0 _ rfl
            have m1_ := hSw.cell 1 _ rfl
            have m2_ := hSw.cell 2 _ rfl
            have m3_ := hSw.cell 3 _ rfl
            have m4_ := hSw.cell 4 _ rfl
            have m5_ := hSw.cell 5 _ rfl
            go_simp
            try with_reducible rfl
          try simp only [Act.put]
          refine wpAnyE_take (i := 14) (v := ?vqgpaxr14) rfl (by decide +kernel) (fun _ _ _ h => h) (Or.inl ⟨by rfl, ?hqgpaxr14⟩) (by assumption) ?rqgpaxr14
          case hqgpaxr14 =>
            intro wS hSw
            have m0_ := hSw.cell 0 _ rfl
            have m1_ := hSw.cell 1 _ rfl
            have m2_ := hSw.cell 2 _ rfl
            have m3_ := hSw.cell 3 _ rfl
            have m4_ := hSw.cell 4 _ rfl
            have m5_ := hSw.cell 5 _ rfl
            go_simp
            try with_reducible rfl
          try simp only [Act.put]
          refine wpAnyE_ready (rs := [10]) (by kernel_rfl) (by simp) ?_
          refine AllReadyE.cons (i := 10) rfl (by decide) (fun K hK => ?_) AllReadyE.nil
          go_simp
          have hpgpaxrb : p < Wgpaxr.heap.size := HCgpaxr.out.lt
          have hcN := Cur.alloc HCgpaxr.out (.cells #[.int .i64 1, .int .i64 10, .int .i64 100, .int .i64 1000, .int .i64 0, .int .i64 1001] 3)
          have hgN : Wgpaxr.grownBy (Wgpaxr.alloc (.cells #[.int .i64 1, .int .i64 10, .int .i64 100, .int .i64 1000, .int .i64 0, .int .i64 1001] 3)) (some p) := grown_alloc _ _
          have HSgpaxrb := (Blk.of_s Bgpaxr.out).alloc (.cells #[.int .i64 1, .int .i64 10, .int .i64 100, .int .i64 1000, .int .i64 0, .int .i64 1001] 3)
          refine hK.out _ _ HSgpaxrb (fun hHeld => ?_)
          clear hK K
          try simp only [Act.put]
          generalize hWgpaxrb : Wgpaxr.alloc (.cells #[.int .i64 1, .int .i64 10, .int .i64 100, .int .i64 1000, .int .i64 0, .int .i64 1001] 3) = Wgpaxrb at *
          have Rgpaxrb := Lib.hid (at_grown Rgpaxr.out hgN hpR hpw)
          have Bgpaxrb := Lib.hid (at_grown Bgpaxr.out hgN hpb hpw)
          have HCgpaxrb := Lib.hid hcN
          clear hcN hgN
          have LBgpaxrb := Lib.hid (show (Wgpaxr.alloc (.cells #[.int .i64 1, .int .i64 10, .int .i64 100, .int .i64 1000, .int .i64 0, .int .i64 1001] 3)).grownBy Wgpaxrb (some p) from by rw [hWgpaxrb]; exact grown_refl _ _)
          clear hWgpaxrb
          refine wpAnyE_take (i := 15) (v := ?vqgpaxrb15) rfl (by decide +kernel) (fun _ _ _ h => h) (Or.inl ⟨by rfl, ?hqgpaxrb15⟩) (by assumption) ?rqgpaxrb15
          case hqgpaxrb15 =>
            intro wS hSw
            have m0_ := hSw.cell 0 _ rfl
            have m1_ := hSw.cell 1 _ rfl
            have m2_ := hSw.cell 2 _ rfl
            have m3_ := hSw.cell 3 _ rfl
            have m4_ := hSw.cell 4 _ rfl
            have m5_ := hSw.cell 5 _ rfl
            go_simp
            try with_reducible rfl
          try simp only [Act.put]
          refine wpAnyE_ready (rs := [16]) (by kernel_rfl) (by simp) ?_
          refine AllReadyE.cons (i := 16) rfl (by decide) (fun K hK => ?_) AllReadyE.nil
          go_simp
          refine (among_old (0) 1001 p _ lB 6 _ [1, 10, 100, 1000, 0, 1001] _ Wgpaxr Wgpaxrb HCgpaxrb.out (by omega) LBgpaxrb.out rfl hpgpaxrb rfl rfl hlB1 hlB8 (by omega) HB.out).mono ?_
          rintro e Wgpaxrby ⟨d, rfl, d0, d1, hcN, hgN⟩
          have Rgpaxrby := Lib.hid (at_grown Rgpaxrb.out hgN hpR hpw)
          have Bgpaxrby := Lib.hid (at_grown Bgpaxrb.out hgN hpb hpw)
          have HCgpaxrby := Lib.hid hcN
          have LBgpaxrby := Lib.hid (grown_trans LBgpaxrb.out hgN)
          clear hcN hgN
          refine hK.out _ _ (Blk.of_s Bgpaxrby.out) (fun hHeld => ?_)
          clear hK K
          try simp only [Act.put]
          have r0_ : Wgpaxrby.cell? ⟨w.heap.size, 0, none⟩ = some (.int .i64 0) := Rgpaxrby.out.cell 0
          have rf0_ := Rgpaxrby.out.frozen 0
          have r1_ : Wgpaxrby.cell? ⟨w.heap.size, 1, none⟩ = some (.int .i64 0) := Rgpaxrby.out.cell 1
          have rf1_ := Rgpaxrby.out.frozen 1
          have r2_ : Wgpaxrby.cell? ⟨w.heap.size, 2, none⟩ = some (.int .i64 0) := Rgpaxrby.out.cell 2
          have rf2_ := Rgpaxrby.out.frozen 2
          have r3_ : Wgpaxrby.cell? ⟨w.heap.size, 3, none⟩ = some (.int .i64 0) := Rgpaxrby.out.cell 3
          have rf3_ := Rgpaxrby.out.frozen 3
          have r4_ : Wgpaxrby.cell? ⟨w.heap.size, 4, none⟩ = some (.int .i64 0) := Rgpaxrby.out.cell 4
          have rf4_ := Rgpaxrby.out.frozen 4
          have r5_ : Wgpaxrby.cell? ⟨w.heap.size, 5, none⟩ = some (.int .i64 0) := Rgpaxrby.out.cell 5
          have rf5_ := Rgpaxrby.out.frozen 5
          refine wpAnyE_ready (rs := [17]) (by kernel_rfl) (by simp) ?_
          refine AllReadyE.cons (i := 17) rfl (by decide) (fun K hK => ?_) AllReadyE.nil
          go_simp
          refine hK.out _ _ (((((((Blk.of_s Bgpaxrby.out).other hbR 0 (.int .i64 x)).other hbR 1 (.int .i64 y)).other hbR 2 (.int .i64 u)).other hbR 3 (.int .i64 v)).other hbR 4 (.int .i64 h)).other hbR 5 (.int .i64 c)) (fun hHeld => ?_)
          clear hK K
          try simp only [Act.put]
          refine wpAnyE_ready (rs := [18]) (by kernel_rfl) (by simp) ?_
          refine AllReadyE.cons (i := 18) rfl (by decide) (fun K hK => ?_) AllReadyE.nil
          go_simp
          refine hK.out _ _ (by assumption) (fun hHeld => ?_)
          clear hK K
          try simp only [Act.put]
          refine wpAnyE_ready (rs := [19]) (by kernel_rfl) (by simp) ?_
          refine AllReadyE.last (i := 19) rfl rfl (fun K hK => ?_)
          go_simp
          refine hK.out _ _ ?_
          clear hK K
          try simp only [Act.put]
          refine wpAnyE_done (by kernel_rfl) ?_ _
          try simp only [List.getElem_toArray, List.getElem_cons_succ, List.getElem_cons_zero, List.setIfInBounds_toArray, List.set_cons_succ, List.set_cons_zero]
          have HE := Lib.hid ((((((Rgpaxrby.out.set 0 (.int .i64 x)).set 1 (.int .i64 y)).set 2 (.int .i64 u)).set 3 (.int .i64 v)).set 4 (.int .i64 h)).set 5 (.int .i64 c))
          go_wp2_with fail
          have hl := HE.out.load Try.underlying28 rfl (by kernel_rfl)
          refine bodyPost_ret (v := .tuple #[.agg #[.int .i64 x, .int .i64 y, .int .i64 u, .int .i64 v, .int .i64 h, .int .i64 c], .int .i64 n, .int .i64 d]) ?_ rfl ⟨_, _, _, _, _, _, _, _, rfl, HE.out.1⟩
          rw [results_cell_tmp2 rfl]
          simp [asAddr, Result.andThen, hl]
      · go_simp
        have hpgpab : p < Wgpa.heap.size := HCgpa.out.lt
        have hcN := Cur.alloc HCgpa.out (.cells #[.int .i64 1, .int .i64 10, .int .i64 100, .int .i64 1000, .int .i64 0, .int .i64 1001] 3)
        have hgN : Wgpa.grownBy (Wgpa.alloc (.cells #[.int .i64 1, .int .i64 10, .int .i64 100, .int .i64 1000, .int .i64 0, .int .i64 1001] 3)) (some p) := grown_alloc _ _
        have HSgpab := (Blk.of_s Bgpa.out).alloc (.cells #[.int .i64 1, .int .i64 10, .int .i64 100, .int .i64 1000, .int .i64 0, .int .i64 1001] 3)
        refine hK.out _ _ HSgpab (fun hHeld => ?_)
        clear hK K
        try simp only [Act.put]
        generalize hWgpab : Wgpa.alloc (.cells #[.int .i64 1, .int .i64 10, .int .i64 100, .int .i64 1000, .int .i64 0, .int .i64 1001] 3) = Wgpab at *
        have Rgpab := Lib.hid (at_grown Rgpa.out hgN hpR hpw)
        have Bgpab := Lib.hid (at_grown Bgpa.out hgN hpb hpw)
        have HCgpab := Lib.hid hcN
        have LAgpab := Lib.hid (grown_trans LAgpa.out hgN)
        clear hcN hgN
        have LBgpab := Lib.hid (show (Wgpa.alloc (.cells #[.int .i64 1, .int .i64 10, .int .i64 100, .int .i64 1000, .int .i64 0, .int .i64 1001] 3)).grownBy Wgpab (some p) from by rw [hWgpab]; exact grown_refl _ _)
        clear hWgpab
        refine wpAnyE_ready (rs := [8]) (by kernel_rfl) (by simp) ?_
        refine AllReadyE.cons (i := 8) rfl (by decide) (fun K hK => ?_) AllReadyE.nil
        go_simp
        refine (among_old (-1) 61 p _ lA 7 _ [0, 1, 3, 10, 60, -1, 61] _ Wgp Wgpab HCgpab.out (by omega) LAgpab.out rfl hpgpa rfl rfl hlA1 hlA8 (by omega) HA.out).mono ?_
        rintro e Wgpabx ⟨n, rfl, n0, n1, hcN, hgN⟩
        have Rgpabx := Lib.hid (at_grown Rgpab.out hgN hpR hpw)
        have Bgpabx := Lib.hid (at_grown Bgpab.out hgN hpb hpw)
        have HCgpabx := Lib.hid hcN
        have LAgpabx := Lib.hid (grown_trans LAgpab.out hgN)
        have LBgpabx := Lib.hid (grown_trans LBgpab.out hgN)
        clear hcN hgN
        refine hK.out _ _ (Blk.of_s Bgpabx.out) (fun hHeld => ?_)
        clear hK K
        try simp only [Act.put]
        refine wpAnyE_ready (rs := [12]) (by kernel_rfl) (by simp) ?_
        refine AllReadyE.cons (i := 12) rfl (by decide) (fun K hK => ?_) AllReadyE.nil
        go_simp
        refine (pick p _ 24 Wgpabx HCgpabx.out (by omega) (by omega) (by omega)).mono ?_
        rintro e Wgpabxr ⟨rB, rfl, rB0, rB1, hcN, hgN⟩
        have Rgpabxr := Lib.hid (at_grown Rgpabx.out hgN hpR hpw)
        have Bgpabxr := Lib.hid (at_grown Bgpabx.out hgN hpb hpw)
        have HCgpabxr := Lib.hid hcN
        have LBgpabxr := Lib.hid (grown_trans LBgpabx.out hgN)
        clear hcN hgN
        obtain ⟨mB, hmB, hmB2⟩ := head_len rB0 rB1
        have htB : rB.tdiv 11 = (mB : Int) := by rw [Int.tdiv_eq_ediv_of_nonneg rB0]; exact hmB
        have hwB : IntKind.i64.wrap (mB : Int) = (mB : Int) := IntWalk.i64_in _ (by omega)
        obtain ⟨lB, hlB⟩ : ∃ l : Nat, l = 4 + mB := ⟨_, rfl⟩
        have hvB : IntKind.i64.wrap (4 + (mB : Int)) = (lB : Int) := by rw [IntWalk.i64_in _ (by omega)]; omega
        have hlB7 : (lB : Int) ≤ 6 := by omega
        have hlB1 : 1 ≤ lB := by omega
        have hlB8 : lB ≤ 6 := by omega
        clear hlB
        refine hK.out _ _ (Blk.of_s Bgpabxr.out) (fun hHeld => ?_)
        clear hK K
        try simp only [Act.put]
        refine wpAnyE_take (i := 13) (v := ?vqgpabxr13) rfl (by decide +kernel) (fun _ _ _ h => h) (Or.inl ⟨by rfl, ?hqgpabxr13⟩) (by assumption) ?rqgpabxr13
        case hqgpabxr13 =>
          intro wS hSw
          have m0_ := hSw.cell 0 _ rfl
          have m1_ := hSw.cell 1 _ rfl
          have m2_ := hSw.cell 2 _ rfl
          have m3_ := hSw.cell 3 _ rfl
          have m4_ := hSw.cell 4 _ rfl
          have m5_ := hSw.cell 5 _ rfl
          go_simp
          try with_reducible rfl
        try simp only [Act.put]
        refine wpAnyE_take (i := 14) (v := ?vqgpabxr14) rfl (by decide +kernel) (fun _ _ _ h => h) (Or.inl ⟨by rfl, ?hqgpabxr14⟩) (by assumption) ?rqgpabxr14
        case hqgpabxr14 =>
          intro wS hSw
          have m0_ := hSw.cell 0 _ rfl
          have m1_ := hSw.cell 1 _ rfl
          have m2_ := hSw.cell 2 _ rfl
          have m3_ := hSw.cell 3 _ rfl
          have m4_ := hSw.cell 4 _ rfl
          have m5_ := hSw.cell 5 _ rfl
          go_simp
          try with_reducible rfl
        try simp only [Act.put]
        refine wpAnyE_take (i := 15) (v := ?vqgpabxr15) rfl (by decide +kernel) (fun _ _ _ h => h) (Or.inl ⟨by rfl, ?hqgpabxr15⟩) (by assumption) ?rqgpabxr15
        case hqgpabxr15 =>
          intro wS hSw
          have m0_ := hSw.cell 0 _ rfl
          have m1_ := hSw.cell 1 _ rfl
          have m2_ := hSw.cell 2 _ rfl
          have m3_ := hSw.cell 3 _ rfl
          have m4_ := hSw.cell 4 _ rfl
          have m5_ := hSw.cell 5 _ rfl
          go_simp
          try with_reducible rfl
        try simp only [Act.put]
        refine wpAnyE_ready (rs := [16]) (by kernel_rfl) (by simp) ?_
        refine AllReadyE.cons (i := 16) rfl (by decide) (fun K hK => ?_) AllReadyE.nil
        go_simp
        refine (among_old (0) 1001 p _ lB 6 _ [1, 10, 100, 1000, 0, 1001] _ Wgpa Wgpabxr HCgpabxr.out (by omega) LBgpabxr.out rfl hpgpab rfl rfl hlB1 hlB8 (by omega) HB.out).mono ?_
        rintro e Wgpabxry ⟨d, rfl, d0, d1, hcN, hgN⟩
        have Rgpabxry := Lib.hid (at_grown Rgpabxr.out hgN hpR hpw)
        have Bgpabxry := Lib.hid (at_grown Bgpabxr.out hgN hpb hpw)
        have HCgpabxry := Lib.hid hcN
        have LBgpabxry := Lib.hid (grown_trans LBgpabxr.out hgN)
        clear hcN hgN
        refine hK.out _ _ (Blk.of_s Bgpabxry.out) (fun hHeld => ?_)
        clear hK K
        try simp only [Act.put]
        have r0_ : Wgpabxry.cell? ⟨w.heap.size, 0, none⟩ = some (.int .i64 0) := Rgpabxry.out.cell 0
        have rf0_ := Rgpabxry.out.frozen 0
        have r1_ : Wgpabxry.cell? ⟨w.heap.size, 1, none⟩ = some (.int .i64 0) := Rgpabxry.out.cell 1
        have rf1_ := Rgpabxry.out.frozen 1
        have r2_ : Wgpabxry.cell? ⟨w.heap.size, 2, none⟩ = some (.int .i64 0) := Rgpabxry.out.cell 2
        have rf2_ := Rgpabxry.out.frozen 2
        have r3_ : Wgpabxry.cell? ⟨w.heap.size, 3, none⟩ = some (.int .i64 0) := Rgpabxry.out.cell 3
        have rf3_ := Rgpabxry.out.frozen 3
        have r4_ : Wgpabxry.cell? ⟨w.heap.size, 4, none⟩ = some (.int .i64 0) := Rgpabxry.out.cell 4
        have rf4_ := Rgpabxry.out.frozen 4
        have r5_ : Wgpabxry.cell? ⟨w.heap.size, 5, none⟩ = some (.int .i64 0) := Rgpabxry.out.cell 5
        have rf5_ := Rgpabxry.out.frozen 5
        refine wpAnyE_ready (rs := [17]) (by kernel_rfl) (by simp) ?_
        refine AllReadyE.cons (i := 17) rfl (by decide) (fun K hK => ?_) AllReadyE.nil
        go_simp
        refine hK.out _ _ (((((((Blk.of_s Bgpabxry.out).other hbR 0 (.int .i64 x)).other hbR 1 (.int .i64 y)).other hbR 2 (.int .i64 u)).other hbR 3 (.int .i64 v)).other hbR 4 (.int .i64 h)).other hbR 5 (.int .i64 c)) (fun hHeld => ?_)
        clear hK K
        try simp only [Act.put]
        refine wpAnyE_ready (rs := [18]) (by kernel_rfl) (by simp) ?_
        refine AllReadyE.cons (i := 18) rfl (by decide) (fun K hK => ?_) AllReadyE.nil
        go_simp
        refine hK.out _ _ (by assumption) (fun hHeld => ?_)
        clear hK K
        try simp only [Act.put]
        refine wpAnyE_ready (rs := [19]) (by kernel_rfl) (by simp) ?_
        refine AllReadyE.last (i := 19) rfl rfl (fun K hK => ?_)
        go_simp
        refine hK.out _ _ ?_
        clear hK K
        try simp only [Act.put]
        refine wpAnyE_done (by kernel_rfl) ?_ _
        try simp only [List.getElem_toArray, List.getElem_cons_succ, List.getElem_cons_zero, List.setIfInBounds_toArray, List.set_cons_succ, List.set_cons_zero]
        have HE := Lib.hid ((((((Rgpabxry.out.set 0 (.int .i64 x)).set 1 (.int .i64 y)).set 2 (.int .i64 u)).set 3 (.int .i64 v)).set 4 (.int .i64 h)).set 5 (.int .i64 c))
        go_wp2_with fail
        have hl := HE.out.load Try.underlying28 rfl (by kernel_rfl)
        refine bodyPost_ret (v := .tuple #[.agg #[.int .i64 x, .int .i64 y, .int .i64 u, .int .i64 v, .int .i64 h, .int .i64 c], .int .i64 n, .int .i64 d]) ?_ rfl ⟨_, _, _, _, _, _, _, _, rfl, HE.out.1⟩
        rw [results_cell_tmp2 rfl]
        simp [asAddr, Result.andThen, hl]
    · go_simp
      have hpgpb : p < Wgp.heap.size := HCgp.out.lt
      have hcN := Cur.alloc HCgp.out (.cells #[.int .i64 1, .int .i64 10, .int .i64 100, .int .i64 1000, .int .i64 0, .int .i64 1001] 3)
      have hgN : Wgp.grownBy (Wgp.alloc (.cells #[.int .i64 1, .int .i64 10, .int .i64 100, .int .i64 1000, .int .i64 0, .int .i64 1001] 3)) (some p) := grown_alloc _ _
      have HSgpb := (Blk.of_s Bgp.out).alloc (.cells #[.int .i64 1, .int .i64 10, .int .i64 100, .int .i64 1000, .int .i64 0, .int .i64 1001] 3)
      refine hK.out _ _ HSgpb (fun hHeld => ?_)
      clear hK K
      try simp only [Act.put]
      generalize hWgpb : Wgp.alloc (.cells #[.int .i64 1, .int .i64 10, .int .i64 100, .int .i64 1000, .int .i64 0, .int .i64 1001] 3) = Wgpb at *
      have Rgpb := Lib.hid (at_grown Rgp.out hgN hpR hpw)
      have Bgpb := Lib.hid (at_grown Bgp.out hgN hpb hpw)
      have HCgpb := Lib.hid hcN
      clear hcN hgN
      have LBgpb := Lib.hid (show (Wgp.alloc (.cells #[.int .i64 1, .int .i64 10, .int .i64 100, .int .i64 1000, .int .i64 0, .int .i64 1001] 3)).grownBy Wgpb (some p) from by rw [hWgpb]; exact grown_refl _ _)
      clear hWgpb
      refine wpAnyE_ready (rs := [2]) (by kernel_rfl) (by simp) ?_
      refine AllReadyE.cons (i := 2) rfl (by decide) (fun K hK => ?_) AllReadyE.nil
      go_simp
      have hpgpba : p < Wgpb.heap.size := HCgpb.out.lt
      have hcN := Cur.alloc HCgpb.out (.cells #[.int .i64 0, .int .i64 1, .int .i64 3, .int .i64 10, .int .i64 60, .int .i64 (-1), .int .i64 61] 3)
      have hgN : Wgpb.grownBy (Wgpb.alloc (.cells #[.int .i64 0, .int .i64 1, .int .i64 3, .int .i64 10, .int .i64 60, .int .i64 (-1), .int .i64 61] 3)) (some p) := grown_alloc _ _
      have HSgpba := (Blk.of_s Bgpb.out).alloc (.cells #[.int .i64 0, .int .i64 1, .int .i64 3, .int .i64 10, .int .i64 60, .int .i64 (-1), .int .i64 61] 3)
      refine hK.out _ _ HSgpba (fun hHeld => ?_)
      clear hK K
      try simp only [Act.put]
      generalize hWgpba : Wgpb.alloc (.cells #[.int .i64 0, .int .i64 1, .int .i64 3, .int .i64 10, .int .i64 60, .int .i64 (-1), .int .i64 61] 3) = Wgpba at *
      have Rgpba := Lib.hid (at_grown Rgpb.out hgN hpR hpw)
      have Bgpba := Lib.hid (at_grown Bgpb.out hgN hpb hpw)
      have HCgpba := Lib.hid hcN
      have LBgpba := Lib.hid (grown_trans LBgpb.out hgN)
      clear hcN hgN
      have LAgpba := Lib.hid (show (Wgpb.alloc (.cells #[.int .i64 0, .int .i64 1, .int .i64 3, .int .i64 10, .int .i64 60, .int .i64 (-1), .int .i64 61] 3)).grownBy Wgpba (some p) from by rw [hWgpba]; exact grown_refl _ _)
      clear hWgpba
      refine wpAnyE_take (i := 7) (v := ?vqgpba7) rfl (by decide +kernel) (fun _ _ _ h => h) (Or.inl ⟨by rfl, ?hqgpba7⟩) (by assumption) ?rqgpba7
      case hqgpba7 =>
        intro wS hSw
        have m0_ := hSw.cell 0 _ rfl
        have m1_ := hSw.cell 1 _ rfl
        have m2_ := hSw.cell 2 _ rfl
        have m3_ := hSw.cell 3 _ rfl
        have m4_ := hSw.cell 4 _ rfl
        have m5_ := hSw.cell 5 _ rfl
        go_simp
        try with_reducible rfl
      try simp only [Act.put]
      refine wpAnyE_ready (rs := [8]) (by kernel_rfl) (by simp) ?_
      refine AllReadyE.cons (i := 8) rfl (by decide) (fun K hK => ?_) AllReadyE.nil
      go_simp
      refine (among_old (-1) 61 p _ lA 7 _ [0, 1, 3, 10, 60, -1, 61] _ Wgpb Wgpba HCgpba.out (by omega) LAgpba.out rfl hpgpba rfl rfl hlA1 hlA8 (by omega) HA.out).mono ?_
      rintro e Wgpbax ⟨n, rfl, n0, n1, hcN, hgN⟩
      have Rgpbax := Lib.hid (at_grown Rgpba.out hgN hpR hpw)
      have Bgpbax := Lib.hid (at_grown Bgpba.out hgN hpb hpw)
      have HCgpbax := Lib.hid hcN
      have LAgpbax := Lib.hid (grown_trans LAgpba.out hgN)
      have LBgpbax := Lib.hid (grown_trans LBgpba.out hgN)
      clear hcN hgN
      refine hK.out _ _ (Blk.of_s Bgpbax.out) (fun hHeld => ?_)
      clear hK K
      try simp only [Act.put]
      refine wpAnyE_ready (rs := [12]) (by kernel_rfl) (by simp) ?_
      refine AllReadyE.cons (i := 12) rfl (by decide) (fun K hK => ?_) AllReadyE.nil
      go_simp
      refine (pick p _ 24 Wgpbax HCgpbax.out (by omega) (by omega) (by omega)).mono ?_
      rintro e Wgpbaxr ⟨rB, rfl, rB0, rB1, hcN, hgN⟩
      have Rgpbaxr := Lib.hid (at_grown Rgpbax.out hgN hpR hpw)
      have Bgpbaxr := Lib.hid (at_grown Bgpbax.out hgN hpb hpw)
      have HCgpbaxr := Lib.hid hcN
      have LBgpbaxr := Lib.hid (grown_trans LBgpbax.out hgN)
      clear hcN hgN
      obtain ⟨mB, hmB, hmB2⟩ := head_len rB0 rB1
      have htB : rB.tdiv 11 = (mB : Int) := by rw [Int.tdiv_eq_ediv_of_nonneg rB0]; exact hmB
      have hwB : IntKind.i64.wrap (mB : Int) = (mB : Int) := IntWalk.i64_in _ (by omega)
      obtain ⟨lB, hlB⟩ : ∃ l : Nat, l = 4 + mB := ⟨_, rfl⟩
      have hvB : IntKind.i64.wrap (4 + (mB : Int)) = (lB : Int) := by rw [IntWalk.i64_in _ (by omega)]; omega
      have hlB7 : (lB : Int) ≤ 6 := by omega
      have hlB1 : 1 ≤ lB := by omega
      have hlB8 : lB ≤ 6 := by omega
      clear hlB
      refine hK.out _ _ (Blk.of_s Bgpbaxr.out) (fun hHeld => ?_)
      clear hK K
      try simp only [Act.put]
      refine wpAnyE_take (i := 13) (v := ?vqgpbaxr13) rfl (by decide +kernel) (fun _ _ _ h => h) (Or.inl ⟨by rfl, ?hqgpbaxr13⟩) (by assumption) ?rqgpbaxr13
      case hqgpbaxr13 =>
        intro wS hSw
        have m0_ := hSw.cell 0 _ rfl
        have m1_ := hSw.cell 1 _ rfl
        have m2_ := hSw.cell 2 _ rfl
        have m3_ := hSw.cell 3 _ rfl
        have m4_ := hSw.cell 4 _ rfl
        have m5_ := hSw.cell 5 _ rfl
        go_simp
        try with_reducible rfl
      try simp only [Act.put]
      refine wpAnyE_take (i := 14) (v := ?vqgpbaxr14) rfl (by decide +kernel) (fun _ _ _ h => h) (Or.inl ⟨by rfl, ?hqgpbaxr14⟩) (by assumption) ?rqgpbaxr14
      case hqgpbaxr14 =>
        intro wS hSw
        have m0_ := hSw.cell 0 _ rfl
        have m1_ := hSw.cell 1 _ rfl
        have m2_ := hSw.cell 2 _ rfl
        have m3_ := hSw.cell 3 _ rfl
        have m4_ := hSw.cell 4 _ rfl
        have m5_ := hSw.cell 5 _ rfl
        go_simp
        try with_reducible rfl
      try simp only [Act.put]
      refine wpAnyE_take (i := 15) (v := ?vqgpbaxr15) rfl (by decide +kernel) (fun _ _ _ h => h) (Or.inl ⟨by rfl, ?hqgpbaxr15⟩) (by assumption) ?rqgpbaxr15
      case hqgpbaxr15 =>
        intro wS hSw
        have m0_ := hSw.cell 0 _ rfl
        have m1_ := hSw.cell 1 _ rfl
        have m2_ := hSw.cell 2 _ rfl
        have m3_ := hSw.cell 3 _ rfl
        have m4_ := hSw.cell 4 _ rfl
        have m5_ := hSw.cell 5 _ rfl
        go_simp
        try with_reducible rfl
      try simp only [Act.put]
      refine wpAnyE_ready (rs := [16]) (by kernel_rfl) (by simp) ?_
      refine AllReadyE.cons (i := 16) rfl (by decide) (fun K hK => ?_) AllReadyE.nil
      go_simp
      refine (among_old (0) 1001 p _ lB 6 _ [1, 10, 100, 1000, 0, 1001] _ Wgp Wgpbaxr HCgpbaxr.out (by omega) LBgpbaxr.out rfl hpgpb rfl rfl hlB1 hlB8 (by omega) HB.out).mono ?_
      rintro e Wgpbaxry ⟨d, rfl, d0, d1, hcN, hgN⟩
      have Rgpbaxry := Lib.hid (at_grown Rgpbaxr.out hgN hpR hpw)
      have Bgpbaxry := Lib.hid (at_grown Bgpbaxr.out hgN hpb hpw)
      have HCgpbaxry := Lib.hid hcN
      have LBgpbaxry := Lib.hid (grown_trans LBgpbaxr.out hgN)
      clear hcN hgN
      refine hK.out _ _ (Blk.of_s Bgpbaxry.out) (fun hHeld => ?_)
      clear hK K
      try simp only [Act.put]
      have r0_ : Wgpbaxry.cell? ⟨w.heap.size, 0, none⟩ = some (.int .i64 0) := Rgpbaxry.out.cell 0
      have rf0_ := Rgpbaxry.out.frozen 0
      have r1_ : Wgpbaxry.cell? ⟨w.heap.size, 1, none⟩ = some (.int .i64 0) := Rgpbaxry.out.cell 1
      have rf1_ := Rgpbaxry.out.frozen 1
      have r2_ : Wgpbaxry.cell? ⟨w.heap.size, 2, none⟩ = some (.int .i64 0) := Rgpbaxry.out.cell 2
      have rf2_ := Rgpbaxry.out.frozen 2
      have r3_ : Wgpbaxry.cell? ⟨w.heap.size, 3, none⟩ = some (.int .i64 0) := Rgpbaxry.out.cell 3
      have rf3_ := Rgpbaxry.out.frozen 3
      have r4_ : Wgpbaxry.cell? ⟨w.heap.size, 4, none⟩ = some (.int .i64 0) := Rgpbaxry.out.cell 4
      have rf4_ := Rgpbaxry.out.frozen 4
      have r5_ : Wgpbaxry.cell? ⟨w.heap.size, 5, none⟩ = some (.int .i64 0) := Rgpbaxry.out.cell 5
      have rf5_ := Rgpbaxry.out.frozen 5
      refine wpAnyE_ready (rs := [17]) (by kernel_rfl) (by simp) ?_
      refine AllReadyE.cons (i := 17) rfl (by decide) (fun K hK => ?_) AllReadyE.nil
      go_simp
      refine hK.out _ _ (((((((Blk.of_s Bgpbaxry.out).other hbR 0 (.int .i64 x)).other hbR 1 (.int .i64 y)).other hbR 2 (.int .i64 u)).other hbR 3 (.int .i64 v)).other hbR 4 (.int .i64 h)).other hbR 5 (.int .i64 c)) (fun hHeld => ?_)
      clear hK K
      try simp only [Act.put]
      refine wpAnyE_ready (rs := [18]) (by kernel_rfl) (by simp) ?_
      refine AllReadyE.cons (i := 18) rfl (by decide) (fun K hK => ?_) AllReadyE.nil
      go_simp
      refine hK.out _ _ (by assumption) (fun hHeld => ?_)
      clear hK K
      try simp only [Act.put]
      refine wpAnyE_ready (rs := [19]) (by kernel_rfl) (by simp) ?_
      refine AllReadyE.last (i := 19) rfl rfl (fun K hK => ?_)
      go_simp
      refine hK.out _ _ ?_
      clear hK K
      try simp only [Act.put]
      refine wpAnyE_done (by kernel_rfl) ?_ _
      try simp only [List.getElem_toArray, List.getElem_cons_succ, List.getElem_cons_zero, List.setIfInBounds_toArray, List.set_cons_succ, List.set_cons_zero]
      have HE := Lib.hid ((((((Rgpbaxry.out.set 0 (.int .i64 x)).set 1 (.int .i64 y)).set 2 (.int .i64 u)).set 3 (.int .i64 v)).set 4 (.int .i64 h)).set 5 (.int .i64 c))
      go_wp2_with fail
      have hl := HE.out.load Try.underlying28 rfl (by kernel_rfl)
      refine bodyPost_ret (v := .tuple #[.agg #[.int .i64 x, .int .i64 y, .int .i64 u, .int .i64 v, .int .i64 h, .int .i64 c], .int .i64 n, .int .i64 d]) ?_ rfl ⟨_, _, _, _, _, _, _, _, rfl, HE.out.1⟩
      rw [results_cell_tmp2 rfl]
      simp [asAddr, Result.andThen, hl]
  · go_simp
    have hpgb : p < w3.heap.size := HC3.out.lt
    have hcN := Cur.alloc HC3.out (.cells #[.int .i64 1, .int .i64 10, .int .i64 100, .int .i64 1000, .int .i64 0, .int .i64 1001] 3)
    have hgN : w3.grownBy (w3.alloc (.cells #[.int .i64 1, .int .i64 10, .int .i64 100, .int .i64 1000, .int .i64 0, .int .i64 1001] 3)) (some p) := grown_alloc _ _
    have HSgb := (Blk.of_s B3.out).alloc (.cells #[.int .i64 1, .int .i64 10, .int .i64 100, .int .i64 1000, .int .i64 0, .int .i64 1001] 3)
    refine hK.out _ _ HSgb (fun hHeld => ?_)
    clear hK K
    try simp only [Act.put]
    generalize hWgb : w3.alloc (.cells #[.int .i64 1, .int .i64 10, .int .i64 100, .int .i64 1000, .int .i64 0, .int .i64 1001] 3) = Wgb at *
    have Rgb := Lib.hid (at_grown R3.out hgN hpR hpw)
    have Bgb := Lib.hid (at_grown B3.out hgN hpb hpw)
    have HCgb := Lib.hid hcN
    clear hcN hgN
    have LBgb := Lib.hid (show (w3.alloc (.cells #[.int .i64 1, .int .i64 10, .int .i64 100, .int .i64 1000, .int .i64 0, .int .i64 1001] 3)).grownBy Wgb (some p) from by rw [hWgb]; exact grown_refl _ _)
    clear hWgb
    refine wpAnyE_ready (rs := [2, 4]) (by kernel_rfl) (by simp) ?_
    refine AllReadyE.cons (i := 2) rfl (by decide) (fun K hK => ?_) (AllReadyE.cons (i := 4) rfl (by decide) (fun K hK => ?_) AllReadyE.nil)
    · go_simp
      have hpgba : p < Wgb.heap.size := HCgb.out.lt
      have hcN := Cur.alloc HCgb.out (.cells #[.int .i64 0, .int .i64 1, .int .i64 3, .int .i64 10, .int .i64 60, .int .i64 (-1), .int .i64 61] 3)
      have hgN : Wgb.grownBy (Wgb.alloc (.cells #[.int .i64 0, .int .i64 1, .int .i64 3, .int .i64 10, .int .i64 60, .int .i64 (-1), .int .i64 61] 3)) (some p) := grown_alloc _ _
      have HSgba := (Blk.of_s Bgb.out).alloc (.cells #[.int .i64 0, .int .i64 1, .int .i64 3, .int .i64 10, .int .i64 60, .int .i64 (-1), .int .i64 61] 3)
      refine hK.out _ _ HSgba (fun hHeld => ?_)
      clear hK K
      try simp only [Act.put]
      generalize hWgba : Wgb.alloc (.cells #[.int .i64 0, .int .i64 1, .int .i64 3, .int .i64 10, .int .i64 60, .int .i64 (-1), .int .i64 61] 3) = Wgba at *
      have Rgba := Lib.hid (at_grown Rgb.out hgN hpR hpw)
      have Bgba := Lib.hid (at_grown Bgb.out hgN hpb hpw)
      have HCgba := Lib.hid hcN
      have LBgba := Lib.hid (grown_trans LBgb.out hgN)
      clear hcN hgN
      have LAgba := Lib.hid (show (Wgb.alloc (.cells #[.int .i64 0, .int .i64 1, .int .i64 3, .int .i64 10, .int .i64 60, .int .i64 (-1), .int .i64 61] 3)).grownBy Wgba (some p) from by rw [hWgba]; exact grown_refl _ _)
      clear hWgba
      refine wpAnyE_ready (rs := [4]) (by kernel_rfl) (by simp) ?_
      refine AllReadyE.cons (i := 4) rfl (by decide) (fun K hK => ?_) AllReadyE.nil
      go_simp
      refine (pick p _ 24 Wgba HCgba.out (by omega) (by omega) (by omega)).mono ?_
      rintro e Wgbap ⟨rA, rfl, rA0, rA1, hcN, hgN⟩
      have Rgbap := Lib.hid (at_grown Rgba.out hgN hpR hpw)
      have Bgbap := Lib.hid (at_grown Bgba.out hgN hpb hpw)
      have HCgbap := Lib.hid hcN
      have LAgbap := Lib.hid (grown_trans LAgba.out hgN)
      have LBgbap := Lib.hid (grown_trans LBgba.out hgN)
      clear hcN hgN
      obtain ⟨mA, hmA, hmA2⟩ := head_len rA0 rA1
      have htA : rA.tdiv 11 = (mA : Int) := by rw [Int.tdiv_eq_ediv_of_nonneg rA0]; exact hmA
      have hwA : IntKind.i64.wrap (mA : Int) = (mA : Int) := IntWalk.i64_in _ (by omega)
      obtain ⟨lA, hlA⟩ : ∃ l : Nat, l = 5 + mA := ⟨_, rfl⟩
      have hvA : IntKind.i64.wrap (5 + (mA : Int)) = (lA : Int) := by rw [IntWalk.i64_in _ (by omega)]; omega
      have hlA7 : (lA : Int) ≤ 7 := by omega
      have hlA1 : 1 ≤ lA := by omega
      have hlA8 : lA ≤ 7 := by omega
      clear hlA
      refine hK.out _ _ (Blk.of_s Bgbap.out) (fun hHeld => ?_)
      clear hK K
      try simp only [Act.put]
      refine wpAnyE_take (i := 5) (v := ?vqgbap5) rfl (by decide +kernel) (fun _ _ _ h => h) (Or.inl ⟨by rfl, ?hqgbap5⟩) (by assumption) ?rqgbap5
      case hqgbap5 =>
        intro wS hSw
        have m0_ := hSw.cell 0 _ rfl
        have m1_ := hSw.cell 1 _ rfl
        have m2_ := hSw.cell 2 _ rfl
        have m3_ := hSw.cell 3 _ rfl
        have m4_ := hSw.cell 4 _ rfl
        have m5_ := hSw.cell 5 _ rfl
        go_simp
        try with_reducible rfl
      try simp only [Act.put]
      refine wpAnyE_take (i := 6) (v := ?vqgbap6) rfl (by decide +kernel) (fun _ _ _ h => h) (Or.inl ⟨by rfl, ?hqgbap6⟩) (by assumption) ?rqgbap6
      case hqgbap6 =>
        intro wS hSw
        have m0_ := hSw.cell 0 _ rfl
        have m1_ := hSw.cell 1 _ rfl
        have m2_ := hSw.cell 2 _ rfl
        have m3_ := hSw.cell 3 _ rfl
        have m4_ := hSw.cell 4 _ rfl
        have m5_ := hSw.cell 5 _ rfl
        go_simp
        try with_reducible rfl
      try simp only [Act.put]
      refine wpAnyE_take (i := 7) (v := ?vqgbap7) rfl (by decide +kernel) (fun _ _ _ h => h) (Or.inl ⟨by rfl, ?hqgbap7⟩) (by assumption) ?rqgbap7
      case hqgbap7 =>
        intro wS hSw
        have m0_ := hSw.cell 0 _ rfl
        have m1_ := hSw.cell 1 _ rfl
        have m2_ := hSw.cell 2 _ rfl
        have m3_ := hSw.cell 3 _ rfl
        have m4_ := hSw.cell 4 _ rfl
        have m5_ := hSw.cell 5 _ rfl
        go_simp
        try with_reducible rfl
      try simp only [Act.put]
      refine wpAnyE_ready (rs := [8]) (by kernel_rfl) (by simp) ?_
      refine AllReadyE.cons (i := 8) rfl (by decide) (fun K hK => ?_) AllReadyE.nil
      go_simp
      refine (among_old (-1) 61 p _ lA 7 _ [0, 1, 3, 10, 60, -1, 61] _ Wgb Wgbap HCgbap.out (by omega) LAgbap.out rfl hpgba rfl rfl hlA1 hlA8 (by omega) HA.out).mono ?_
      rintro e Wgbapx ⟨n, rfl, n0, n1, hcN, hgN⟩
      have Rgbapx := Lib.hid (at_grown Rgbap.out hgN hpR hpw)
      have Bgbapx := Lib.hid (at_grown Bgbap.out hgN hpb hpw)
      have HCgbapx := Lib.hid hcN
      have LAgbapx := Lib.hid (grown_trans LAgbap.out hgN)
      have LBgbapx := Lib.hid (grown_trans LBgbap.out hgN)
      clear hcN hgN
      refine hK.out _ _ (Blk.of_s Bgbapx.out) (fun hHeld => ?_)
      clear hK K
      try simp only [Act.put]
      refine wpAnyE_ready (rs := [12]) (by kernel_rfl) (by simp) ?_
      refine AllReadyE.cons (i := 12) rfl (by decide) (fun K hK => ?_) AllReadyE.nil
      go_simp
      refine (pick p _ 24 Wgbapx HCgbapx.out (by omega) (by omega) (by omega)).mono ?_
      rintro e Wgbapxr ⟨rB, rfl, rB0, rB1, hcN, hgN⟩
      have Rgbapxr := Lib.hid (at_grown Rgbapx.out hgN hpR hpw)
      have Bgbapxr := Lib.hid (at_grown Bgbapx.out hgN hpb hpw)
      have HCgbapxr := Lib.hid hcN
      have LBgbapxr := Lib.hid (grown_trans LBgbapx.out hgN)
      clear hcN hgN
      obtain ⟨mB, hmB, hmB2⟩ := head_len rB0 rB1
      have htB : rB.tdiv 11 = (mB : Int) := by rw [Int.tdiv_eq_ediv_of_nonneg rB0]; exact hmB
      have hwB : IntKind.i64.wrap (mB : Int) = (mB : Int) := IntWalk.i64_in _ (by omega)
      obtain ⟨lB, hlB⟩ : ∃ l : Nat, l = 4 + mB := ⟨_, rfl⟩
      have hvB : IntKind.i64.wrap (4 + (mB : Int)) = (lB : Int) := by rw [IntWalk.i64_in _ (by omega)]; omega
      have hlB7 : (lB : Int) ≤ 6 := by omega
      have hlB1 : 1 ≤ lB := by omega
      have hlB8 : lB ≤ 6 := by omega
      clear hlB
      refine hK.out _ _ (Blk.of_s Bgbapxr.out) (fun hHeld => ?_)
      clear hK K
      try simp only [Act.put]
      refine wpAnyE_take (i := 13) (v := ?vqgbapxr13) rfl (by decide +kernel) (fun _ _ _ h => h) (Or.inl ⟨by rfl, ?hqgbapxr13⟩) (by assumption) ?rqgbapxr13
      case hqgbapxr13 =>
        intro wS hSw
        have m0_ := hSw.cell 0 _ rfl
        have m1_ := hSw.cell 1 _ rfl
        have m2_ := hSw.cell 2 _ rfl
        have m3_ := hSw.cell 3 _ rfl
        have m4_ := hSw.cell 4 _ rfl
        have m5_ := hSw.cell 5 _ rfl
        go_simp
        try with_reducible rfl
      try simp only [Act.put]
      refine wpAnyE_take (i := 14) (v := ?vqgbapxr14) rfl (by decide +kernel) (fun _ _ _ h => h) (Or.inl ⟨by rfl, ?hqgbapxr14⟩) (by assumption) ?rqgbapxr14
      case hqgbapxr14 =>
        intro wS hSw
        have m0_ := hSw.cell 0 _ rfl
        have m1_ := hSw.cell 1 _ rfl
        have m2_ := hSw.cell 2 _ rfl
        have m3_ := hSw.cell 3 _ rfl
        have m4_ := hSw.cell 4 _ rfl
        have m5_ := hSw.cell 5 _ rfl
        go_simp
        try with_reducible rfl
      try simp only [Act.put]
      refine wpAnyE_take (i := 15) (v := ?vqgbapxr15) rfl (by decide +kernel) (fun _ _ _ h => h) (Or.inl ⟨by rfl, ?hqgbapxr15⟩) (by assumption) ?rqgbapxr15
      case hqgbapxr15 =>
        intro wS hSw
        have m0_ := hSw.cell 0 _ rfl
        have m1_ := hSw.cell 1 _ rfl
        have m2_ := hSw.cell 2 _ rfl
        have m3_ := hSw.cell 3 _ rfl
        have m4_ := hSw.cell 4 _ rfl
        have m5_ := hSw.cell 5 _ rfl
        go_simp
        try with_reducible rfl
      try simp only [Act.put]
      refine wpAnyE_ready (rs := [16]) (by kernel_rfl) (by simp) ?_
      refine AllReadyE.cons (i := 16) rfl (by decide) (fun K hK => ?_) AllReadyE.nil
      go_simp
      refine (among_old (0) 1001 p _ lB 6 _ [1, 10, 100, 1000, 0, 1001] _ w3 Wgbapxr HCgbapxr.out (by omega) LBgbapxr.out rfl hpgb rfl rfl hlB1 hlB8 (by omega) HB.out).mono ?_
      rintro e Wgbapxry ⟨d, rfl, d0, d1, hcN, hgN⟩
      have Rgbapxry := Lib.hid (at_grown Rgbapxr.out hgN hpR hpw)
      have Bgbapxry := Lib.hid (at_grown Bgbapxr.out hgN hpb hpw)
      have HCgbapxry := Lib.hid hcN
      have LBgbapxry := Lib.hid (grown_trans LBgbapxr.out hgN)
      clear hcN hgN
      refine hK.out _ _ (Blk.of_s Bgbapxry.out) (fun hHeld => ?_)
      clear hK K
      try simp only [Act.put]
      have r0_ : Wgbapxry.cell? ⟨w.heap.size, 0, none⟩ = some (.int .i64 0) := Rgbapxry.out.cell 0
      have rf0_ := Rgbapxry.out.frozen 0
      have r1_ : Wgbapxry.cell? ⟨w.heap.size, 1, none⟩ = some (.int .i64 0) := Rgbapxry.out.cell 1
      have rf1_ := Rgbapxry.out.frozen 1
      have r2_ : Wgbapxry.cell? ⟨w.heap.size, 2, none⟩ = some (.int .i64 0) := Rgbapxry.out.cell 2
      have rf2_ := Rgbapxry.out.frozen 2
      have r3_ : Wgbapxry.cell? ⟨w.heap.size, 3, none⟩ = some (.int .i64 0) := Rgbapxry.out.cell 3
      have rf3_ := Rgbapxry.out.frozen 3
      have r4_ : Wgbapxry.cell? ⟨w.heap.size, 4, none⟩ = some (.int .i64 0) := Rgbapxry.out.cell 4
      have rf4_ := Rgbapxry.out.frozen 4
      have r5_ : Wgbapxry.cell? ⟨w.heap.size, 5, none⟩ = some (.int .i64 0) := Rgbapxry.out.cell 5
      have rf5_ := Rgbapxry.out.frozen 5
      refine wpAnyE_ready (rs := [17]) (by kernel_rfl) (by simp) ?_
      refine AllReadyE.cons (i := 17) rfl (by decide) (fun K hK => ?_) AllReadyE.nil
      go_simp
      refine hK.out _ _ (((((((Blk.of_s Bgbapxry.out).other hbR 0 (.int .i64 x)).other hbR 1 (.int .i64 y)).other hbR 2 (.int .i64 u)).other hbR 3 (.int .i64 v)).other hbR 4 (.int .i64 h)).other hbR 5 (.int .i64 c)) (fun hHeld => ?_)
      clear hK K
      try simp only [Act.put]
      refine wpAnyE_ready (rs := [18]) (by kernel_rfl) (by simp) ?_
      refine AllReadyE.cons (i := 18) rfl (by decide) (fun K hK => ?_) AllReadyE.nil
      go_simp
      refine hK.out _ _ (by assumption) (fun hHeld => ?_)
      clear hK K
      try simp only [Act.put]
      refine wpAnyE_ready (rs := [19]) (by kernel_rfl) (by simp) ?_
      refine AllReadyE.last (i := 19) rfl rfl (fun K hK => ?_)
      go_simp
      refine hK.out _ _ ?_
      clear hK K
      try simp only [Act.put]
      refine wpAnyE_done (by kernel_rfl) ?_ _
      try simp only [List.getElem_toArray, List.getElem_cons_succ, List.getElem_cons_zero, List.setIfInBounds_toArray, List.set_cons_succ, List.set_cons_zero]
      have HE := Lib.hid ((((((Rgbapxry.out.set 0 (.int .i64 x)).set 1 (.int .i64 y)).set 2 (.int .i64 u)).set 3 (.int .i64 v)).set 4 (.int .i64 h)).set 5 (.int .i64 c))
      go_wp2_with fail
      have hl := HE.out.load Try.underlying28 rfl (by kernel_rfl)
      refine bodyPost_ret (v := .tuple #[.agg #[.int .i64 x, .int .i64 y, .int .i64 u, .int .i64 v, .int .i64 h, .int .i64 c], .int .i64 n, .int .i64 d]) ?_ rfl ⟨_, _, _, _, _, _, _, _, rfl, HE.out.1⟩
      rw [results_cell_tmp2 rfl]
      simp [asAddr, Result.andThen, hl]
    · go_simp
      refine (pick p _ 24 Wgb HCgb.out (by omega) (by omega) (by omega)).mono ?_
      rintro e Wgbp ⟨rA, rfl, rA0, rA1, hcN, hgN⟩
      have Rgbp := Lib.hid (at_grown Rgb.out hgN hpR hpw)
      have Bgbp := Lib.hid (at_grown Bgb.out hgN hpb hpw)
      have HCgbp := Lib.hid hcN
      have LBgbp := Lib.hid (grown_trans LBgb.out hgN)
      clear hcN hgN
      obtain ⟨mA, hmA, hmA2⟩ := head_len rA0 rA1
      have htA : rA.tdiv 11 = (mA : Int) := by rw [Int.tdiv_eq_ediv_of_nonneg rA0]; exact hmA
      have hwA : IntKind.i64.wrap (mA : Int) = (mA : Int) := IntWalk.i64_in _ (by omega)
      obtain ⟨lA, hlA⟩ : ∃ l : Nat, l = 5 + mA := ⟨_, rfl⟩
      have hvA : IntKind.i64.wrap (5 + (mA : Int)) = (lA : Int) := by rw [IntWalk.i64_in _ (by omega)]; omega
      have hlA7 : (lA : Int) ≤ 7 := by omega
      have hlA1 : 1 ≤ lA := by omega
      have hlA8 : lA ≤ 7 := by omega
      clear hlA
      refine hK.out _ _ (Blk.of_s Bgbp.out) (fun hHeld => ?_)
      clear hK K
      try simp only [Act.put]
      refine wpAnyE_take (i := 5) (v := ?vqgbp5) rfl (by decide +kernel) (fun _ _ _ h => h) (Or.inl ⟨by rfl, ?hqgbp5⟩) (by assumption) ?rqgbp5
      case hqgbp5 =>
        intro wS hSw
        have m0_ := hSw.cell 0 _ rfl
        have m1_ := hSw.cell 1 _ rfl
        have m2_ := hSw.cell 2 _ rfl
        have m3_ := hSw.cell 3 _ rfl
        have m4_ := hSw.cell 4 _ rfl
        have m5_ := hSw.cell 5 _ rfl
        go_simp
        try with_reducible rfl
      try simp only [Act.put]
      refine wpAnyE_take (i := 6) (v := ?vqgbp6) rfl (by decide +kernel) (fun _ _ _ h => h) (Or.inl ⟨by rfl, ?hqgbp6⟩) (by assumption) ?rqgbp6
      case hqgbp6 =>
        intro wS hSw
        have m0_ := hSw.cell 0 _ rfl
        have m1_ := hSw.cell 1 _ rfl
        have m2_ := hSw.cell 2 _ rfl
        have m3_ := hSw.cell 3 _ rfl
        have m4_ := hSw.cell 4 _ rfl
        have m5_ := hSw.cell 5 _ rfl
        go_simp
        try with_reducible rfl
      try simp only [Act.put]
      refine wpAnyE_ready (rs := [2]) (by kernel_rfl) (by simp) ?_
      refine AllReadyE.cons (i := 2) rfl (by decide) (fun K hK => ?_) AllReadyE.nil
      go_simp
      have hpgbpa : p < Wgbp.heap.size := HCgbp.out.lt
      have hcN := Cur.alloc HCgbp.out (.cells #[.int .i64 0, .int .i64 1, .int .i64 3, .int .i64 10, .int .i64 60, .int .i64 (-1), .int .i64 61] 3)
      have hgN : Wgbp.grownBy (Wgbp.alloc (.cells #[.int .i64 0, .int .i64 1, .int .i64 3, .int .i64 10, .int .i64 60, .int .i64 (-1), .int .i64 61] 3)) (some p) := grown_alloc _ _
      have HSgbpa := (Blk.of_s Bgbp.out).alloc (.cells #[.int .i64 0, .int .i64 1, .int .i64 3, .int .i64 10, .int .i64 60, .int .i64 (-1), .int .i64 61] 3)
      refine hK.out _ _ HSgbpa (fun hHeld => ?_)
      clear hK K
      try simp only [Act.put]
      generalize hWgbpa : Wgbp.alloc (.cells #[.int .i64 0, .int .i64 1, .int .i64 3, .int .i64 10, .int .i64 60, .int .i64 (-1), .int .i64 61] 3) = Wgbpa at *
      have Rgbpa := Lib.hid (at_grown Rgbp.out hgN hpR hpw)
      have Bgbpa := Lib.hid (at_grown Bgbp.out hgN hpb hpw)
      have HCgbpa := Lib.hid hcN
      have LBgbpa := Lib.hid (grown_trans LBgbp.out hgN)
      clear hcN hgN
      have LAgbpa := Lib.hid (show (Wgbp.alloc (.cells #[.int .i64 0, .int .i64 1, .int .i64 3, .int .i64 10, .int .i64 60, .int .i64 (-1), .int .i64 61] 3)).grownBy Wgbpa (some p) from by rw [hWgbpa]; exact grown_refl _ _)
      clear hWgbpa
      refine wpAnyE_take (i := 7) (v := ?vqgbpa7) rfl (by decide +kernel) (fun _ _ _ h => h) (Or.inl ⟨by rfl, ?hqgbpa7⟩) (by assumption) ?rqgbpa7
      case hqgbpa7 =>
        intro wS hSw
        have m0_ := hSw.cell 0 _ rfl
        have m1_ := hSw.cell 1 _ rfl
        have m2_ := hSw.cell 2 _ rfl
        have m3_ := hSw.cell 3 _ rfl
        have m4_ := hSw.cell 4 _ rfl
        have m5_ := hSw.cell 5 _ rfl
        go_simp
        try with_reducible rfl
      try simp only [Act.put]
      refine wpAnyE_ready (rs := [8]) (by kernel_rfl) (by simp) ?_
      refine AllReadyE.cons (i := 8) rfl (by decide) (fun K hK => ?_) AllReadyE.nil
      go_simp
      refine (among_old (-1) 61 p _ lA 7 _ [0, 1, 3, 10, 60, -1, 61] _ Wgbp Wgbpa HCgbpa.out (by omega) LAgbpa.out rfl hpgbpa rfl rfl hlA1 hlA8 (by omega) HA.out).mono ?_
      rintro e Wgbpax ⟨n, rfl, n0, n1, hcN, hgN⟩
      have Rgbpax := Lib.hid (at_grown Rgbpa.out hgN hpR hpw)
      have Bgbpax := Lib.hid (at_grown Bgbpa.out hgN hpb hpw)
      have HCgbpax := Lib.hid hcN
      have LAgbpax := Lib.hid (grown_trans LAgbpa.out hgN)
      have LBgbpax := Lib.hid (grown_trans LBgbpa.out hgN)
      clear hcN hgN
      refine hK.out _ _ (Blk.of_s Bgbpax.out) (fun hHeld => ?_)
      clear hK K
      try simp only [Act.put]
      refine wpAnyE_ready (rs := [12]) (by kernel_rfl) (by simp) ?_
      refine AllReadyE.cons (i := 12) rfl (by decide) (fun K hK => ?_) AllReadyE.nil
      go_simp
      refine (pick p _ 24 Wgbpax HCgbpax.out (by omega) (by omega) (by omega)).mono ?_
      rintro e Wgbpaxr ⟨rB, rfl, rB0, rB1, hcN, hgN⟩
      have Rgbpaxr := Lib.hid (at_grown Rgbpax.out hgN hpR hpw)
      have Bgbpaxr := Lib.hid (at_grown Bgbpax.out hgN hpb hpw)
      have HCgbpaxr := Lib.hid hcN
      have LBgbpaxr := Lib.hid (grown_trans LBgbpax.out hgN)
      clear hcN hgN
      obtain ⟨mB, hmB, hmB2⟩ := head_len rB0 rB1
      have htB : rB.tdiv 11 = (mB : Int) := by rw [Int.tdiv_eq_ediv_of_nonneg rB0]; exact hmB
      have hwB : IntKind.i64.wrap (mB : Int) = (mB : Int) := IntWalk.i64_in _ (by omega)
      obtain ⟨lB, hlB⟩ : ∃ l : Nat, l = 4 + mB := ⟨_, rfl⟩
      have hvB : IntKind.i64.wrap (4 + (mB : Int)) = (lB : Int) := by rw [IntWalk.i64_in _ (by omega)]; omega
      have hlB7 : (lB : Int) ≤ 6 := by omega
      have hlB1 : 1 ≤ lB := by omega
      have hlB8 : lB ≤ 6 := by omega
      clear hlB
      refine hK.out _ _ (Blk.of_s Bgbpaxr.out) (fun hHeld => ?_)
      clear hK K
      try simp only [Act.put]
      refine wpAnyE_take (i := 13) (v := ?vqgbpaxr13) rfl (by decide +kernel) (fun _ _ _ h => h) (Or.inl ⟨by rfl, ?hqgbpaxr13⟩) (by assumption) ?rqgbpaxr13
      case hqgbpaxr13 =>
        intro wS hSw
        have m0_ := hSw.cell 0 _ rfl
        have m1_ := hSw.cell 1 _ rfl
        have m2_ := hSw.cell 2 _ rfl
        have m3_ := hSw.cell 3 _ rfl
        have m4_ := hSw.cell 4 _ rfl
        have m5_ := hSw.cell 5 _ rfl
        go_simp
        try with_reducible rfl
      try simp only [Act.put]
      refine wpAnyE_take (i := 14) (v := ?vqgbpaxr14) rfl (by decide +kernel) (fun _ _ _ h => h) (Or.inl ⟨by rfl, ?hqgbpaxr14⟩) (by assumption) ?rqgbpaxr14
      case hqgbpaxr14 =>
        intro wS hSw
        have m0_ := hSw.cell 0 _ rfl
        have m1_ := hSw.cell 1 _ rfl
        have m2_ := hSw.cell 2 _ rfl
        have m3_ := hSw.cell 3 _ rfl
        have m4_ := hSw.cell 4 _ rfl
        have m5_ := hSw.cell 5 _ rfl
        go_simp
        try with_reducible rfl
      try simp only [Act.put]
      refine wpAnyE_take (i := 15) (v := ?vqgbpaxr15) rfl (by decide +kernel) (fun _ _ _ h => h) (Or.inl ⟨by rfl, ?hqgbpaxr15⟩) (by assumption) ?rqgbpaxr15
      case hqgbpaxr15 =>
        intro wS hSw
        have m0_ := hSw.cell 0 _ rfl
        have m1_ := hSw.cell 1 _ rfl
        have m2_ := hSw.cell 2 _ rfl
        have m3_ := hSw.cell 3 _ rfl
        have m4_ := hSw.cell 4 _ rfl
        have m5_ := hSw.cell 5 _ rfl
        go_simp
        try with_reducible rfl
      try simp only [Act.put]
      refine wpAnyE_ready (rs := [16]) (by kernel_rfl) (by simp) ?_
      refine AllReadyE.cons (i := 16) rfl (by decide) (fun K hK => ?_) AllReadyE.nil
      go_simp
      refine (among_old (0) 1001 p _ lB 6 _ [1, 10, 100, 1000, 0, 1001] _ w3 Wgbpaxr HCgbpaxr.out (by omega) LBgbpaxr.out rfl hpgb rfl rfl hlB1 hlB8 (by omega) HB.out).mono ?_
      rintro e Wgbpaxry ⟨d, rfl, d0, d1, hcN, hgN⟩
      have Rgbpaxry := Lib.hid (at_grown Rgbpaxr.out hgN hpR hpw)
      have Bgbpaxry := Lib.hid (at_grown Bgbpaxr.out hgN hpb hpw)
      have HCgbpaxry := Lib.hid hcN
      have LBgbpaxry := Lib.hid (grown_trans LBgbpaxr.out hgN)
      clear hcN hgN
      refine hK.out _ _ (Blk.of_s Bgbpaxry.out) (fun hHeld => ?_)
      clear hK K
      try simp only [Act.put]
      have r0_ : Wgbpaxry.cell? ⟨w.heap.size, 0, none⟩ = some (.int .i64 0) := Rgbpaxry.out.cell 0
      have rf0_ := Rgbpaxry.out.frozen 0
      have r1_ : Wgbpaxry.cell? ⟨w.heap.size, 1, none⟩ = some (.int .i64 0) := Rgbpaxry.out.cell 1
      have rf1_ := Rgbpaxry.out.frozen 1
      have r2_ : Wgbpaxry.cell? ⟨w.heap.size, 2, none⟩ = some (.int .i64 0) := Rgbpaxry.out.cell 2
      have rf2_ := Rgbpaxry.out.frozen 2
      have r3_ : Wgbpaxry.cell? ⟨w.heap.size, 3, none⟩ = some (.int .i64 0) := Rgbpaxry.out.cell 3
      have rf3_ := Rgbpaxry.out.frozen 3
      have r4_ : Wgbpaxry.cell? ⟨w.heap.size, 4, none⟩ = some (.int .i64 0) := Rgbpaxry.out.cell 4
      have rf4_ := Rgbpaxry.out.frozen 4
      have r5_ : Wgbpaxry.cell? ⟨w.heap.size, 5, none⟩ = some (.int .i64 0) := Rgbpaxry.out.cell 5
      have rf5_ := Rgbpaxry.out.frozen 5
      refine wpAnyE_ready (rs := [17]) (by kernel_rfl) (by simp) ?_
      refine AllReadyE.cons (i := 17) rfl (by decide) (fun K hK => ?_) AllReadyE.nil
      go_simp
      refine hK.out _ _ (((((((Blk.of_s Bgbpaxry.out).other hbR 0 (.int .i64 x)).other hbR 1 (.int .i64 y)).other hbR 2 (.int .i64 u)).other hbR 3 (.int .i64 v)).other hbR 4 (.int .i64 h)).other hbR 5 (.int .i64 c)) (fun hHeld => ?_)
      clear hK K
      try simp only [Act.put]
      refine wpAnyE_ready (rs := [18]) (by kernel_rfl) (by simp) ?_
      refine AllReadyE.cons (i := 18) rfl (by decide) (fun K hK => ?_) AllReadyE.nil
      go_simp
      refine hK.out _ _ (by assumption) (fun hHeld => ?_)
      clear hK K
      try simp only [Act.put]
      refine wpAnyE_ready (rs := [19]) (by kernel_rfl) (by simp) ?_
      refine AllReadyE.last (i := 19) rfl rfl (fun K hK => ?_)
      go_simp
      refine hK.out _ _ ?_
      clear hK K
      try simp only [Act.put]
      refine wpAnyE_done (by kernel_rfl) ?_ _
      try simp only [List.getElem_toArray, List.getElem_cons_succ, List.getElem_cons_zero, List.setIfInBounds_toArray, List.set_cons_succ, List.set_cons_zero]
      have HE := Lib.hid ((((((Rgbpaxry.out.set 0 (.int .i64 x)).set 1 (.int .i64 y)).set 2 (.int .i64 u)).set 3 (.int .i64 v)).set 4 (.int .i64 h)).set 5 (.int .i64 c))
      go_wp2_with fail
      have hl := HE.out.load Try.underlying28 rfl (by kernel_rfl)
      refine bodyPost_ret (v := .tuple #[.agg #[.int .i64 x, .int .i64 y, .int .i64 u, .int .i64 v, .int .i64 h, .int .i64 c], .int .i64 n, .int .i64 d]) ?_ rfl ⟨_, _, _, _, _, _, _, _, rfl, HE.out.1⟩
      rw [results_cell_tmp2 rfl]
      simp [asAddr, Result.andThen, hl]
end Go.Proofs.Ytinkkdgjpcnklaa.drawu16
