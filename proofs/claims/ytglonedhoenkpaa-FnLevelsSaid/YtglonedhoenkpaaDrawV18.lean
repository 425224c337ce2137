/- spec's draws for FnLevels. -/
import Derived.Test.YtglonedhoenkpaaDrawU18
namespace Go.Proofs.Ytglonedhoenkpaa.drawv18
set_option linter.unusedVariables false
set_option linter.unusedSimpArgs false
open Go.RowKit Go.Proofs.Ytglonedhoenkpaa.cur Go.Proofs.Ytglonedhoenkpaa.atc Go.Proofs.Ytglonedhoenkpaa.ats Go.Proofs.Ytglonedhoenkpaa.ints Go.Proofs.Ytglonedhoenkpaa.lst Go.Proofs.Ytglonedhoenkpaa.code_ Go.Proofs.Ytglonedhoenkpaa.tailh Go.Proofs.Ytglonedhoenkpaa.draws18 Go.Proofs.Ytglonedhoenkpaa.drawt18 Go.Proofs.Ytglonedhoenkpaa.drawu18 Go.Proofs.Ytglonedhoenkpaa.lvl

theorem results_n6 {fn : Func} {p q a b c d : Tmp} {ty : TypeId} (h : fn.results = #[.tmp p, .cell q ty, .tmp a, .tmp b, .tmp c, .tmp d]) (tmps : Array Value) (P : Program) (w : World) :
    (results fn tmps).run P w = ((asAddr (tmps.getD q undef)).run P w).andThen fun x w₁ => ((loadVar ty x).run P w₁).andThen fun v w₂ => .ok (.tuple #[tmps.getD p undef, v, tmps.getD a undef, tmps.getD b undef, tmps.getD c undef, tmps.getD d undef]) w₂ := by
  simp only [results, h]
  simp [Sem.run_bind, Result.andThen]
def NearQ (w : World) (e : Ending) (w' : World) : Prop := ∃ v k zs x y a f t l, e = .returned (.tuple #[v, .agg #[.int .i64 x, .int .i64 y], .int .i64 a, .int .i64 f, .int .i64 t, .int .i64 l]) ∧ w'.ownsRow w.heap.size 26 5 v k (cellsI zs) ∧ k ≤ 12 ∧ Below w.heap.size w w'
def RightQ (w : World) (e : Ending) (w' : World) : Prop := ∃ x y l, e = .returned (.tuple #[.agg #[.int .i64 x, .int .i64 y], .int .i64 l]) ∧ Below w.heap.size w w'
theorem bw_n : ∀ x ∈ ([10, 100, 110, 200, 350, 410, 0, 105] : List Int), 0 ≤ x ∧ x ≤ 420 := by decide
theorem bw_r : ∀ x ∈ ([10, 20, 100, 110, 410, 0, 420, 105] : List Int), 0 ≤ x ∧ x ≤ 420 := by decide
set_option maxRecDepth 100000 in
set_option maxHeartbeats 8000000 in
theorem nearestLevel (A : Option Addr) (n c0 : Nat) (w : World) (hn : n ≤ 65536) (h : Bytes w w.heap.size A n) :
    Calls Try.prog 34 #[.slice A n c0] w (NearQ w) := by
  have Q0 := Lib.hid ((newS 50 #[.int .i64 0, .int .i64 0] w).alloc (.cells #[.slice A n c0, .int .i64 0, .int .u64 0] 79))
  have hc := new_cur c0 (by omega) (bytes_al (.cells #[.int .i64 0, .int .i64 0] 50) h)
  have HZ := Lib.hid (show ((w.alloc (.cells #[.int .i64 0, .int .i64 0] 50)).alloc (.cells #[.slice A n c0, .int .i64 0, .int .u64 0] 79)).heap.size = w.heap.size + 1 + 1 from by rw [World.size_alloc, World.size_alloc])
  rw [World.size_alloc] at hc
  have HC0 := Lib.hid hc
  clear h hc
  go_enter Try.func34, Try.ntmps34
  go_wp2_with fail
  generalize (w.alloc (.cells #[.int .i64 0, .int .i64 0] 50)).alloc (.cells #[.slice A n c0, .int .i64 0, .int .u64 0] 79) = W0 at *
  refine (clearances _ 0 W0 HC0.out (by omega)).mono ?_
  rintro e w1 ⟨v, k, zs, rfl, ho, hk, hc, hg⟩
  obtain ⟨A1, c1, rfl⟩ := own_sliceZ ho
  have Q1 := Lib.hid (at_grown Q0.out hg (by omega) (by omega))
  have L1 := Lib.hid ho
  have C1 := Lib.hid hc
  clear ho hc hg Q0 HC0
  go_wp2_with fail
  refine (cleared _ _ w1 C1.out (by omega)).mono ?_
  rintro e w2 ⟨x0, x1, x2, x3, x4, rfl, hc, hg⟩
  have Q2 := Lib.hid (at_grown Q1.out hg (by omega) (by omega))
  have L2 := Lib.hid (own_kept L1.out hg (fun g e => by cases e; rw [HZ.out]; omega))
  have C2 := Lib.hid hc
  clear hc hg Q1 L1 C1
  have hbp : (w.heap.size + 1) < w2.heap.size := C2.out.lt
  have BX := Lib.hid (Blk.new 26 #[.int .i64 x0, .int .i64 x1, .int .i64 x2, .int .i64 x3, .int .i64 x4] w2)
  have LL := Lib.hid (L2.out.alloc (.cells #[.int .i64 x0, .int .i64 x1, .int .i64 x2, .int .i64 x3, .int .i64 x4] 26))
  have CC := Lib.hid (Cur.alloc C2.out (.cells #[.int .i64 x0, .int .i64 x1, .int .i64 x2, .int .i64 x3, .int .i64 x4] 26))
  have QQ := Lib.hid (Q2.out.alloc (.cells #[.int .i64 x0, .int .i64 x1, .int .i64 x2, .int .i64 x3, .int .i64 x4] 26))
  have BW := Lib.hid bw_n
  clear L2 C2 Q2
  go_upto_region 4 with fail
  generalize w2.alloc (.cells #[.int .i64 x0, .int .i64 x1, .int .i64 x2, .int .i64 x3, .int .i64 x4] 26) = W3 at *
  generalize w2.heap.size = b at *
  have LL := Lib.hid (show W3.drew.ownsRow _ _ _ _ _ _ from LL.out)
  have CC := Lib.hid (CC.out.keep (Below.refl _ _).drew)
  have QQ := Lib.hid QQ.out.drew
  have BX := Lib.hid BX.out.drew
  refine wp_region_tail (S := fun w' => World.cell? w' ⟨b, 3, none⟩ = some (.int .i64 x3) ∧ World.cell? w' ⟨b, 4, none⟩ = some (.int .i64 x4)) 22 (by kernel_rfl) ⟨BX.out.cell 3 _ rfl, BX.out.cell 4 _ rfl⟩ (fun hHeld => ?_)
  generalize W3.drew = F0 at *
  try simp only [Act.put, List.getElem_toArray, List.getElem_cons_succ, List.getElem_cons_zero, List.setIfInBounds_toArray, List.set_cons_succ, List.set_cons_zero]
  refine wpAnyE_take (i := 0) (v := ?vt3_0) rfl (by decide +kernel) (fun _ _ _ h => h) (Or.inl ⟨by first | rfl | kernel_rfl, ?ht3_0⟩) (by assumption) ?rt3_0
  case ht3_0 =>
    intro wS hSw
    obtain ⟨h0, h1⟩ := hSw
    go_simp
    try with_reducible rfl
  try simp only [Act.put, List.getElem_toArray, List.getElem_cons_succ, List.getElem_cons_zero, List.setIfInBounds_toArray, List.set_cons_succ, List.set_cons_zero]
  refine wpAnyE_take (i := 1) (v := ?vt3_1) rfl (by decide +kernel) (fun _ _ _ h => h) (Or.inl ⟨by first | rfl | kernel_rfl, ?ht3_1⟩) (by assumption) ?rt3_1
  case ht3_1 =>
    intro wS hSw
    obtain ⟨h0, h1⟩ := hSw
    go_simp
    try with_reducible rfl
  try simp only [Act.put, List.getElem_toArray, List.getElem_cons_succ, List.getElem_cons_zero, List.setIfInBounds_toArray, List.set_cons_succ, List.set_cons_zero]
  refine wpAnyE_take (i := 3) (v := ?vt3_3) rfl (by decide +kernel) (fun _ _ _ h => h) (Or.inl ⟨by first | rfl | kernel_rfl, ?ht3_3⟩) (by assumption) ?rt3_3
  case ht3_3 =>
    intro wS hSw
    obtain ⟨h0, h1⟩ := hSw
    go_simp
    try with_reducible rfl
  try simp only [Act.put, List.getElem_toArray, List.getElem_cons_succ, List.getElem_cons_zero, List.setIfInBounds_toArray, List.set_cons_succ, List.set_cons_zero]
  refine wpAnyE_take (i := 5) (v := ?vt3_5) rfl (by decide +kernel) (fun _ _ _ h => h) (Or.inl ⟨by first | rfl | kernel_rfl, ?ht3_5⟩) (by assumption) ?rt3_5
  case ht3_5 =>
    intro wS hSw
    obtain ⟨h0, h1⟩ := hSw
    go_simp
    try with_reducible rfl
  try simp only [Act.put, List.getElem_toArray, List.getElem_cons_succ, List.getElem_cons_zero, List.setIfInBounds_toArray, List.set_cons_succ, List.set_cons_zero]
  refine wpAnyE_take (i := 6) (v := ?vt3_6) rfl (by decide +kernel) (fun _ _ _ h => h) (Or.inl ⟨by first | rfl | kernel_rfl, ?ht3_6⟩) (by assumption) ?rt3_6
  case ht3_6 =>
    intro wS hSw
    obtain ⟨h0, h1⟩ := hSw
    go_simp
    try with_reducible rfl
  try simp only [Act.put, List.getElem_toArray, List.getElem_cons_succ, List.getElem_cons_zero, List.setIfInBounds_toArray, List.set_cons_succ, List.set_cons_zero]
  refine wpAnyE_take (i := 7) (v := ?vt3_7) rfl (by decide +kernel) (fun _ _ _ h => h) (Or.inl ⟨by first | rfl | kernel_rfl, ?ht3_7⟩) (by assumption) ?rt3_7
  case ht3_7 =>
    intro wS hSw
    obtain ⟨h0, h1⟩ := hSw
    go_simp
    try with_reducible rfl
  try simp only [Act.put, List.getElem_toArray, List.getElem_cons_succ, List.getElem_cons_zero, List.setIfInBounds_toArray, List.set_cons_succ, List.set_cons_zero]
  refine wpAnyE_take (i := 8) (v := ?vt3_8) rfl (by decide +kernel) (fun _ _ _ h => h) (Or.inl ⟨by first | rfl | kernel_rfl, ?ht3_8⟩) (by assumption) ?rt3_8
  case ht3_8 =>
    intro wS hSw
    obtain ⟨h0, h1⟩ := hSw
    go_simp
    try with_reducible rfl
  try simp only [Act.put, List.getElem_toArray, List.getElem_cons_succ, List.getElem_cons_zero, List.setIfInBounds_toArray, List.set_cons_succ, List.set_cons_zero]
  refine wpAnyE_take (i := 9) (v := ?vt3_9) rfl (by decide +kernel) (fun _ _ _ h => h) (Or.inl ⟨by first | rfl | kernel_rfl, ?ht3_9⟩) (by assumption) ?rt3_9
  case ht3_9 =>
    intro wS hSw
    obtain ⟨h0, h1⟩ := hSw
    go_simp
    try with_reducible rfl
  try simp only [Act.put, List.getElem_toArray, List.getElem_cons_succ, List.getElem_cons_zero, List.setIfInBounds_toArray, List.set_cons_succ, List.set_cons_zero]
  refine wpAnyE_take (i := 11) (v := ?vt3_11) rfl (by decide +kernel) (fun _ _ _ h => h) (Or.inl ⟨by first | rfl | kernel_rfl, ?ht3_11⟩) (by assumption) ?rt3_11
  case ht3_11 =>
    intro wS hSw
    obtain ⟨h0, h1⟩ := hSw
    go_simp
    try with_reducible rfl
  try simp only [Act.put, List.getElem_toArray, List.getElem_cons_succ, List.getElem_cons_zero, List.setIfInBounds_toArray, List.set_cons_succ, List.set_cons_zero]
  refine wpAnyE_ready (rs := [2, 10]) (by kernel_rfl) (by simp) ?_
  refine AllReadyE.cons (i := 2) rfl (by decide) (fun K hK => ?_) (AllReadyE.cons (i := 10) rfl (by decide) (fun K hK => ?_) AllReadyE.nil)
  · go_simp
    refine (drawv8.velocity _ _ F0 CC.out (by omega)).mono ?_
    rintro e y1 ⟨x, y, rfl, xb, hc, hg⟩
    have QQ := Lib.hid (at_grown QQ.out hg (by omega) (by omega))
    have BX := Lib.hid (BX.out.grown hg (Nat.ne_of_gt hbp))
    have LL := Lib.hid (own_kept LL.out hg (fun g e => by cases e; rw [HZ.out]; omega))
    have CC := Lib.hid hc
    clear hc hg
    go_simp
    refine hK.out _ _ ⟨BX.out.cell 3 _ rfl, BX.out.cell 4 _ rfl⟩ (fun hHeld => ?_)
    clear hK K
    try simp only [Act.put, List.getElem_toArray, List.getElem_cons_succ, List.getElem_cons_zero, List.setIfInBounds_toArray, List.set_cons_succ, List.set_cons_zero]
    refine wpAnyE_ready (rs := [4, 10]) (by kernel_rfl) (by simp) ?_
    refine AllReadyE.cons (i := 4) rfl (by decide) (fun K hK => ?_) (AllReadyE.cons (i := 10) rfl (by decide) (fun K hK => ?_) AllReadyE.nil)
    · go_simp
      refine (address18 _ _ y1 CC.out (by omega)).mono ?_
      rintro e y2 ⟨a, rfl, hc, hg⟩
      have QQ := Lib.hid (at_grown QQ.out hg (by omega) (by omega))
      have BX := Lib.hid (BX.out.grown hg (Nat.ne_of_gt hbp))
      have LL := Lib.hid (own_kept LL.out hg (fun g e => by cases e; rw [HZ.out]; omega))
      have CC := Lib.hid hc
      clear hc hg
      go_simp
      refine hK.out _ _ ⟨BX.out.cell 3 _ rfl, BX.out.cell 4 _ rfl⟩ (fun hHeld => ?_)
      clear hK K
      try simp only [Act.put, List.getElem_toArray, List.getElem_cons_succ, List.getElem_cons_zero, List.setIfInBounds_toArray, List.set_cons_succ, List.set_cons_zero]
      refine wpAnyE_ready (rs := [10, 12]) (by kernel_rfl) (by simp) ?_
      refine AllReadyE.cons (i := 10) rfl (by decide) (fun K hK => ?_) (AllReadyE.cons (i := 12) rfl (by decide) (fun K hK => ?_) AllReadyE.nil)
      · go_simp
        have LPx := Lib.hid (show (w.heap.size + 1) < y2.heap.size from CC.out.lt)
        have QQ := Lib.hid (QQ.out.alloc (.cells #[.int .i64 10, .int .i64 100, .int .i64 110, .int .i64 200, .int .i64 350, .int .i64 410, .int .i64 0, .int .i64 105] 3))
        have BX := Lib.hid (BX.out.alloc (.cells #[.int .i64 10, .int .i64 100, .int .i64 110, .int .i64 200, .int .i64 350, .int .i64 410, .int .i64 0, .int .i64 105] 3))
        have CC := Lib.hid (Cur.alloc CC.out (.cells #[.int .i64 10, .int .i64 100, .int .i64 110, .int .i64 200, .int .i64 350, .int .i64 410, .int .i64 0, .int .i64 105] 3))
        have LL := Lib.hid (LL.out.alloc (.cells #[.int .i64 10, .int .i64 100, .int .i64 110, .int .i64 200, .int .i64 350, .int .i64 410, .int .i64 0, .int .i64 105] 3))
        obtain ⟨wl, hwl⟩ : ∃ wl, y2 = wl := ⟨_, rfl⟩
        have LH := Lib.hid (show (wl.alloc (.cells #[.int .i64 10, .int .i64 100, .int .i64 110, .int .i64 200, .int .i64 350, .int .i64 410, .int .i64 0, .int .i64 105] 3)).grownBy (y2.alloc (.cells #[.int .i64 10, .int .i64 100, .int .i64 110, .int .i64 200, .int .i64 350, .int .i64 410, .int .i64 0, .int .i64 105] 3)) (some (w.heap.size + 1)) from by rw [← hwl]; exact lst.grown_refl _ _)
        have LP := Lib.hid (show (w.heap.size + 1) < wl.heap.size by rw [← hwl]; exact LPx.out)
        have LE := Lib.hid (show wl.heap.size = y2.heap.size by rw [← hwl])
        clear hwl LPx
        generalize y2.alloc (.cells #[.int .i64 10, .int .i64 100, .int .i64 110, .int .i64 200, .int .i64 350, .int .i64 410, .int .i64 0, .int .i64 105] 3) = y3 at *
        generalize y2.heap.size = lb at *
        refine hK.out _ _ ⟨BX.out.cell 3 _ rfl, BX.out.cell 4 _ rfl⟩ (fun hHeld => ?_)
        clear hK K
        try simp only [Act.put, List.getElem_toArray, List.getElem_cons_succ, List.getElem_cons_zero, List.setIfInBounds_toArray, List.set_cons_succ, List.set_cons_zero]
        refine wpAnyE_ready (rs := [12]) (by kernel_rfl) (by simp) ?_
        refine AllReadyE.cons (i := 12) rfl (by decide) (fun K hK => ?_) AllReadyE.nil
        go_simp
        refine (pick (w.heap.size + 1) _ 24 y3 CC.out (by omega) (by omega) (by omega)).mono ?_
        rintro e y4 ⟨r, rfl, r0, r1, hc, hg⟩
        have QQ := Lib.hid (at_grown QQ.out hg (by omega) (by omega))
        have BX := Lib.hid (BX.out.grown hg (Nat.ne_of_gt hbp))
        have LL := Lib.hid (own_kept LL.out hg (fun g e => by cases e; rw [HZ.out]; omega))
        have LH := Lib.hid (grown_trans LH.out hg)
        have CC := Lib.hid hc
        clear hc hg
        obtain ⟨rn, rfl⟩ := Int.eq_ofNat_of_zero_le r0
        obtain ⟨q, hq⟩ : ∃ q, q = rn / 11 := ⟨_, rfl⟩
        have q1 : (rn : Int).tdiv 11 = (q : Int) := by rw [hq]; rfl
        have e1 : IntKind.i64.wrap ((rn : Int).tdiv 11) = (q : Int) := by rw [q1, IntWalk.i64_in _ (by omega)]
        have e1b : IntKind.i64.wrap ((rn : Int) / 11) = (q : Int) := by rw [IntWalk.i64_in _ (by omega)]; omega
        obtain ⟨sq, hsq⟩ : ∃ sq : Nat, sq = 6 + q := ⟨_, rfl⟩
        have e2 : IntKind.i64.wrap (6 + (q : Int)) = (sq : Int) := by rw [IntWalk.i64_in _ (by omega)]; omega
        have hq7i : (sq : Int) ≤ 8 := by omega
        have hq0i : (0 : Int) ≤ (sq : Int) := Int.natCast_nonneg _
        have HQQ := Lib.hid (show 1 ≤ sq ∧ sq ≤ 8 by omega)
        clear hq q1 hsq
        go_simp
        refine hK.out _ _ ⟨BX.out.cell 3 _ rfl, BX.out.cell 4 _ rfl⟩ (fun hHeld => ?_)
        clear hK K
        try simp only [Act.put, List.getElem_toArray, List.getElem_cons_succ, List.getElem_cons_zero, List.setIfInBounds_toArray, List.set_cons_succ, List.set_cons_zero]
        refine wpAnyE_take (i := 13) (v := ?vt4_13) rfl (by decide +kernel) (fun _ _ _ h => h) (Or.inl ⟨by first | rfl | kernel_rfl, ?ht4_13⟩) (by assumption) ?rt4_13
        case ht4_13 =>
          intro wS hSw
          obtain ⟨h0, h1⟩ := hSw
          go_simp
          try with_reducible rfl
        try simp only [Act.put, List.getElem_toArray, List.getElem_cons_succ, List.getElem_cons_zero, List.setIfInBounds_toArray, List.set_cons_succ, List.set_cons_zero]
        refine wpAnyE_take (i := 14) (v := ?vt4_14) rfl (by decide +kernel) (fun _ _ _ h => h) (Or.inl ⟨by first | rfl | kernel_rfl, ?ht4_14⟩) (by assumption) ?rt4_14
        case ht4_14 =>
          intro wS hSw
          obtain ⟨h0, h1⟩ := hSw
          go_simp
          try with_reducible rfl
        try simp only [Act.put, List.getElem_toArray, List.getElem_cons_succ, List.getElem_cons_zero, List.setIfInBounds_toArray, List.set_cons_succ, List.set_cons_zero]
        refine wpAnyE_take (i := 15) (v := ?vt5_15) rfl (by decide +kernel) (fun _ _ _ h => h) (Or.inl ⟨by first | rfl | kernel_rfl, ?ht5_15⟩) (by assumption) ?rt5_15
        case ht5_15 =>
          intro wS hSw
          obtain ⟨h0, h1⟩ := hSw
          go_simp
          try with_reducible rfl
        try simp only [Act.put, List.getElem_toArray, List.getElem_cons_succ, List.getElem_cons_zero, List.setIfInBounds_toArray, List.set_cons_succ, List.set_cons_zero]
        refine wpAnyE_ready (rs := [16]) (by kernel_rfl) (by simp) ?_
        refine AllReadyE.cons (i := 16) rfl (by decide) (fun K hK => ?_) AllReadyE.nil
        go_simp
        refine (among_old 0 420 (w.heap.size + 1) _ sq 8 _ [10, 100, 110, 200, 350, 410, 0, 105] _ wl y4 CC.out (by omega) LH.out LE.out LP.out rfl rfl HQQ.out.1 HQQ.out.2 (by omega) BW.out).mono ?_
        rintro e y5 ⟨l, rfl, l0, l1, hc, hg⟩
        have QQ := Lib.hid (at_grown QQ.out hg (by omega) (by omega))
        have BX := Lib.hid (BX.out.grown hg (Nat.ne_of_gt hbp))
        have LL := Lib.hid (own_kept LL.out hg (fun g e => by cases e; rw [HZ.out]; omega))
        have LH := Lib.hid (grown_trans LH.out hg)
        have CC := Lib.hid hc
        clear hc hg
        go_simp
        refine hK.out _ _ ⟨BX.out.cell 3 _ rfl, BX.out.cell 4 _ rfl⟩ (fun hHeld => ?_)
        clear hK K
        try simp only [Act.put, List.getElem_toArray, List.getElem_cons_succ, List.getElem_cons_zero, List.setIfInBounds_toArray, List.set_cons_succ, List.set_cons_zero]
        refine wpAnyE_take (i := 17) (v := ?vt6_17) rfl (by decide +kernel) (fun _ _ _ h => h) (Or.inl ⟨by first | rfl | kernel_rfl, ?ht6_17⟩) (by assumption) ?rt6_17
        case ht6_17 =>
          intro wS hSw
          obtain ⟨h0, h1⟩ := hSw
          go_simp
          try with_reducible rfl
        try simp only [Act.put, List.getElem_toArray, List.getElem_cons_succ, List.getElem_cons_zero, List.setIfInBounds_toArray, List.set_cons_succ, List.set_cons_zero]
        have q0_ : y5.cell? ⟨w.heap.size, 0, none⟩ = some (.int .i64 0) := QQ.out.cell 0
        have qf0_ := QQ.out.frozen 0
        have q1_ : y5.cell? ⟨w.heap.size, 1, none⟩ = some (.int .i64 0) := QQ.out.cell 1
        have qf1_ := QQ.out.frozen 1
        have HE := Lib.hid ((QQ.out.set 0 (.int .i64 x)).set 1 (.int .i64 y))
        have HL := Lib.hid (own_setbox (own_setbox LL.out (b := w.heap.size) (by rw [HZ.out]; omega) 0 (.int .i64 x)) (b := w.heap.size) (by rw [HZ.out]; omega) 1 (.int .i64 y))
        have BX := Lib.hid ((BX.out.other (show b ≠ w.heap.size by omega) 0 (.int .i64 x)).other (show b ≠ w.heap.size by omega) 1 (.int .i64 y))
        refine wpAnyE_ready (rs := [18]) (by kernel_rfl) (by simp) ?_
        refine AllReadyE.cons (i := 18) rfl (by decide) (fun K hK => ?_) AllReadyE.nil
        go_simp
        generalize (y5.setCell ⟨w.heap.size, 0, none⟩ (.int .i64 x)).setCell ⟨w.heap.size, 1, none⟩ (.int .i64 y) = y6 at *
        refine hK.out _ _ ⟨BX.out.cell 3 _ rfl, BX.out.cell 4 _ rfl⟩ (fun hHeld => ?_)
        clear hK K
        try simp only [Act.put, List.getElem_toArray, List.getElem_cons_succ, List.getElem_cons_zero, List.setIfInBounds_toArray, List.set_cons_succ, List.set_cons_zero]
        refine wpAnyE_take (i := 19) (v := ?vt7_19) rfl (by decide +kernel) (fun _ _ _ h => h) (Or.inl ⟨by first | rfl | kernel_rfl, ?ht7_19⟩) (by assumption) ?rt7_19
        case ht7_19 =>
          intro wS hSw
          obtain ⟨h0, h1⟩ := hSw
          go_simp
          try with_reducible rfl
        try simp only [Act.put, List.getElem_toArray, List.getElem_cons_succ, List.getElem_cons_zero, List.setIfInBounds_toArray, List.set_cons_succ, List.set_cons_zero]
        refine wpAnyE_take (i := 20) (v := ?vt7_20) rfl (by decide +kernel) (fun _ _ _ h => h) (Or.inl ⟨by first | rfl | kernel_rfl, ?ht7_20⟩) (by assumption) ?rt7_20
        case ht7_20 =>
          intro wS hSw
          obtain ⟨h0, h1⟩ := hSw
          go_simp
          try with_reducible rfl
        try simp only [Act.put, List.getElem_toArray, List.getElem_cons_succ, List.getElem_cons_zero, List.setIfInBounds_toArray, List.set_cons_succ, List.set_cons_zero]
        refine wpAnyE_take (i := 21) (v := ?vt7_21) rfl (by decide +kernel) (fun _ _ _ h => h) (Or.inl ⟨by first | rfl | kernel_rfl, ?ht7_21⟩) (by assumption) ?rt7_21
        case ht7_21 =>
          intro wS hSw
          obtain ⟨h0, h1⟩ := hSw
          go_simp
          try with_reducible rfl
        try simp only [Act.put, List.getElem_toArray, List.getElem_cons_succ, List.getElem_cons_zero, List.setIfInBounds_toArray, List.set_cons_succ, List.set_cons_zero]
        refine wpAnyE_ready (rs := [22]) (by kernel_rfl) (by simp) ?_
        refine AllReadyE.last (i := 22) rfl rfl (fun K hK => ?_)
        go_simp
        refine hK.out _ _ ?_
        clear hK K
        try simp only [Act.put, List.getElem_toArray, List.getElem_cons_succ, List.getElem_cons_zero, List.setIfInBounds_toArray, List.set_cons_succ, List.set_cons_zero]
        refine wpAnyE_done (by kernel_rfl) ?_ _
        try simp only [List.getElem_toArray, List.getElem_cons_succ, List.getElem_cons_zero, List.setIfInBounds_toArray, List.set_cons_succ, List.set_cons_zero]
        go_wp2_with fail
        have hl := HE.out.load Try.underlying50 rfl (by kernel_rfl)
        refine bodyPost_ret (v := .tuple #[.slice A1 k c1, .agg #[.int .i64 x, .int .i64 y], .int .i64 a, .int .i64 x3, .int .i64 x4, .int .i64 l]) ?_ rfl ⟨_, k, zs, x, y, a, x3, x4, l, rfl, own_.own_base HL.out (by rw [HZ.out]; omega), hk, HE.out.1⟩
        rw [results_n6 rfl]
        simp [asAddr, Result.andThen, hl]
      · go_simp
        refine (pick (w.heap.size + 1) _ 24 y2 CC.out (by omega) (by omega) (by omega)).mono ?_
        rintro e y7 ⟨r, rfl, r0, r1, hc, hg⟩
        have QQ := Lib.hid (at_grown QQ.out hg (by omega) (by omega))
        have BX := Lib.hid (BX.out.grown hg (Nat.ne_of_gt hbp))
        have LL := Lib.hid (own_kept LL.out hg (fun g e => by cases e; rw [HZ.out]; omega))
        have CC := Lib.hid hc
        clear hc hg
        obtain ⟨rn, rfl⟩ := Int.eq_ofNat_of_zero_le r0
        obtain ⟨q, hq⟩ : ∃ q, q = rn / 11 := ⟨_, rfl⟩
        have q1 : (rn : Int).tdiv 11 = (q : Int) := by rw [hq]; rfl
        have e1 : IntKind.i64.wrap ((rn : Int).tdiv 11) = (q : Int) := by rw [q1, IntWalk.i64_in _ (by omega)]
        have e1b : IntKind.i64.wrap ((rn : Int) / 11) = (q : Int) := by rw [IntWalk.i64_in _ (by omega)]; omega
        obtain ⟨sq, hsq⟩ : ∃ sq : Nat, sq = 6 + q := ⟨_, rfl⟩
        have e2 : IntKind.i64.wrap (6 + (q : Int)) = (sq : Int) := by rw [IntWalk.i64_in _ (by omega)]; omega
        have hq7i : (sq : Int) ≤ 8 := by omega
        have hq0i : (0 : Int) ≤ (sq : Int) := Int.natCast_nonneg _
        have HQQ := Lib.hid (show 1 ≤ sq ∧ sq ≤ 8 by omega)
        clear hq q1 hsq
        go_simp
        refine hK.out _ _ ⟨BX.out.cell 3 _ rfl, BX.out.cell 4 _ rfl⟩ (fun hHeld => ?_)
        clear hK K
        try simp only [Act.put, List.getElem_toArray, List.getElem_cons_succ, List.getElem_cons_zero, List.setIfInBounds_toArray, List.set_cons_succ, List.set_cons_zero]
        refine wpAnyE_take (i := 13) (v := ?vt8_13) rfl (by decide +kernel) (fun _ _ _ h => h) (Or.inl ⟨by first | rfl | kernel_rfl, ?ht8_13⟩) (by assumption) ?rt8_13
        case ht8_13 =>
          intro wS hSw
          obtain ⟨h0, h1⟩ := hSw
          go_simp
          try with_reducible rfl
        try simp only [Act.put, List.getElem_toArray, List.getElem_cons_succ, List.getElem_cons_zero, List.setIfInBounds_toArray, List.set_cons_succ, List.set_cons_zero]
        refine wpAnyE_take (i := 14) (v := ?vt8_14) rfl (by decide +kernel) (fun _ _ _ h => h) (Or.inl ⟨by first | rfl | kernel_rfl, ?ht8_14⟩) (by assumption) ?rt8_14
        case ht8_14 =>
          intro wS hSw
          obtain ⟨h0, h1⟩ := hSw
          go_simp
          try with_reducible rfl
        try simp only [Act.put, List.getElem_toArray, List.getElem_cons_succ, List.getElem_cons_zero, List.setIfInBounds_toArray, List.set_cons_succ, List.set_cons_zero]
        refine wpAnyE_ready (rs := [10]) (by kernel_rfl) (by simp) ?_
        refine AllReadyE.cons (i := 10) rfl (by decide) (fun K hK => ?_) AllReadyE.nil
        go_simp
        have LPx := Lib.hid (show (w.heap.size + 1) < y7.heap.size from CC.out.lt)
        have QQ := Lib.hid (QQ.out.alloc (.cells #[.int .i64 10, .int .i64 100, .int .i64 110, .int .i64 200, .int .i64 350, .int .i64 410, .int .i64 0, .int .i64 105] 3))
        have BX := Lib.hid (BX.out.alloc (.cells #[.int .i64 10, .int .i64 100, .int .i64 110, .int .i64 200, .int .i64 350, .int .i64 410, .int .i64 0, .int .i64 105] 3))
        have CC := Lib.hid (Cur.alloc CC.out (.cells #[.int .i64 10, .int .i64 100, .int .i64 110, .int .i64 200, .int .i64 350, .int .i64 410, .int .i64 0, .int .i64 105] 3))
        have LL := Lib.hid (LL.out.alloc (.cells #[.int .i64 10, .int .i64 100, .int .i64 110, .int .i64 200, .int .i64 350, .int .i64 410, .int .i64 0, .int .i64 105] 3))
        obtain ⟨wl, hwl⟩ : ∃ wl, y7 = wl := ⟨_, rfl⟩
        have LH := Lib.hid (show (wl.alloc (.cells #[.int .i64 10, .int .i64 100, .int .i64 110, .int .i64 200, .int .i64 350, .int .i64 410, .int .i64 0, .int .i64 105] 3)).grownBy (y7.alloc (.cells #[.int .i64 10, .int .i64 100, .int .i64 110, .int .i64 200, .int .i64 350, .int .i64 410, .int .i64 0, .int .i64 105] 3)) (some (w.heap.size + 1)) from by rw [← hwl]; exact lst.grown_refl _ _)
        have LP := Lib.hid (show (w.heap.size + 1) < wl.heap.size by rw [← hwl]; exact LPx.out)
        have LE := Lib.hid (show wl.heap.size = y7.heap.size by rw [← hwl])
        clear hwl LPx
        generalize y7.alloc (.cells #[.int .i64 10, .int .i64 100, .int .i64 110, .int .i64 200, .int .i64 350, .int .i64 410, .int .i64 0, .int .i64 105] 3) = y8 at *
        generalize y7.heap.size = lb at *
        refine hK.out _ _ ⟨BX.out.cell 3 _ rfl, BX.out.cell 4 _ rfl⟩ (fun hHeld => ?_)
        clear hK K
        try simp only [Act.put, List.getElem_toArray, List.getElem_cons_succ, List.getElem_cons_zero, List.setIfInBounds_toArray, List.set_cons_succ, List.set_cons_zero]
        refine wpAnyE_take (i := 15) (v := ?vt9_15) rfl (by decide +kernel) (fun _ _ _ h => h) (Or.inl ⟨by first | rfl | kernel_rfl, ?ht9_15⟩) (by assumption) ?rt9_15
        case ht9_15 =>
          intro wS hSw
          obtain ⟨h0, h1⟩ := hSw
          go_simp
          try with_reducible rfl
        try simp only [Act.put, List.getElem_toArray, List.getElem_cons_succ, List.getElem_cons_zero, List.setIfInBounds_toArray, List.set_cons_succ, List.set_cons_zero]
        refine wpAnyE_ready (rs := [16]) (by kernel_rfl) (by simp) ?_
        refine AllReadyE.cons (i := 16) rfl (by decide) (fun K hK => ?_) AllReadyE.nil
        go_simp
        refine (among_old 0 420 (w.heap.size + 1) _ sq 8 _ [10, 100, 110, 200, 350, 410, 0, 105] _ wl y8 CC.out (by omega) LH.out LE.out LP.out rfl rfl HQQ.out.1 HQQ.out.2 (by omega) BW.out).mono ?_
        rintro e y9 ⟨l, rfl, l0, l1, hc, hg⟩
        have QQ := Lib.hid (at_grown QQ.out hg (by omega) (by omega))
        have BX := Lib.hid (BX.out.grown hg (Nat.ne_of_gt hbp))
        have LL := Lib.hid (own_kept LL.out hg (fun g e => by cases e; rw [HZ.out]; omega))
        have LH := Lib.hid (grown_trans LH.out hg)
        have CC := Lib.hid hc
        clear hc hg
        go_simp
        refine hK.out _ _ ⟨BX.out.cell 3 _ rfl, BX.out.cell 4 _ rfl⟩ (fun hHeld => ?_)
        clear hK K
        try simp only [Act.put, List.getElem_toArray, List.getElem_cons_succ, List.getElem_cons_zero, List.setIfInBounds_toArray, List.set_cons_succ, List.set_cons_zero]
        refine wpAnyE_take (i := 17) (v := ?vt10_17) rfl (by decide +kernel) (fun _ _ _ h => h) (Or.inl ⟨by first | rfl | kernel_rfl, ?ht10_17⟩) (by assumption) ?rt10_17
        case ht10_17 =>
          intro wS hSw
          obtain ⟨h0, h1⟩ := hSw
          go_simp
          try with_reducible rfl
        try simp only [Act.put, List.getElem_toArray, List.getElem_cons_succ, List.getElem_cons_zero, List.setIfInBounds_toArray, List.set_cons_succ, List.set_cons_zero]
        have q0_ : y9.cell? ⟨w.heap.size, 0, none⟩ = some (.int .i64 0) := QQ.out.cell 0
        have qf0_ := QQ.out.frozen 0
        have q1_ : y9.cell? ⟨w.heap.size, 1, none⟩ = some (.int .i64 0) := QQ.out.cell 1
        have qf1_ := QQ.out.frozen 1
        have HE := Lib.hid ((QQ.out.set 0 (.int .i64 x)).set 1 (.int .i64 y))
        have HL := Lib.hid (own_setbox (own_setbox LL.out (b := w.heap.size) (by rw [HZ.out]; omega) 0 (.int .i64 x)) (b := w.heap.size) (by rw [HZ.out]; omega) 1 (.int .i64 y))
        have BX := Lib.hid ((BX.out.other (show b ≠ w.heap.size by omega) 0 (.int .i64 x)).other (show b ≠ w.heap.size by omega) 1 (.int .i64 y))
        refine wpAnyE_ready (rs := [18]) (by kernel_rfl) (by simp) ?_
        refine AllReadyE.cons (i := 18) rfl (by decide) (fun K hK => ?_) AllReadyE.nil
        go_simp
        generalize (y9.setCell ⟨w.heap.size, 0, none⟩ (.int .i64 x)).setCell ⟨w.heap.size, 1, none⟩ (.int .i64 y) = y10 at *
        refine hK.out _ _ ⟨BX.out.cell 3 _ rfl, BX.out.cell 4 _ rfl⟩ (fun hHeld => ?_)
        clear hK K
        try simp only [Act.put, List.getElem_toArray, List.getElem_cons_succ, List.getElem_cons_zero, List.setIfInBounds_toArray, List.set_cons_succ, List.set_cons_zero]
        refine wpAnyE_take (i := 19) (v := ?vt11_19) rfl (by decide +kernel) (fun _ _ _ h => h) (Or.inl ⟨by first | rfl | kernel_rfl, ?ht11_19⟩) (by assumption) ?rt11_19
        case ht11_19 =>
          intro wS hSw
          obtain ⟨h0, h1⟩ := hSw
          go_simp
          try with_reducible rfl
        try simp only [Act.put, List.getElem_toArray, List.getElem_cons_succ, List.getElem_cons_zero, List.setIfInBounds_toArray, List.set_cons_succ, List.set_cons_zero]
        refine wpAnyE_take (i := 20) (v := ?vt11_20) rfl (by decide +kernel) (fun _ _ _ h => h) (Or.inl ⟨by first | rfl | kernel_rfl, ?ht11_20⟩) (by assumption) ?rt11_20
        case ht11_20 =>
          intro wS hSw
          obtain ⟨h0, h1⟩ := hSw
          go_simp
          try with_reducible rfl
        try simp only [Act.put, List.getElem_toArray, List.getElem_cons_succ, List.getElem_cons_zero, List.setIfInBounds_toArray, List.set_cons_succ, List.set_cons_zero]
        refine wpAnyE_take (i := 21) (v := ?vt11_21) rfl (by decide +kernel) (fun _ _ _ h => h) (Or.inl ⟨by first | rfl | kernel_rfl, ?ht11_21⟩) (by assumption) ?rt11_21
        case ht11_21 =>
          intro wS hSw
          obtain ⟨h0, h1⟩ := hSw
          go_simp
          try with_reducible rfl
        try simp only [Act.put, List.getElem_toArray, List.getElem_cons_succ, List.getElem_cons_zero, List.setIfInBounds_toArray, List.set_cons_succ, List.set_cons_zero]
        refine wpAnyE_ready (rs := [22]) (by kernel_rfl) (by simp) ?_
        refine AllReadyE.last (i := 22) rfl rfl (fun K hK => ?_)
        go_simp
        refine hK.out _ _ ?_
        clear hK K
        try simp only [Act.put, List.getElem_toArray, List.getElem_cons_succ, List.getElem_cons_zero, List.setIfInBounds_toArray, List.set_cons_succ, List.set_cons_zero]
        refine wpAnyE_done (by kernel_rfl) ?_ _
        try simp only [List.getElem_toArray, List.getElem_cons_succ, List.getElem_cons_zero, List.setIfInBounds_toArray, List.set_cons_succ, List.set_cons_zero]
        go_wp2_with fail
        have hl := HE.out.load Try.underlying50 rfl (by kernel_rfl)
        refine bodyPost_ret (v := .tuple #[.slice A1 k c1, .agg #[.int .i64 x, .int .i64 y], .int .i64 a, .int .i64 x3, .int .i64 x4, .int .i64 l]) ?_ rfl ⟨_, k, zs, x, y, a, x3, x4, l, rfl, own_.own_base HL.out (by rw [HZ.out]; omega), hk, HE.out.1⟩
        rw [results_n6 rfl]
        simp [asAddr, Result.andThen, hl]
    · go_simp
      have LPx := Lib.hid (show (w.heap.size + 1) < y1.heap.size from CC.out.lt)
      have QQ := Lib.hid (QQ.out.alloc (.cells #[.int .i64 10, .int .i64 100, .int .i64 110, .int .i64 200, .int .i64 350, .int .i64 410, .int .i64 0, .int .i64 105] 3))
      have BX := Lib.hid (BX.out.alloc (.cells #[.int .i64 10, .int .i64 100, .int .i64 110, .int .i64 200, .int .i64 350, .int .i64 410, .int .i64 0, .int .i64 105] 3))
      have CC := Lib.hid (Cur.alloc CC.out (.cells #[.int .i64 10, .int .i64 100, .int .i64 110, .int .i64 200, .int .i64 350, .int .i64 410, .int .i64 0, .int .i64 105] 3))
      have LL := Lib.hid (LL.out.alloc (.cells #[.int .i64 10, .int .i64 100, .int .i64 110, .int .i64 200, .int .i64 350, .int .i64 410, .int .i64 0, .int .i64 105] 3))
      obtain ⟨wl, hwl⟩ : ∃ wl, y1 = wl := ⟨_, rfl⟩
      have LH := Lib.hid (show (wl.alloc (.cells #[.int .i64 10, .int .i64 100, .int .i64 110, .int .i64 200, .int .i64 350, .int .i64 410, .int .i64 0, .int .i64 105] 3)).grownBy (y1.alloc (.cells #[.int .i64 10, .int .i64 100, .int .i64 110, .int .i64 200, .int .i64 350, .int .i64 410, .int .i64 0, .int .i64 105] 3)) (some (w.heap.size + 1)) from by rw [← hwl]; exact lst.grown_refl _ _)
      have LP := Lib.hid (show (w.heap.size + 1) < wl.heap.size by rw [← hwl]; exact LPx.out)
      have LE := Lib.hid (show wl.heap.size = y1.heap.size by rw [← hwl])
      clear hwl LPx
      generalize y1.alloc (.cells #[.int .i64 10, .int .i64 100, .int .i64 110, .int .i64 200, .int .i64 350, .int .i64 410, .int .i64 0, .int .i64 105] 3) = y11 at *
      generalize y1.heap.size = lb at *
      refine hK.out _ _ ⟨BX.out.cell 3 _ rfl, BX.out.cell 4 _ rfl⟩ (fun hHeld => ?_)
      clear hK K
      try simp only [Act.put, List.getElem_toArray, List.getElem_cons_succ, List.getElem_cons_zero, List.setIfInBounds_toArray, List.set_cons_succ, List.set_cons_zero]
      refine wpAnyE_ready (rs := [4]) (by kernel_rfl) (by simp) ?_
      refine AllReadyE.cons (i := 4) rfl (by decide) (fun K hK => ?_) AllReadyE.nil
      go_simp
      refine (address18 _ _ y11 CC.out (by omega)).mono ?_
      rintro e y12 ⟨a, rfl, hc, hg⟩
      have QQ := Lib.hid (at_grown QQ.out hg (by omega) (by omega))
      have BX := Lib.hid (BX.out.grown hg (Nat.ne_of_gt hbp))
      have LL := Lib.hid (own_kept LL.out hg (fun g e => by cases e; rw [HZ.out]; omega))
      have LH := Lib.hid (grown_trans LH.out hg)
      have CC := Lib.hid hc
      clear hc hg
      go_simp
      refine hK.out _ _ ⟨BX.out.cell 3 _ rfl, BX.out.cell 4 _ rfl⟩ (fun hHeld => ?_)
      clear hK K
      try simp only [Act.put, List.getElem_toArray, List.getElem_cons_succ, List.getElem_cons_zero, List.setIfInBounds_toArray, List.set_cons_succ, List.set_cons_zero]
      refine wpAnyE_ready (rs := [12]) (by kernel_rfl) (by simp) ?_
      refine AllReadyE.cons (i := 12) rfl (by decide) (fun K hK => ?_) AllReadyE.nil
      go_simp
      refine (pick (w.heap.size + 1) _ 24 y12 CC.out (by omega) (by omega) (by omega)).mono ?_
      rintro e y13 ⟨r, rfl, r0, r1, hc, hg⟩
      have QQ := Lib.hid (at_grown QQ.out hg (by omega) (by omega))
      have BX := Lib.hid (BX.out.grown hg (Nat.ne_of_gt hbp))
      have LL := Lib.hid (own_kept LL.out hg (fun g e => by cases e; rw [HZ.out]; omega))
      have LH := Lib.hid (grown_trans LH.out hg)
      have CC := Lib.hid hc
      clear hc hg
      obtain ⟨rn, rfl⟩ := Int.eq_ofNat_of_zero_le r0
      obtain ⟨q, hq⟩ : ∃ q, q = rn / 11 := ⟨_, rfl⟩
      have q1 : (rn : Int).tdiv 11 = (q : Int) := by rw [hq]; rfl
      have e1 : IntKind.i64.wrap ((rn : Int).tdiv 11) = (q : Int) := by rw [q1, IntWalk.i64_in _ (by omega)]
      have e1b : IntKind.i64.wrap ((rn : Int) / 11) = (q : Int) := by rw [IntWalk.i64_in _ (by omega)]; omega
      obtain ⟨sq, hsq⟩ : ∃ sq : Nat, sq = 6 + q := ⟨_, rfl⟩
      have e2 : IntKind.i64.wrap (6 + (q : Int)) = (sq : Int) := by rw [IntWalk.i64_in _ (by omega)]; omega
      have hq7i : (sq : Int) ≤ 8 := by omega
      have hq0i : (0 : Int) ≤ (sq : Int) := Int.natCast_nonneg _
      have HQQ := Lib.hid (show 1 ≤ sq ∧ sq ≤ 8 by omega)
      clear hq q1 hsq
      go_simp
      refine hK.out _ _ ⟨BX.out.cell 3 _ rfl, BX.out.cell 4 _ rfl⟩ (fun hHeld => ?_)
      clear hK K
      try simp only [Act.put, List.getElem_toArray, List.getElem_cons_succ, List.getElem_cons_zero, List.setIfInBounds_toArray, List.set_cons_succ, List.set_cons_zero]
      refine wpAnyE_take (i := 13) (v := ?vt12_13) rfl (by decide +kernel) (fun _ _ _ h => h) (Or.inl ⟨by first | rfl | kernel_rfl, ?ht12_13⟩) (by assumption) ?rt12_13
      case ht12_13 =>
        intro wS hSw
        obtain ⟨h0, h1⟩ := hSw
        go_simp
        try with_reducible rfl
      try simp only [Act.put, List.getElem_toArray, List.getElem_cons_succ, List.getElem_cons_zero, List.setIfInBounds_toArray, List.set_cons_succ, List.set_cons_zero]
      refine wpAnyE_take (i := 14) (v := ?vt12_14) rfl (by decide +kernel) (fun _ _ _ h => h) (Or.inl ⟨by first | rfl | kernel_rfl, ?ht12_14⟩) (by assumption) ?rt12_14
      case ht12_14 =>
        intro wS hSw
        obtain ⟨h0, h1⟩ := hSw
        go_simp
        try with_reducible rfl
      try simp only [Act.put, List.getElem_toArray, List.getElem_cons_succ, List.getElem_cons_zero, List.setIfInBounds_toArray, List.set_cons_succ, List.set_cons_zero]
      refine wpAnyE_take (i := 15) (v := ?vt13_15) rfl (by decide +kernel) (fun _ _ _ h => h) (Or.inl ⟨by first | rfl | kernel_rfl, ?ht13_15⟩) (by assumption) ?rt13_15
      case ht13_15 =>
        intro wS hSw
        obtain ⟨h0, h1⟩ := hSw
        go_simp
        try with_reducible rfl
      try simp only [Act.put, List.getElem_toArray, List.getElem_cons_succ, List.getElem_cons_zero, List.setIfInBounds_toArray, List.set_cons_succ, List.set_cons_zero]
      refine wpAnyE_ready (rs := [16]) (by kernel_rfl) (by simp) ?_
      refine AllReadyE.cons (i := 16) rfl (by decide) (fun K hK => ?_) AllReadyE.nil
      go_simp
      refine (among_old 0 420 (w.heap.size + 1) _ sq 8 _ [10, 100, 110, 200, 350, 410, 0, 105] _ wl y13 CC.out (by omega) LH.out LE.out LP.out rfl rfl HQQ.out.1 HQQ.out.2 (by omega) BW.out).mono ?_
      rintro e y14 ⟨l, rfl, l0, l1, hc, hg⟩
      have QQ := Lib.hid (at_grown QQ.out hg (by omega) (by omega))
      have BX := Lib.hid (BX.out.grown hg (Nat.ne_of_gt hbp))
      have LL := Lib.hid (own_kept LL.out hg (fun g e => by cases e; rw [HZ.out]; omega))
      have LH := Lib.hid (grown_trans LH.out hg)
      have CC := Lib.hid hc
      clear hc hg
      go_simp
      refine hK.out _ _ ⟨BX.out.cell 3 _ rfl, BX.out.cell 4 _ rfl⟩ (fun hHeld => ?_)
      clear hK K
      try simp only [Act.put, List.getElem_toArray, List.getElem_cons_succ, List.getElem_cons_zero, List.setIfInBounds_toArray, List.set_cons_succ, List.set_cons_zero]
      refine wpAnyE_take (i := 17) (v := ?vt14_17) rfl (by decide +kernel) (fun _ _ _ h => h) (Or.inl ⟨by first | rfl | kernel_rfl, ?ht14_17⟩) (by assumption) ?rt14_17
      case ht14_17 =>
        intro wS hSw
        obtain ⟨h0, h1⟩ := hSw
        go_simp
        try with_reducible rfl
      try simp only [Act.put, List.getElem_toArray, List.getElem_cons_succ, List.getElem_cons_zero, List.setIfInBounds_toArray, List.set_cons_succ, List.set_cons_zero]
      have q0_ : y14.cell? ⟨w.heap.size, 0, none⟩ = some (.int .i64 0) := QQ.out.cell 0
      have qf0_ := QQ.out.frozen 0
      have q1_ : y14.cell? ⟨w.heap.size, 1, none⟩ = some (.int .i64 0) := QQ.out.cell 1
      have qf1_ := QQ.out.frozen 1
      have HE := Lib.hid ((QQ.out.set 0 (.int .i64 x)).set 1 (.int .i64 y))
      have HL := Lib.hid (own_setbox (own_setbox LL.out (b := w.heap.size) (by rw [HZ.out]; omega) 0 (.int .i64 x)) (b := w.heap.size) (by rw [HZ.out]; omega) 1 (.int .i64 y))
      have BX := Lib.hid ((BX.out.other (show b ≠ w.heap.size by omega) 0 (.int .i64 x)).other (show b ≠ w.heap.size by omega) 1 (.int .i64 y))
      refine wpAnyE_ready (rs := [18]) (by kernel_rfl) (by simp) ?_
      refine AllReadyE.cons (i := 18) rfl (by decide) (fun K hK => ?_) AllReadyE.nil
      go_simp
      generalize (y14.setCell ⟨w.heap.size, 0, none⟩ (.int .i64 x)).setCell ⟨w.heap.size, 1, none⟩ (.int .i64 y) = y15 at *
      refine hK.out _ _ ⟨BX.out.cell 3 _ rfl, BX.out.cell 4 _ rfl⟩ (fun hHeld => ?_)
      clear hK K
      try simp only [Act.put, List.getElem_toArray, List.getElem_cons_succ, List.getElem_cons_zero, List.setIfInBounds_toArray, List.set_cons_succ, List.set_cons_zero]
      refine wpAnyE_take (i := 19) (v := ?vt15_19) rfl (by decide +kernel) (fun _ _ _ h => h) (Or.inl ⟨by first | rfl | kernel_rfl, ?ht15_19⟩) (by assumption) ?rt15_19
      case ht15_19 =>
        intro wS hSw
        obtain ⟨h0, h1⟩ := hSw
        go_simp
        try with_reducible rfl
      try simp only [Act.put, List.getElem_toArray, List.getElem_cons_succ, List.getElem_cons_zero, List.setIfInBounds_toArray, List.set_cons_succ, List.set_cons_zero]
      refine wpAnyE_take (i := 20) (v := ?vt15_20) rfl (by decide +kernel) (fun _ _ _ h => h) (Or.inl ⟨by first | rfl | kernel_rfl, ?ht15_20⟩) (by assumption) ?rt15_20
      case ht15_20 =>
        intro wS hSw
        obtain ⟨h0, h1⟩ := hSw
        go_simp
        try with_reducible rfl
      try simp only [Act.put, List.getElem_toArray, List.getElem_cons_succ, List.getElem_cons_zero, List.setIfInBounds_toArray, List.set_cons_succ, List.set_cons_zero]
      refine wpAnyE_take (i := 21) (v := ?vt15_21) rfl (by decide +kernel) (fun _ _ _ h => h) (Or.inl ⟨by first | rfl | kernel_rfl, ?ht15_21⟩) (by assumption) ?rt15_21
      case ht15_21 =>
        intro wS hSw
        obtain ⟨h0, h1⟩ := hSw
        go_simp
        try with_reducible rfl
      try simp only [Act.put, List.getElem_toArray, List.getElem_cons_succ, List.getElem_cons_zero, List.setIfInBounds_toArray, List.set_cons_succ, List.set_cons_zero]
      refine wpAnyE_ready (rs := [22]) (by kernel_rfl) (by simp) ?_
      refine AllReadyE.last (i := 22) rfl rfl (fun K hK => ?_)
      go_simp
      refine hK.out _ _ ?_
      clear hK K
      try simp only [Act.put, List.getElem_toArray, List.getElem_cons_succ, List.getElem_cons_zero, List.setIfInBounds_toArray, List.set_cons_succ, List.set_cons_zero]
      refine wpAnyE_done (by kernel_rfl) ?_ _
      try simp only [List.getElem_toArray, List.getElem_cons_succ, List.getElem_cons_zero, List.setIfInBounds_toArray, List.set_cons_succ, List.set_cons_zero]
      go_wp2_with fail
      have hl := HE.out.load Try.underlying50 rfl (by kernel_rfl)
      refine bodyPost_ret (v := .tuple #[.slice A1 k c1, .agg #[.int .i64 x, .int .i64 y], .int .i64 a, .int .i64 x3, .int .i64 x4, .int .i64 l]) ?_ rfl ⟨_, k, zs, x, y, a, x3, x4, l, rfl, own_.own_base HL.out (by rw [HZ.out]; omega), hk, HE.out.1⟩
      rw [results_n6 rfl]
      simp [asAddr, Result.andThen, hl]
  · go_simp
    have LPx := Lib.hid (show (w.heap.size + 1) < F0.heap.size from CC.out.lt)
    have QQ := Lib.hid (QQ.out.alloc (.cells #[.int .i64 10, .int .i64 100, .int .i64 110, .int .i64 200, .int .i64 350, .int .i64 410, .int .i64 0, .int .i64 105] 3))
    have BX := Lib.hid (BX.out.alloc (.cells #[.int .i64 10, .int .i64 100, .int .i64 110, .int .i64 200, .int .i64 350, .int .i64 410, .int .i64 0, .int .i64 105] 3))
    have CC := Lib.hid (Cur.alloc CC.out (.cells #[.int .i64 10, .int .i64 100, .int .i64 110, .int .i64 200, .int .i64 350, .int .i64 410, .int .i64 0, .int .i64 105] 3))
    have LL := Lib.hid (LL.out.alloc (.cells #[.int .i64 10, .int .i64 100, .int .i64 110, .int .i64 200, .int .i64 350, .int .i64 410, .int .i64 0, .int .i64 105] 3))
    obtain ⟨wl, hwl⟩ : ∃ wl, F0 = wl := ⟨_, rfl⟩
    have LH := Lib.hid (show (wl.alloc (.cells #[.int .i64 10, .int .i64 100, .int .i64 110, .int .i64 200, .int .i64 350, .int .i64 410, .int .i64 0, .int .i64 105] 3)).grownBy (F0.alloc (.cells #[.int .i64 10, .int .i64 100, .int .i64 110, .int .i64 200, .int .i64 350, .int .i64 410, .int .i64 0, .int .i64 105] 3)) (some (w.heap.size + 1)) from by rw [← hwl]; exact lst.grown_refl _ _)
    have LP := Lib.hid (show (w.heap.size + 1) < wl.heap.size by rw [← hwl]; exact LPx.out)
    have LE := Lib.hid (show wl.heap.size = F0.heap.size by rw [← hwl])
    clear hwl LPx
    generalize F0.alloc (.cells #[.int .i64 10, .int .i64 100, .int .i64 110, .int .i64 200, .int .i64 350, .int .i64 410, .int .i64 0, .int .i64 105] 3) = y16 at *
    generalize F0.heap.size = lb at *
    refine hK.out _ _ ⟨BX.out.cell 3 _ rfl, BX.out.cell 4 _ rfl⟩ (fun hHeld => ?_)
    clear hK K
    try simp only [Act.put, List.getElem_toArray, List.getElem_cons_succ, List.getElem_cons_zero, List.setIfInBounds_toArray, List.set_cons_succ, List.set_cons_zero]
    refine wpAnyE_ready (rs := [2]) (by kernel_rfl) (by simp) ?_
    refine AllReadyE.cons (i := 2) rfl (by decide) (fun K hK => ?_) AllReadyE.nil
    go_simp
    refine (drawv8.velocity _ _ y16 CC.out (by omega)).mono ?_
    rintro e y17 ⟨x, y, rfl, xb, hc, hg⟩
    have QQ := Lib.hid (at_grown QQ.out hg (by omega) (by omega))
    have BX := Lib.hid (BX.out.grown hg (Nat.ne_of_gt hbp))
    have LL := Lib.hid (own_kept LL.out hg (fun g e => by cases e; rw [HZ.out]; omega))
    have LH := Lib.hid (grown_trans LH.out hg)
    have CC := Lib.hid hc
    clear hc hg
    go_simp
    refine hK.out _ _ ⟨BX.out.cell 3 _ rfl, BX.out.cell 4 _ rfl⟩ (fun hHeld => ?_)
    clear hK K
    try simp only [Act.put, List.getElem_toArray, List.getElem_cons_succ, List.getElem_cons_zero, List.setIfInBounds_toArray, List.set_cons_succ, List.set_cons_zero]
    refine wpAnyE_ready (rs := [4]) (by kernel_rfl) (by simp) ?_
    refine AllReadyE.cons (i := 4) rfl (by decide) (fun K hK => ?_) AllReadyE.nil
    go_simp
    refine (address18 _ _ y17 CC.out (by omega)).mono ?_
    rintro e y18 ⟨a, rfl, hc, hg⟩
    have QQ := Lib.hid (at_grown QQ.out hg (by omega) (by omega))
    have BX := Lib.hid (BX.out.grown hg (Nat.ne_of_gt hbp))
    have LL := Lib.hid (own_kept LL.out hg (fun g e => by cases e; rw [HZ.out]; omega))
    have LH := Lib.hid (grown_trans LH.out hg)
    have CC := Lib.hid hc
    clear hc hg
    go_simp
    refine hK.out _ _ ⟨BX.out.cell 3 _ rfl, BX.out.cell 4 _ rfl⟩ (fun hHeld => ?_)
    clear hK K
    try simp only [Act.put, List.getElem_toArray, List.getElem_cons_succ, List.getElem_cons_zero, List.setIfInBounds_toArray, List.set_cons_succ, List.set_cons_zero]
    refine wpAnyE_ready (rs := [12]) (by kernel_rfl) (by simp) ?_
    refine AllReadyE.cons (i := 12) rfl (by decide) (fun K hK => ?_) AllReadyE.nil
    go_simp
    refine (pick (w.heap.size + 1) _ 24 y18 CC.out (by omega) (by omega) (by omega)).mono ?_
    rintro e y19 ⟨r, rfl, r0, r1, hc, hg⟩
    have QQ := Lib.hid (at_grown QQ.out hg (by omega) (by omega))
    have BX := Lib.hid (BX.out.grown hg (Nat.ne_of_gt hbp))
    have LL := Lib.hid (own_kept LL.out hg (fun g e => by cases e; rw [HZ.out]; omega))
    have LH := Lib.hid (grown_trans LH.out hg)
    have CC := Lib.hid hc
    clear hc hg
    obtain ⟨rn, rfl⟩ := Int.eq_ofNat_of_zero_le r0
    obtain ⟨q, hq⟩ : ∃ q, q = rn / 11 := ⟨_, rfl⟩
    have q1 : (rn : Int).tdiv 11 = (q : Int) := by rw [hq]; rfl
    have e1 : IntKind.i64.wrap ((rn : Int).tdiv 11) = (q : Int) := by rw [q1, IntWalk.i64_in _ (by omega)]
    have e1b : IntKind.i64.wrap ((rn : Int) / 11) = (q : Int) := by rw [IntWalk.i64_in _ (by omega)]; omega
    obtain ⟨sq, hsq⟩ : ∃ sq : Nat, sq = 6 + q := ⟨_, rfl⟩
    have e2 : IntKind.i64.wrap (6 + (q : Int)) = (sq : Int) := by rw [IntWalk.i64_in _ (by omega)]; omega
    have hq7i : (sq : Int) ≤ 8 := by omega
    have hq0i : (0 : Int) ≤ (sq : Int) := Int.natCast_nonneg _
    have HQQ := Lib.hid (show 1 ≤ sq ∧ sq ≤ 8 by omega)
    clear hq q1 hsq
    go_simp
    refine hK.out _ _ ⟨BX.out.cell 3 _ rfl, BX.out.cell 4 _ rfl⟩ (fun hHeld => ?_)
    clear hK K
    try simp only [Act.put, List.getElem_toArray, List.getElem_cons_succ, List.getElem_cons_zero, List.setIfInBounds_toArray, List.set_cons_succ, List.set_cons_zero]
    refine wpAnyE_take (i := 13) (v := ?vt16_13) rfl (by decide +kernel) (fun _ _ _ h => h) (Or.inl ⟨by first | rfl | kernel_rfl, ?ht16_13⟩) (by assumption) ?rt16_13
    case ht16_13 =>
      intro wS hSw
      obtain ⟨h0, h1⟩ := hSw
      go_simp
      try with_reducible rfl
    try simp only [Act.put, List.getElem_toArray, List.getElem_cons_succ, List.getElem_cons_zero, List.setIfInBounds_toArray, List.set_cons_succ, List.set_cons_zero]
    refine wpAnyE_take (i := 14) (v := ?vt16_14) rfl (by decide +kernel) (fun _ _ _ h => h) (Or.inl ⟨by first | rfl | kernel_rfl, ?ht16_14⟩) (by assumption) ?rt16_14
    case ht16_14 =>
      intro wS hSw
      obtain ⟨h0, h1⟩ := hSw
      go_simp
      try with_reducible rfl
    try simp only [Act.put, List.getElem_toArray, List.getElem_cons_succ, List.getElem_cons_zero, List.setIfInBounds_toArray, List.set_cons_succ, List.set_cons_zero]
    refine wpAnyE_take (i := 15) (v := ?vt17_15) rfl (by decide +kernel) (fun _ _ _ h => h) (Or.inl ⟨by first | rfl | kernel_rfl, ?ht17_15⟩) (by assumption) ?rt17_15
    case ht17_15 =>
      intro wS hSw
      obtain ⟨h0, h1⟩ := hSw
      go_simp
      try with_reducible rfl
    try simp only [Act.put, List.getElem_toArray, List.getElem_cons_succ, List.getElem_cons_zero, List.setIfInBounds_toArray, List.set_cons_succ, List.set_cons_zero]
    refine wpAnyE_ready (rs := [16]) (by kernel_rfl) (by simp) ?_
    refine AllReadyE.cons (i := 16) rfl (by decide) (fun K hK => ?_) AllReadyE.nil
    go_simp
    refine (among_old 0 420 (w.heap.size + 1) _ sq 8 _ [10, 100, 110, 200, 350, 410, 0, 105] _ wl y19 CC.out (by omega) LH.out LE.out LP.out rfl rfl HQQ.out.1 HQQ.out.2 (by omega) BW.out).mono ?_
    rintro e y20 ⟨l, rfl, l0, l1, hc, hg⟩
    have QQ := Lib.hid (at_grown QQ.out hg (by omega) (by omega))
    have BX := Lib.hid (BX.out.grown hg (Nat.ne_of_gt hbp))
    have LL := Lib.hid (own_kept LL.out hg (fun g e => by cases e; rw [HZ.out]; omega))
    have LH := Lib.hid (grown_trans LH.out hg)
    have CC := Lib.hid hc
    clear hc hg
    go_simp
    refine hK.out _ _ ⟨BX.out.cell 3 _ rfl, BX.out.cell 4 _ rfl⟩ (fun hHeld => ?_)
    clear hK K
    try simp only [Act.put, List.getElem_toArray, List.getElem_cons_succ, List.getElem_cons_zero, List.setIfInBounds_toArray, List.set_cons_succ, List.set_cons_zero]
    refine wpAnyE_take (i := 17) (v := ?vt18_17) rfl (by decide +kernel) (fun _ _ _ h => h) (Or.inl ⟨by first | rfl | kernel_rfl, ?ht18_17⟩) (by assumption) ?rt18_17
    case ht18_17 =>
      intro wS hSw
      obtain ⟨h0, h1⟩ := hSw
      go_simp
      try with_reducible rfl
    try simp only [Act.put, List.getElem_toArray, List.getElem_cons_succ, List.getElem_cons_zero, List.setIfInBounds_toArray, List.set_cons_succ, List.set_cons_zero]
    have q0_ : y20.cell? ⟨w.heap.size, 0, none⟩ = some (.int .i64 0) := QQ.out.cell 0
    have qf0_ := QQ.out.frozen 0
    have q1_ : y20.cell? ⟨w.heap.size, 1, none⟩ = some (.int .i64 0) := QQ.out.cell 1
    have qf1_ := QQ.out.frozen 1
    have HE := Lib.hid ((QQ.out.set 0 (.int .i64 x)).set 1 (.int .i64 y))
    have HL := Lib.hid (own_setbox (own_setbox LL.out (b := w.heap.size) (by rw [HZ.out]; omega) 0 (.int .i64 x)) (b := w.heap.size) (by rw [HZ.out]; omega) 1 (.int .i64 y))
    have BX := Lib.hid ((BX.out.other (show b ≠ w.heap.size by omega) 0 (.int .i64 x)).other (show b ≠ w.heap.size by omega) 1 (.int .i64 y))
    refine wpAnyE_ready (rs := [18]) (by kernel_rfl) (by simp) ?_
    refine AllReadyE.cons (i := 18) rfl (by decide) (fun K hK => ?_) AllReadyE.nil
    go_simp
    generalize (y20.setCell ⟨w.heap.size, 0, none⟩ (.int .i64 x)).setCell ⟨w.heap.size, 1, none⟩ (.int .i64 y) = y21 at *
    refine hK.out _ _ ⟨BX.out.cell 3 _ rfl, BX.out.cell 4 _ rfl⟩ (fun hHeld => ?_)
    clear hK K
    try simp only [Act.put, List.getElem_toArray, List.getElem_cons_succ, List.getElem_cons_zero, List.setIfInBounds_toArray, List.set_cons_succ, List.set_cons_zero]
    refine wpAnyE_take (i := 19) (v := ?vt19_19) rfl (by decide +kernel) (fun _ _ _ h => h) (Or.inl ⟨by first | rfl | kernel_rfl, ?ht19_19⟩) (by assumption) ?rt19_19
    case ht19_19 =>
      intro wS hSw
      obtain ⟨h0, h1⟩ := hSw
      go_simp
      try with_reducible rfl
    try simp only [Act.put, List.getElem_toArray, List.getElem_cons_succ, List.getElem_cons_zero, List.setIfInBounds_toArray, List.set_cons_succ, List.set_cons_zero]
    refine wpAnyE_take (i := 20) (v := ?vt19_20) rfl (by decide +kernel) (fun _ _ _ h => h) (Or.inl ⟨by first | rfl | kernel_rfl, ?ht19_20⟩) (by assumption) ?rt19_20
    case ht19_20 =>
      intro wS hSw
      obtain ⟨h0, h1⟩ := hSw
      go_simp
      try with_reducible rfl
    try simp only [Act.put, List.getElem_toArray, List.getElem_cons_succ, List.getElem_cons_zero, List.setIfInBounds_toArray, List.set_cons_succ, List.set_cons_zero]
    refine wpAnyE_take (i := 21) (v := ?vt19_21) rfl (by decide +kernel) (fun _ _ _ h => h) (Or.inl ⟨by first | rfl | kernel_rfl, ?ht19_21⟩) (by assumption) ?rt19_21
    case ht19_21 =>
      intro wS hSw
      obtain ⟨h0, h1⟩ := hSw
      go_simp
      try with_reducible rfl
    try simp only [Act.put, List.getElem_toArray, List.getElem_cons_succ, List.getElem_cons_zero, List.setIfInBounds_toArray, List.set_cons_succ, List.set_cons_zero]
    refine wpAnyE_ready (rs := [22]) (by kernel_rfl) (by simp) ?_
    refine AllReadyE.last (i := 22) rfl rfl (fun K hK => ?_)
    go_simp
    refine hK.out _ _ ?_
    clear hK K
    try simp only [Act.put, List.getElem_toArray, List.getElem_cons_succ, List.getElem_cons_zero, List.setIfInBounds_toArray, List.set_cons_succ, List.set_cons_zero]
    refine wpAnyE_done (by kernel_rfl) ?_ _
    try simp only [List.getElem_toArray, List.getElem_cons_succ, List.getElem_cons_zero, List.setIfInBounds_toArray, List.set_cons_succ, List.set_cons_zero]
    go_wp2_with fail
    have hl := HE.out.load Try.underlying50 rfl (by kernel_rfl)
    refine bodyPost_ret (v := .tuple #[.slice A1 k c1, .agg #[.int .i64 x, .int .i64 y], .int .i64 a, .int .i64 x3, .int .i64 x4, .int .i64 l]) ?_ rfl ⟨_, k, zs, x, y, a, x3, x4, l, rfl, own_.own_base HL.out (by rw [HZ.out]; omega), hk, HE.out.1⟩
    rw [results_n6 rfl]
    simp [asAddr, Result.andThen, hl]
set_option maxRecDepth 100000 in
set_option maxHeartbeats 8000000 in
theorem isRightLevel (A : Option Addr) (n c0 : Nat) (w : World) (hn : n ≤ 65536) (h : Bytes w w.heap.size A n) :
    Calls Try.prog 39 #[.slice A n c0] w (RightQ w) := by
  have Q0 := Lib.hid ((newS 50 #[.int .i64 0, .int .i64 0] w).alloc (.cells #[.slice A n c0, .int .i64 0, .int .u64 0] 79))
  have hc := new_cur c0 (by omega) (bytes_al (.cells #[.int .i64 0, .int .i64 0] 50) h)
  have HZ := Lib.hid (show ((w.alloc (.cells #[.int .i64 0, .int .i64 0] 50)).alloc (.cells #[.slice A n c0, .int .i64 0, .int .u64 0] 79)).heap.size = w.heap.size + 1 + 1 from by rw [World.size_alloc, World.size_alloc])
  rw [World.size_alloc] at hc
  have HC0 := Lib.hid hc
  clear h hc
  go_enter Try.func39, Try.ntmps39
  go_wp2_with fail
  generalize (w.alloc (.cells #[.int .i64 0, .int .i64 0] 50)).alloc (.cells #[.slice A n c0, .int .i64 0, .int .u64 0] 79) = W0 at *
  refine (drawv8.velocity _ 0 W0 HC0.out (by omega)).mono ?_
  rintro e w1 ⟨x, y, rfl, xb, hc, hg⟩
  have Q1 := Lib.hid (at_grown Q0.out hg (by omega) (by omega))
  have C1 := Lib.hid hc
  clear hc hg Q0 HC0
  have hbp : (w.heap.size + 1) < w1.heap.size := C1.out.lt
  have BX := Lib.hid (Blk.new 50 #[.int .i64 x, .int .i64 y] w1)
  have CC := Lib.hid (Cur.alloc C1.out (.cells #[.int .i64 x, .int .i64 y] 50))
  have QQ := Lib.hid (Q1.out.alloc (.cells #[.int .i64 x, .int .i64 y] 50))
  have BW := Lib.hid bw_r
  clear C1 Q1
  go_upto_region 3 with fail
  generalize w1.alloc (.cells #[.int .i64 x, .int .i64 y] 50) = W3 at *
  generalize w1.heap.size = b at *
  have CC := Lib.hid (CC.out.keep (Below.refl _ _).drew)
  have QQ := Lib.hid QQ.out.drew
  have BX := Lib.hid BX.out.drew
  refine wp_region_tail (S := fun w' => World.cell? w' ⟨b, 0, none⟩ = some (.int .i64 x) ∧ World.cell? w' ⟨b, 1, none⟩ = some (.int .i64 y)) 10 (by kernel_rfl) ⟨BX.out.cell 0 _ rfl, BX.out.cell 1 _ rfl⟩ (fun hHeld => ?_)
  generalize W3.drew = F0 at *
  try simp only [Act.put, List.getElem_toArray, List.getElem_cons_succ, List.getElem_cons_zero, List.setIfInBounds_toArray, List.set_cons_succ, List.set_cons_zero]
  refine wpAnyE_take (i := 0) (v := ?vt20_0) rfl (by decide +kernel) (fun _ _ _ h => h) (Or.inl ⟨by first | rfl | kernel_rfl, ?ht20_0⟩) (by assumption) ?rt20_0
  case ht20_0 =>
    intro wS hSw
    obtain ⟨h0, h1⟩ := hSw
    go_simp
    try with_reducible rfl
  try simp only [Act.put, List.getElem_toArray, List.getElem_cons_succ, List.getElem_cons_zero, List.setIfInBounds_toArray, List.set_cons_succ, List.set_cons_zero]
  refine wpAnyE_take (i := 1) (v := ?vt20_1) rfl (by decide +kernel) (fun _ _ _ h => h) (Or.inl ⟨by first | rfl | kernel_rfl, ?ht20_1⟩) (by assumption) ?rt20_1
  case ht20_1 =>
    intro wS hSw
    obtain ⟨h0, h1⟩ := hSw
    go_simp
    try with_reducible rfl
  try simp only [Act.put, List.getElem_toArray, List.getElem_cons_succ, List.getElem_cons_zero, List.setIfInBounds_toArray, List.set_cons_succ, List.set_cons_zero]
  refine wpAnyE_take (i := 3) (v := ?vt20_3) rfl (by decide +kernel) (fun _ _ _ h => h) (Or.inl ⟨by first | rfl | kernel_rfl, ?ht20_3⟩) (by assumption) ?rt20_3
  case ht20_3 =>
    intro wS hSw
    obtain ⟨h0, h1⟩ := hSw
    go_simp
    try with_reducible rfl
  try simp only [Act.put, List.getElem_toArray, List.getElem_cons_succ, List.getElem_cons_zero, List.setIfInBounds_toArray, List.set_cons_succ, List.set_cons_zero]
  refine wpAnyE_ready (rs := [2, 4]) (by kernel_rfl) (by simp) ?_
  refine AllReadyE.cons (i := 2) rfl (by decide) (fun K hK => ?_) (AllReadyE.cons (i := 4) rfl (by decide) (fun K hK => ?_) AllReadyE.nil)
  · go_simp
    have LPx := Lib.hid (show (w.heap.size + 1) < F0.heap.size from CC.out.lt)
    have QQ := Lib.hid (QQ.out.alloc (.cells #[.int .i64 10, .int .i64 20, .int .i64 100, .int .i64 110, .int .i64 410, .int .i64 0, .int .i64 420, .int .i64 105] 3))
    have BX := Lib.hid (BX.out.alloc (.cells #[.int .i64 10, .int .i64 20, .int .i64 100, .int .i64 110, .int .i64 410, .int .i64 0, .int .i64 420, .int .i64 105] 3))
    have CC := Lib.hid (Cur.alloc CC.out (.cells #[.int .i64 10, .int .i64 20, .int .i64 100, .int .i64 110, .int .i64 410, .int .i64 0, .int .i64 420, .int .i64 105] 3))
    obtain ⟨wl, hwl⟩ : ∃ wl, F0 = wl := ⟨_, rfl⟩
    have LH := Lib.hid (show (wl.alloc (.cells #[.int .i64 10, .int .i64 20, .int .i64 100, .int .i64 110, .int .i64 410, .int .i64 0, .int .i64 420, .int .i64 105] 3)).grownBy (F0.alloc (.cells #[.int .i64 10, .int .i64 20, .int .i64 100, .int .i64 110, .int .i64 410, .int .i64 0, .int .i64 420, .int .i64 105] 3)) (some (w.heap.size + 1)) from by rw [← hwl]; exact lst.grown_refl _ _)
    have LP := Lib.hid (show (w.heap.size + 1) < wl.heap.size by rw [← hwl]; exact LPx.out)
    have LE := Lib.hid (show wl.heap.size = F0.heap.size by rw [← hwl])
    clear hwl LPx
    generalize F0.alloc (.cells #[.int .i64 10, .int .i64 20, .int .i64 100, .int .i64 110, .int .i64 410, .int .i64 0, .int .i64 420, .int .i64 105] 3) = y22 at *
    generalize F0.heap.size = lb at *
    refine hK.out _ _ ⟨BX.out.cell 0 _ rfl, BX.out.cell 1 _ rfl⟩ (fun hHeld => ?_)
    clear hK K
    try simp only [Act.put, List.getElem_toArray, List.getElem_cons_succ, List.getElem_cons_zero, List.setIfInBounds_toArray, List.set_cons_succ, List.set_cons_zero]
    refine wpAnyE_ready (rs := [4]) (by kernel_rfl) (by simp) ?_
    refine AllReadyE.cons (i := 4) rfl (by decide) (fun K hK => ?_) AllReadyE.nil
    go_simp
    refine (pick (w.heap.size + 1) _ 24 y22 CC.out (by omega) (by omega) (by omega)).mono ?_
    rintro e y23 ⟨r, rfl, r0, r1, hc, hg⟩
    have QQ := Lib.hid (at_grown QQ.out hg (by omega) (by omega))
    have BX := Lib.hid (BX.out.grown hg (Nat.ne_of_gt hbp))
    have LH := Lib.hid (grown_trans LH.out hg)
    have CC := Lib.hid hc
    clear hc hg
    obtain ⟨rn, rfl⟩ := Int.eq_ofNat_of_zero_le r0
    obtain ⟨q, hq⟩ : ∃ q, q = rn / 11 := ⟨_, rfl⟩
    have q1 : (rn : Int).tdiv 11 = (q : Int) := by rw [hq]; rfl
    have e1 : IntKind.i64.wrap ((rn : Int).tdiv 11) = (q : Int) := by rw [q1, IntWalk.i64_in _ (by omega)]
    have e1b : IntKind.i64.wrap ((rn : Int) / 11) = (q : Int) := by rw [IntWalk.i64_in _ (by omega)]; omega
    obtain ⟨sq, hsq⟩ : ∃ sq : Nat, sq = 5 + q := ⟨_, rfl⟩
    have e2 : IntKind.i64.wrap (5 + (q : Int)) = (sq : Int) := by rw [IntWalk.i64_in _ (by omega)]; omega
    have hq7i : (sq : Int) ≤ 8 := by omega
    have hq0i : (0 : Int) ≤ (sq : Int) := Int.natCast_nonneg _
    have HQQ := Lib.hid (show 1 ≤ sq ∧ sq ≤ 8 by omega)
    clear hq q1 hsq
    go_simp
    refine hK.out _ _ ⟨BX.out.cell 0 _ rfl, BX.out.cell 1 _ rfl⟩ (fun hHeld => ?_)
    clear hK K
    try simp only [Act.put, List.getElem_toArray, List.getElem_cons_succ, List.getElem_cons_zero, List.setIfInBounds_toArray, List.set_cons_succ, List.set_cons_zero]
    refine wpAnyE_take (i := 5) (v := ?vt21_5) rfl (by decide +kernel) (fun _ _ _ h => h) (Or.inl ⟨by first | rfl | kernel_rfl, ?ht21_5⟩) (by assumption) ?rt21_5
    case ht21_5 =>
      intro wS hSw
      obtain ⟨h0, h1⟩ := hSw
      go_simp
      try with_reducible rfl
    try simp only [Act.put, List.getElem_toArray, List.getElem_cons_succ, List.getElem_cons_zero, List.setIfInBounds_toArray, List.set_cons_succ, List.set_cons_zero]
    refine wpAnyE_take (i := 6) (v := ?vt21_6) rfl (by decide +kernel) (fun _ _ _ h => h) (Or.inl ⟨by first | rfl | kernel_rfl, ?ht21_6⟩) (by assumption) ?rt21_6
    case ht21_6 =>
      intro wS hSw
      obtain ⟨h0, h1⟩ := hSw
      go_simp
      try with_reducible rfl
    try simp only [Act.put, List.getElem_toArray, List.getElem_cons_succ, List.getElem_cons_zero, List.setIfInBounds_toArray, List.set_cons_succ, List.set_cons_zero]
    refine wpAnyE_take (i := 7) (v := ?vt22_7) rfl (by decide +kernel) (fun _ _ _ h => h) (Or.inl ⟨by first | rfl | kernel_rfl, ?ht22_7⟩) (by assumption) ?rt22_7
    case ht22_7 =>
      intro wS hSw
      obtain ⟨h0, h1⟩ := hSw
      go_simp
      try with_reducible rfl
    try simp only [Act.put, List.getElem_toArray, List.getElem_cons_succ, List.getElem_cons_zero, List.setIfInBounds_toArray, List.set_cons_succ, List.set_cons_zero]
    refine wpAnyE_ready (rs := [8]) (by kernel_rfl) (by simp) ?_
    refine AllReadyE.cons (i := 8) rfl (by decide) (fun K hK => ?_) AllReadyE.nil
    go_simp
    refine (among_old 0 420 (w.heap.size + 1) _ sq 8 _ [10, 20, 100, 110, 410, 0, 420, 105] _ wl y23 CC.out (by omega) LH.out LE.out LP.out rfl rfl HQQ.out.1 HQQ.out.2 (by omega) BW.out).mono ?_
    rintro e y24 ⟨l, rfl, l0, l1, hc, hg⟩
    have QQ := Lib.hid (at_grown QQ.out hg (by omega) (by omega))
    have BX := Lib.hid (BX.out.grown hg (Nat.ne_of_gt hbp))
    have LH := Lib.hid (grown_trans LH.out hg)
    have CC := Lib.hid hc
    clear hc hg
    go_simp
    refine hK.out _ _ ⟨BX.out.cell 0 _ rfl, BX.out.cell 1 _ rfl⟩ (fun hHeld => ?_)
    clear hK K
    try simp only [Act.put, List.getElem_toArray, List.getElem_cons_succ, List.getElem_cons_zero, List.setIfInBounds_toArray, List.set_cons_succ, List.set_cons_zero]
    have q0_ : y24.cell? ⟨w.heap.size, 0, none⟩ = some (.int .i64 0) := QQ.out.cell 0
    have qf0_ := QQ.out.frozen 0
    have q1_ : y24.cell? ⟨w.heap.size, 1, none⟩ = some (.int .i64 0) := QQ.out.cell 1
    have qf1_ := QQ.out.frozen 1
    have HE := Lib.hid ((QQ.out.set 0 (.int .i64 x)).set 1 (.int .i64 y))
    have BX := Lib.hid ((BX.out.other (show b ≠ w.heap.size by omega) 0 (.int .i64 x)).other (show b ≠ w.heap.size by omega) 1 (.int .i64 y))
    refine wpAnyE_ready (rs := [9]) (by kernel_rfl) (by simp) ?_
    refine AllReadyE.cons (i := 9) rfl (by decide) (fun K hK => ?_) AllReadyE.nil
    go_simp
    generalize (y24.setCell ⟨w.heap.size, 0, none⟩ (.int .i64 x)).setCell ⟨w.heap.size, 1, none⟩ (.int .i64 y) = y25 at *
    refine hK.out _ _ ⟨BX.out.cell 0 _ rfl, BX.out.cell 1 _ rfl⟩ (fun hHeld => ?_)
    clear hK K
    try simp only [Act.put, List.getElem_toArray, List.getElem_cons_succ, List.getElem_cons_zero, List.setIfInBounds_toArray, List.set_cons_succ, List.set_cons_zero]
    refine wpAnyE_ready (rs := [10]) (by kernel_rfl) (by simp) ?_
    refine AllReadyE.last (i := 10) rfl rfl (fun K hK => ?_)
    go_simp
    refine hK.out _ _ ?_
    clear hK K
    try simp only [Act.put, List.getElem_toArray, List.getElem_cons_succ, List.getElem_cons_zero, List.setIfInBounds_toArray, List.set_cons_succ, List.set_cons_zero]
    refine wpAnyE_done (by kernel_rfl) ?_ _
    try simp only [List.getElem_toArray, List.getElem_cons_succ, List.getElem_cons_zero, List.setIfInBounds_toArray, List.set_cons_succ, List.set_cons_zero]
    go_wp2_with fail
    have hl := HE.out.load Try.underlying50 rfl (by kernel_rfl)
    refine bodyPost_ret (v := .tuple #[.agg #[.int .i64 x, .int .i64 y], .int .i64 l]) ?_ rfl ⟨x, y, l, rfl, HE.out.1⟩
    rw [results_cell_tmp rfl]
    simp [asAddr, Result.andThen, hl]
  · go_simp
    refine (pick (w.heap.size + 1) _ 24 F0 CC.out (by omega) (by omega) (by omega)).mono ?_
    rintro e y26 ⟨r, rfl, r0, r1, hc, hg⟩
    have QQ := Lib.hid (at_grown QQ.out hg (by omega) (by omega))
    have BX := Lib.hid (BX.out.grown hg (Nat.ne_of_gt hbp))
    have CC := Lib.hid hc
    clear hc hg
    obtain ⟨rn, rfl⟩ := Int.eq_ofNat_of_zero_le r0
    obtain ⟨q, hq⟩ : ∃ q, q = rn / 11 := ⟨_, rfl⟩
    have q1 : (rn : Int).tdiv 11 = (q : Int) := by rw [hq]; rfl
    have e1 : IntKind.i64.wrap ((rn : Int).tdiv 11) = (q : Int) := by rw [q1, IntWalk.i64_in _ (by omega)]
    have e1b : IntKind.i64.wrap ((rn : Int) / 11) = (q : Int) := by rw [IntWalk.i64_in _ (by omega)]; omega
    obtain ⟨sq, hsq⟩ : ∃ sq : Nat, sq = 5 + q := ⟨_, rfl⟩
    have e2 : IntKind.i64.wrap (5 + (q : Int)) = (sq : Int) := by rw [IntWalk.i64_in _ (by omega)]; omega
    have hq7i : (sq : Int) ≤ 8 := by omega
    have hq0i : (0 : Int) ≤ (sq : Int) := Int.natCast_nonneg _
    have HQQ := Lib.hid (show 1 ≤ sq ∧ sq ≤ 8 by omega)
    clear hq q1 hsq
    go_simp
    refine hK.out _ _ ⟨BX.out.cell 0 _ rfl, BX.out.cell 1 _ rfl⟩ (fun hHeld => ?_)
    clear hK K
    try simp only [Act.put, List.getElem_toArray, List.getElem_cons_succ, List.getElem_cons_zero, List.setIfInBounds_toArray, List.set_cons_succ, List.set_cons_zero]
    refine wpAnyE_take (i := 5) (v := ?vt24_5) rfl (by decide +kernel) (fun _ _ _ h => h) (Or.inl ⟨by first | rfl | kernel_rfl, ?ht24_5⟩) (by assumption) ?rt24_5
    case ht24_5 =>
      intro wS hSw
      obtain ⟨h0, h1⟩ := hSw
      go_simp
      try with_reducible rfl
    try simp only [Act.put, List.getElem_toArray, List.getElem_cons_succ, List.getElem_cons_zero, List.setIfInBounds_toArray, List.set_cons_succ, List.set_cons_zero]
    refine wpAnyE_take (i := 6) (v := ?vt24_6) rfl (by decide +kernel) (fun _ _ _ h => h) (Or.inl ⟨by first | rfl | kernel_rfl, ?ht24_6⟩) (by assumption) ?rt24_6
    case ht24_6 =>
      intro wS hSw
      obtain ⟨h0, h1⟩ := hSw
      go_simp
      try with_reducible rfl
    try simp only [Act.put, List.getElem_toArray, List.getElem_cons_succ, List.getElem_cons_zero, List.setIfInBounds_toArray, List.set_cons_succ, List.set_cons_zero]
    refine wpAnyE_ready (rs := [2]) (by kernel_rfl) (by simp) ?_
    refine AllReadyE.cons (i := 2) rfl (by decide) (fun K hK => ?_) AllReadyE.nil
    go_simp
    have LPx := Lib.hid (show (w.heap.size + 1) < y26.heap.size from CC.out.lt)
    have QQ := Lib.hid (QQ.out.alloc (.cells #[.int .i64 10, .int .i64 20, .int .i64 100, .int .i64 110, .int .i64 410, .int .i64 0, .int .i64 420, .int .i64 105] 3))
    have BX := Lib.hid (BX.out.alloc (.cells #[.int .i64 10, .int .i64 20, .int .i64 100, .int .i64 110, .int .i64 410, .int .i64 0, .int .i64 420, .int .i64 105] 3))
    have CC := Lib.hid (Cur.alloc CC.out (.cells #[.int .i64 10, .int .i64 20, .int .i64 100, .int .i64 110, .int .i64 410, .int .i64 0, .int .i64 420, .int .i64 105] 3))
    obtain ⟨wl, hwl⟩ : ∃ wl, y26 = wl := ⟨_, rfl⟩
    have LH := Lib.hid (show (wl.alloc (.cells #[.int .i64 10, .int .i64 20, .int .i64 100, .int .i64 110, .int .i64 410, .int .i64 0, .int .i64 420, .int .i64 105] 3)).grownBy (y26.alloc (.cells #[.int .i64 10, .int .i64 20, .int .i64 100, .int .i64 110, .int .i64 410, .int .i64 0, .int .i64 420, .int .i64 105] 3)) (some (w.heap.size + 1)) from by rw [← hwl]; exact lst.grown_refl _ _)
    have LP := Lib.hid (show (w.heap.size + 1) < wl.heap.size by rw [← hwl]; exact LPx.out)
    have LE := Lib.hid (show wl.heap.size = y26.heap.size by rw [← hwl])
    clear hwl LPx
    generalize y26.alloc (.cells #[.int .i64 10, .int .i64 20, .int .i64 100, .int .i64 110, .int .i64 410, .int .i64 0, .int .i64 420, .int .i64 105] 3) = y27 at *
    generalize y26.heap.size = lb at *
    refine hK.out _ _ ⟨BX.out.cell 0 _ rfl, BX.out.cell 1 _ rfl⟩ (fun hHeld => ?_)
    clear hK K
    try simp only [Act.put, List.getElem_toArray, List.getElem_cons_succ, List.getElem_cons_zero, List.setIfInBounds_toArray, List.set_cons_succ, List.set_cons_zero]
    refine wpAnyE_take (i := 7) (v := ?vt25_7) rfl (by decide +kernel) (fun _ _ _ h => h) (Or.inl ⟨by first | rfl | kernel_rfl, ?ht25_7⟩) (by assumption) ?rt25_7
    case ht25_7 =>
      intro wS hSw
      obtain ⟨h0, h1⟩ := hSw
      go_simp
      try with_reducible rfl
    try simp only [Act.put, List.getElem_toArray, List.getElem_cons_succ, List.getElem_cons_zero, List.setIfInBounds_toArray, List.set_cons_succ, List.set_cons_zero]
    refine wpAnyE_ready (rs := [8]) (by kernel_rfl) (by simp) ?_
    refine AllReadyE.cons (i := 8) rfl (by decide) (fun K hK => ?_) AllReadyE.nil
    go_simp
    refine (among_old 0 420 (w.heap.size + 1) _ sq 8 _ [10, 20, 100, 110, 410, 0, 420, 105] _ wl y27 CC.out (by omega) LH.out LE.out LP.out rfl rfl HQQ.out.1 HQQ.out.2 (by omega) BW.out).mono ?_
    rintro e y28 ⟨l, rfl, l0, l1, hc, hg⟩
    have QQ := Lib.hid (at_grown QQ.out hg (by omega) (by omega))
    have BX := Lib.hid (BX.out.grown hg (Nat.ne_of_gt hbp))
    have LH := Lib.hid (grown_trans LH.out hg)
    have CC := Lib.hid hc
    clear hc hg
    go_simp
    refine hK.out _ _ ⟨BX.out.cell 0 _ rfl, BX.out.cell 1 _ rfl⟩ (fun hHeld => ?_)
    clear hK K
    try simp only [Act.put, List.getElem_toArray, List.getElem_cons_succ, List.getElem_cons_zero, List.setIfInBounds_toArray, List.set_cons_succ, List.set_cons_zero]
    have q0_ : y28.cell? ⟨w.heap.size, 0, none⟩ = some (.int .i64 0) := QQ.out.cell 0
    have qf0_ := QQ.out.frozen 0
    have q1_ : y28.cell? ⟨w.heap.size, 1, none⟩ = some (.int .i64 0) := QQ.out.cell 1
    have qf1_ := QQ.out.frozen 1
    have HE := Lib.hid ((QQ.out.set 0 (.int .i64 x)).set 1 (.int .i64 y))
    have BX := Lib.hid ((BX.out.other (show b ≠ w.heap.size by omega) 0 (.int .i64 x)).other (show b ≠ w.heap.size by omega) 1 (.int .i64 y))
    refine wpAnyE_ready (rs := [9]) (by kernel_rfl) (by simp) ?_
    refine AllReadyE.cons (i := 9) rfl (by decide) (fun K hK => ?_) AllReadyE.nil
    go_simp
    generalize (y28.setCell ⟨w.heap.size, 0, none⟩ (.int .i64 x)).setCell ⟨w.heap.size, 1, none⟩ (.int .i64 y) = y29 at *
    refine hK.out _ _ ⟨BX.out.cell 0 _ rfl, BX.out.cell 1 _ rfl⟩ (fun hHeld => ?_)
    clear hK K
    try simp only [Act.put, List.getElem_toArray, List.getElem_cons_succ, List.getElem_cons_zero, List.setIfInBounds_toArray, List.set_cons_succ, List.set_cons_zero]
    refine wpAnyE_ready (rs := [10]) (by kernel_rfl) (by simp) ?_
    refine AllReadyE.last (i := 10) rfl rfl (fun K hK => ?_)
    go_simp
    refine hK.out _ _ ?_
    clear hK K
    try simp only [Act.put, List.getElem_toArray, List.getElem_cons_succ, List.getElem_cons_zero, List.setIfInBounds_toArray, List.set_cons_succ, List.set_cons_zero]
    refine wpAnyE_done (by kernel_rfl) ?_ _
    try simp only [List.getElem_toArray, List.getElem_cons_succ, List.getElem_cons_zero, List.setIfInBounds_toArray, List.set_cons_succ, List.set_cons_zero]
    go_wp2_with fail
    have hl := HE.out.load Try.underlying50 rfl (by kernel_rfl)
    refine bodyPost_ret (v := .tuple #[.agg #[.int .i64 x, .int .i64 y], .int .i64 l]) ?_ rfl ⟨x, y, l, rfl, HE.out.1⟩
    rw [results_cell_tmp rfl]
    simp [asAddr, Result.andThen, hl]
end Go.Proofs.Ytglonedhoenkpaa.drawv18
