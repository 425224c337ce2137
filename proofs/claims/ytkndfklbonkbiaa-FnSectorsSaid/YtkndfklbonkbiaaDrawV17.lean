/- spec's DrawIsIn and DrawCrossedSides. -/
import Derived.Test.YtkndfklbonkbiaaDrawT17
import Derived.Test.YtkndfklbonkbiaaDrawU17
namespace Go.Proofs.Ytkndfklbonkbiaa.drawv17
set_option linter.unusedVariables false
set_option linter.unusedSimpArgs false
open Go.RowKit Go.Proofs.Ytkndfklbonkbiaa.cur Go.Proofs.Ytkndfklbonkbiaa.atc Go.Proofs.Ytkndfklbonkbiaa.ats Go.Proofs.Ytkndfklbonkbiaa.ints Go.Proofs.Ytkndfklbonkbiaa.lst Go.Proofs.Ytkndfklbonkbiaa.scte Go.Proofs.Ytkndfklbonkbiaa.tailh Go.Proofs.Ytkndfklbonkbiaa.draws17 Go.Proofs.Ytkndfklbonkbiaa.drawu17 Go.Proofs.Ytkndfklbonkbiaa.drawt17

/-- What a Draw of a sector and places returns. -/
def SecP1 (w : World) (e : Ending) (w' : World) : Prop := ∃ (d : Int) (A : Option Addr) (n c : Nat) (zs : List Int) (x0 y0 : Int), e = .returned (.tuple #[.agg #[.int .i64 d, .slice A n c], .agg #[.int .i64 x0, .int .i64 y0]]) ∧ w'.ownsRow w.heap.size 31 2 (.slice A n c) n (cellsI zs) ∧ n ≤ 6 ∧ n ≤ c ∧ Sd n zs ∧ Below w.heap.size w w'
def SecP2 (w : World) (e : Ending) (w' : World) : Prop := ∃ (d : Int) (A : Option Addr) (n c : Nat) (zs : List Int) (x0 y0 x1 y1 : Int), e = .returned (.tuple #[.agg #[.int .i64 d, .slice A n c], .agg #[.int .i64 x0, .int .i64 y0], .agg #[.int .i64 x1, .int .i64 y1]]) ∧ w'.ownsRow w.heap.size 31 2 (.slice A n c) n (cellsI zs) ∧ n ≤ 6 ∧ n ≤ c ∧ Sd n zs ∧ Below w.heap.size w w'
theorem results_cc {fn : Func} {p q : Tmp} {ty ty' : TypeId} (h : fn.results = #[.cell p ty, .cell q ty']) (tmps : Array Value) (P : Program) (w : World) :
    (results fn tmps).run P w = ((asAddr (tmps.getD p undef)).run P w).andThen fun a w₁ => ((loadVar ty a).run P w₁).andThen fun v w₂ => ((asAddr (tmps.getD q undef)).run P w₂).andThen fun b w₃ => ((loadVar ty' b).run P w₃).andThen fun u w₄ => .ok (.tuple #[v, u]) w₄ := by
  simp only [results, h]
  simp [Sem.run_bind, Result.andThen]
theorem results_ccc {fn : Func} {p q r : Tmp} {ty ty' ty'' : TypeId} (h : fn.results = #[.cell p ty, .cell q ty', .cell r ty'']) (tmps : Array Value) (P : Program) (w : World) :
    (results fn tmps).run P w = ((asAddr (tmps.getD p undef)).run P w).andThen fun a w₁ => ((loadVar ty a).run P w₁).andThen fun v w₂ => ((asAddr (tmps.getD q undef)).run P w₂).andThen fun b w₃ => ((loadVar ty' b).run P w₃).andThen fun u w₄ => ((asAddr (tmps.getD r undef)).run P w₄).andThen fun s w₅ => ((loadVar ty'' s).run P w₅).andThen fun t w₆ => .ok (.tuple #[v, u, t]) w₆ := by
  simp only [results, h]
  simp [Sem.run_bind, Result.andThen]
set_option maxRecDepth 100000 in
set_option maxHeartbeats 8000000 in
theorem isIn (A : Option Addr) (n c0 : Nat) (w : World) (hn : n ≤ 65536) (h : Bytes w w.heap.size A n) :
    Calls Try.prog 17 #[.slice A n c0] w (SecP1 w) := by
  have S0 := Lib.hid (((newS 42 #[.int .i64 0, .slice none 0 0] w).alloc (.cells #[.int .i64 0, .int .i64 0] 31)).alloc (.cells #[.slice A n c0, .int .i64 0, .int .u64 0] 92))
  have S1 := Lib.hid (((newS 42 #[.int .i64 0, .slice none 0 0] w).next 31 #[.int .i64 0, .int .i64 0]).alloc (.cells #[.slice A n c0, .int .i64 0, .int .u64 0] 92))
  rw [World.size_alloc] at S1
  have S2 := Lib.hid (((newS 42 #[.int .i64 0, .slice none 0 0] w).alloc (.cells #[.int .i64 0, .int .i64 0] 31)).next 92 #[.slice A n c0, .int .i64 0, .int .u64 0])
  rw [World.size_alloc, World.size_alloc] at S2
  have hc := new_cur c0 (by omega) (bytes_al (.cells #[.int .i64 0, .int .i64 0] 31) (bytes_al (.cells #[.int .i64 0, .slice none 0 0] 42) h))
  rw [World.size_alloc, World.size_alloc] at hc
  have HC := Lib.hid hc
  clear h hc
  have hw0_ : w.heap.size ≤ w.heap.size + 1 + 1 := by omega
  have hp0_ : w.heap.size ≠ w.heap.size + 1 + 1 := by omega
  have R0 := Lib.hid S0.out
  have hw1_ : w.heap.size ≤ w.heap.size + 1 + 1 := by omega
  have hp1_ : w.heap.size + 1 ≠ w.heap.size + 1 + 1 := by omega
  have R1 := Lib.hid S1.out
  have LW := Lib.hid (show w.heap.size + 1 + 1 < ((((w.alloc (.cells #[.int .i64 0, .slice none 0 0] 42)).alloc (.cells #[.int .i64 0, .int .i64 0] 31)).alloc (.cells #[.slice A n c0, .int .i64 0, .int .u64 0] 92))).heap.size from S2.out.2.2.1)
  clear S0 S1 S2
  go_enter Try.func17, Try.ntmps17
  go_wp2_with fail
  generalize (((w.alloc (.cells #[.int .i64 0, .slice none 0 0] 42)).alloc (.cells #[.int .i64 0, .int .i64 0] 31)).alloc (.cells #[.slice A n c0, .int .i64 0, .int .u64 0] 92)) = W1 at *
  refine (sector _ 0 W1 HC.out (by omega)).mono ?_
  rintro e w1 ⟨d, v, k, zs, rfl, ho, hk, hsd, hcN, hgN⟩
  obtain ⟨A1, c1, rfl⟩ := own_sliceZ ho
  have R0 := Lib.hid ((at_gr R0.out hgN hp0_ hw0_).alloc (.cells #[.int .i64 d, .slice A1 k c1] 42))
  have R1 := Lib.hid ((at_gr R1.out hgN hp1_ hw1_).alloc (.cells #[.int .i64 d, .slice A1 k c1] 42))
  have OW := Lib.hid (own_.own_below ho ((Below.refl _ _).alloc (Nat.le_refl _) (.cells #[.int .i64 d, .slice A1 k c1] 42)))
  have HT := Lib.hid (Blk.new 42 #[.int .i64 d, .slice A1 k c1] w1)
  have hlt : w.heap.size + 1 + 1 < w1.heap.size := hcN.lt
  have HC := Lib.hid (Cur.alloc hcN (.cells #[.int .i64 d, .slice A1 k c1] 42))
  have HSD := Lib.hid hsd
  clear ho hsd hcN hgN
  go_upto_region 3 with fail
  generalize w1.alloc (.cells #[.int .i64 d, .slice A1 k c1] 42) = W2 at *
  generalize w1.heap.size = bs at *
  have R0 := Lib.hid R0.out.drew
  have R1 := Lib.hid R1.out.drew
  have OW := Lib.hid (own_drew OW.out)
  have HT := Lib.hid HT.out.drew
  have HC := Lib.hid (HC.out.keep (Below.refl _ _).drew)
  refine wp_region_tail (S := fun w' => World.cell? w' ⟨bs, 0, none⟩ = some (.int .i64 d) ∧ World.cell? w' ⟨bs, 1, none⟩ = some (.slice A1 k c1)) 5 (by kernel_rfl) ⟨HT.out.cell 0 _ rfl, HT.out.cell 1 _ rfl⟩ (fun hHeld => ?_)
  generalize W2.drew = V0 at *
  try simp only [Act.put, List.getElem_toArray, List.getElem_cons_succ, List.getElem_cons_zero, List.setIfInBounds_toArray, List.set_cons_succ, List.set_cons_zero]
  refine wpAnyE_take (i := 0) (v := ?vt1_0) rfl (by decide +kernel) (fun _ _ _ h => h) (Or.inl ⟨by first | rfl | kernel_rfl, ?ht1_0⟩) (by assumption) ?rt1_0
  case ht1_0 =>
    intro wS hSw
    obtain ⟨h0, h1⟩ := hSw
    go_simp
    try with_reducible rfl
  try simp only [Act.put, List.getElem_toArray, List.getElem_cons_succ, List.getElem_cons_zero, List.setIfInBounds_toArray, List.set_cons_succ, List.set_cons_zero]
  refine wpAnyE_take (i := 1) (v := ?vt1_1) rfl (by decide +kernel) (fun _ _ _ h => h) (Or.inl ⟨by first | rfl | kernel_rfl, ?ht1_1⟩) (by assumption) ?rt1_1
  case ht1_1 =>
    intro wS hSw
    obtain ⟨h0, h1⟩ := hSw
    go_simp
    try with_reducible rfl
  try simp only [Act.put, List.getElem_toArray, List.getElem_cons_succ, List.getElem_cons_zero, List.setIfInBounds_toArray, List.set_cons_succ, List.set_cons_zero]
  refine wpAnyE_take (i := 2) (v := ?vt1_2) rfl (by decide +kernel) (fun _ _ _ h => h) (Or.inl ⟨by first | rfl | kernel_rfl, ?ht1_2⟩) (by assumption) ?rt1_2
  case ht1_2 =>
    intro wS hSw
    obtain ⟨h0, h1⟩ := hSw
    go_simp
    try with_reducible rfl
  try simp only [Act.put, List.getElem_toArray, List.getElem_cons_succ, List.getElem_cons_zero, List.setIfInBounds_toArray, List.set_cons_succ, List.set_cons_zero]
  refine wpAnyE_ready (rs := [3]) (by kernel_rfl) (by simp) ?_
  refine AllReadyE.cons (i := 3) rfl (by decide) (fun K hK => ?_) AllReadyE.nil
  go_simp
  refine (spot d zs A1 k c1 _ _ _ V0 HC.out (by omega) hk LW.out OW.out).mono ?_
  rintro e V1 ⟨x0, y0, rfl, hc, hg⟩
  have R0 := Lib.hid (at_gr R0.out hg hp0_ hw0_)
  have R1 := Lib.hid (at_gr R1.out hg hp1_ hw1_)
  have OW := Lib.hid (own_kept OW.out hg (fun g e => by cases e; exact LW.out))
  have HT := Lib.hid (HT.out.grown hg (show bs ≠ w.heap.size + 1 + 1 by omega))
  have HC := Lib.hid hc
  clear hc hg
  go_simp
  refine hK.out _ _ ⟨HT.out.cell 0 _ rfl, HT.out.cell 1 _ rfl⟩ (fun hHeld => ?_)
  clear hK K
  try simp only [Act.put, List.getElem_toArray, List.getElem_cons_succ, List.getElem_cons_zero, List.setIfInBounds_toArray, List.set_cons_succ, List.set_cons_zero]
  refine wpAnyE_ready (rs := [4]) (by kernel_rfl) (by simp) ?_
  refine AllReadyE.cons (i := 4) rfl (by decide) (fun K hK => ?_) AllReadyE.nil
  have r00_ : V1.cell? ⟨w.heap.size, 0, none⟩ = some (.int .i64 0) := R0.out.cell 0
  have rf00_ := R0.out.frozen 0
  have r01_ : V1.cell? ⟨w.heap.size, 1, none⟩ = some (.slice none 0 0) := R0.out.cell 1
  have rf01_ := R0.out.frozen 1
  go_simp
  have R0 := Lib.hid ((R0.out.set 0 (.int .i64 d)).set 1 (.slice A1 k c1))
  have R1 := Lib.hid ((R1.out.other (b' := w.heap.size) (show w.heap.size ≤ w.heap.size by omega) (show w.heap.size + 1 ≠ w.heap.size by omega) 0 (.int .i64 d)).other (b' := w.heap.size) (show w.heap.size ≤ w.heap.size by omega) (show w.heap.size + 1 ≠ w.heap.size by omega) 1 (.slice A1 k c1))
  have HT := Lib.hid (draws17.Blk.other (draws17.Blk.other HT.out (show bs ≠ w.heap.size by omega) 0 (.int .i64 d)) (show bs ≠ w.heap.size by omega) 1 (.slice A1 k c1))
  have OW := Lib.hid (own_kept (own_kept OW.out (grown_set (grown_refl _ (some (w.heap.size))) 0 (.int .i64 d)) (fun g e => by injection e with e; have := LW.out; omega)) (grown_set (grown_refl _ (some (w.heap.size))) 1 (.slice A1 k c1)) (fun g e => by injection e with e; have := LW.out; omega))
  clear r00_ rf00_ r01_ rf01_
  generalize (V1.setCell ⟨w.heap.size, 0, none⟩ (.int .i64 d)).setCell ⟨w.heap.size, 1, none⟩ (.slice A1 k c1) = U0 at *
  refine hK.out _ _ ⟨HT.out.cell 0 _ rfl, HT.out.cell 1 _ rfl⟩ (fun hHeld => ?_)
  clear hK K
  try simp only [Act.put, List.getElem_toArray, List.getElem_cons_succ, List.getElem_cons_zero, List.setIfInBounds_toArray, List.set_cons_succ, List.set_cons_zero]
  have r10_ : U0.cell? ⟨w.heap.size + 1, 0, none⟩ = some (.int .i64 0) := R1.out.cell 0
  have rf10_ := R1.out.frozen 0
  have r11_ : U0.cell? ⟨w.heap.size + 1, 1, none⟩ = some (.int .i64 0) := R1.out.cell 1
  have rf11_ := R1.out.frozen 1
  refine wpAnyE_ready (rs := [5]) (by kernel_rfl) (by simp) ?_
  refine AllReadyE.last (i := 5) rfl rfl (fun K hK => ?_)
  go_simp
  refine hK.out _ _ ?_
  clear hK K
  try simp only [Act.put, List.getElem_toArray, List.getElem_cons_succ, List.getElem_cons_zero, List.setIfInBounds_toArray, List.set_cons_succ, List.set_cons_zero]
  refine wpAnyE_done (by kernel_rfl) ?_ _
  try simp only [List.getElem_toArray, List.getElem_cons_succ, List.getElem_cons_zero, List.setIfInBounds_toArray, List.set_cons_succ, List.set_cons_zero]
  have R0 := Lib.hid ((R0.out.other (b' := w.heap.size + 1) (show w.heap.size ≤ w.heap.size + 1 by omega) (show w.heap.size ≠ w.heap.size + 1 by omega) 0 (.int .i64 x0)).other (b' := w.heap.size + 1) (show w.heap.size ≤ w.heap.size + 1 by omega) (show w.heap.size ≠ w.heap.size + 1 by omega) 1 (.int .i64 y0))
  have R1 := Lib.hid ((R1.out.set 0 (.int .i64 x0)).set 1 (.int .i64 y0))
  have HT := Lib.hid (draws17.Blk.other (draws17.Blk.other HT.out (show bs ≠ w.heap.size + 1 by omega) 0 (.int .i64 x0)) (show bs ≠ w.heap.size + 1 by omega) 1 (.int .i64 y0))
  have OW := Lib.hid (own_kept (own_kept OW.out (grown_set (grown_refl _ (some (w.heap.size + 1))) 0 (.int .i64 x0)) (fun g e => by injection e with e; have := LW.out; omega)) (grown_set (grown_refl _ (some (w.heap.size + 1))) 1 (.int .i64 y0)) (fun g e => by injection e with e; have := LW.out; omega))
  have NC := Lib.hid (own_nc OW.out)
  have OE := Lib.hid (own_.own_base OW.out (show w.heap.size ≤ _ from Nat.le_trans (show w.heap.size ≤ w.heap.size + 1 + 1 by omega) (Nat.le_of_lt LW.out)))
  clear OW HT HC
  go_wp2_with fail
  have hl0 := R0.out.load Try.underlying42 rfl (by kernel_rfl)
  have hl1 := R1.out.load Try.underlying31 rfl (by kernel_rfl)
  refine bodyPost_ret (v := .tuple #[.agg #[.int .i64 d, .slice A1 k c1], .agg #[.int .i64 x0, .int .i64 y0]]) ?_ rfl ⟨_, _, _, _, _, _, _, rfl, OE.out, hk, NC.out, HSD.out, R0.out.1⟩
  rw [results_cc rfl]
  simp [asAddr, Result.andThen, hl0, hl1]
end Go.Proofs.Ytkndfklbonkbiaa.drawv17
