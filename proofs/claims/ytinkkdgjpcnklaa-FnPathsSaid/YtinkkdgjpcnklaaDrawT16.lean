/- spec's Draw functions of chapter 16. -/
import Derived.Test.YtinkkdgjpcnklaaDrawS16
import Derived.Test.YtinkkdgjpcnklaaDrawQ7
import Derived.Test.YtinkkdgjpcnklaaMotS
import Derived.Test.YtinkkdgjpcnklaaTailH
import Derived.Deep.CutRange
namespace Go.Proofs.Ytinkkdgjpcnklaa.drawt16
open Go.RowKit Go.Proofs.Ytinkkdgjpcnklaa.cur Go.Proofs.Ytinkkdgjpcnklaa.atc Go.Proofs.Ytinkkdgjpcnklaa.ats Go.Proofs.Ytinkkdgjpcnklaa.drawq7 Go.Proofs.Ytinkkdgjpcnklaa.draws16 Go.Proofs.Ytinkkdgjpcnklaa.tailh

theorem results_cell_tmp2 {fn : Func} {p u v : Tmp} {ty : TypeId} (h : fn.results = #[.cell p ty, .tmp u, .tmp v]) (tmps : Array Value) (P : Program) (w : World) :
    (results fn tmps).run P w =
      ((asAddr (tmps.getD p undef)).run P w).andThen fun a w₁ => ((loadVar ty a).run P w₁).andThen fun x w₂ => .ok (.tuple #[x, tmps.getD u undef, tmps.getD v undef]) w₂ := by
  simp only [results, h]
  simp [Sem.run_bind, Result.andThen]
def MotInts (w : World) (e : Ending) (w' : World) : Prop := ∃ x y u v h c n d : Int, e = .returned (.tuple #[.agg #[.int .i64 x, .int .i64 y, .int .i64 u, .int .i64 v, .int .i64 h, .int .i64 c], .int .i64 n, .int .i64 d]) ∧ Below w.heap.size w w'
def MotInt (w : World) (e : Ending) (w' : World) : Prop := ∃ x y u v h c t : Int, e = .returned (.tuple #[.agg #[.int .i64 x, .int .i64 y, .int .i64 u, .int .i64 v, .int .i64 h, .int .i64 c], .int .i64 t]) ∧ Below w.heap.size w w'
def MotPlace (w : World) (e : Ending) (w' : World) : Prop := ∃ x y u v h c p q : Int, e = .returned (.tuple #[.agg #[.int .i64 x, .int .i64 y, .int .i64 u, .int .i64 v, .int .i64 h, .int .i64 c], .agg #[.int .i64 p, .int .i64 q]]) ∧ Below w.heap.size w w'
set_option maxRecDepth 100000 in
set_option maxHeartbeats 8000000 in
theorem placeAt (A : Option Addr) (n c0 : Nat) (w : World) (hn : n ≤ 65536) (h : Bytes w w.heap.size A n) :
    Calls Try.prog 26 #[.slice A n c0] w (MotInts w) := by
  have R0 := Lib.hid ((newS 28 #[.int .i64 0, .int .i64 0, .int .i64 0, .int .i64 0, .int .i64 0, .int .i64 0] w).alloc (.cells #[.slice A n c0, .int .i64 0, .int .u64 0] 62))
  have hc := new_cur c0 (by omega) (bytes_al (.cells #[.int .i64 0, .int .i64 0, .int .i64 0, .int .i64 0, .int .i64 0, .int .i64 0] 28) h)
  rw [World.size_alloc] at hc
  have HC0 := Lib.hid hc
  have hpw : w.heap.size ≤ w.heap.size + 1 := by omega
  have hpR : w.heap.size ≠ w.heap.size + 1 := by omega
  clear h hc
  go_enter Try.func26, Try.ntmps26
  go_wp2_with fail
  generalize (w.alloc (.cells #[.int .i64 0, .int .i64 0, .int .i64 0, .int .i64 0, .int .i64 0, .int .i64 0] 28)).alloc (.cells #[.slice A n c0, .int .i64 0, .int .u64 0] 62) = W1 at *
  refine (motion _ 0 W1 HC0.out (by omega)).mono ?_
  rintro e w1 ⟨x, y, u, v, h, c, rfl, hin, hcN, hgN⟩
  have R1 := at_grown R0.out hgN hpR hpw
  have hpb' : w.heap.size + 1 < w1.heap.size := hcN.lt
  have hpb : w1.heap.size ≠ w.heap.size + 1 := by omega
  have hbR : w1.heap.size ≠ w.heap.size := by omega
  have B2 := Lib.hid (R1.next 28 #[.int .i64 x, .int .i64 y, .int .i64 u, .int .i64 v, .int .i64 h, .int .i64 c])
  have R2 := Lib.hid (R1.alloc (.cells #[.int .i64 x, .int .i64 y, .int .i64 u, .int .i64 v, .int .i64 h, .int .i64 c] 28))
  have HC2 := Lib.hid (Cur.alloc hcN (.cells #[.int .i64 x, .int .i64 y, .int .i64 u, .int .i64 v, .int .i64 h, .int .i64 c] 28))
  clear hcN hgN R0 HC0 R1 hpb'
  go_upto_region 3 with fail
  generalize w1.alloc (.cells #[.int .i64 x, .int .i64 y, .int .i64 u, .int .i64 v, .int .i64 h, .int .i64 c] 28) = W2 at *
  generalize w1.heap.size = b at *
  generalize w.heap.size + 1 = p at *
  go_wp2_with fail
  refine (time16 p 60 W2 HC2.out (by omega)).mono ?_
  rintro e w3 ⟨n, d, rfl, hcN, hgN⟩
  have R3 := Lib.hid (at_grown R2.out hgN hpR hpw)
  have B3 := Lib.hid (at_grown B2.out hgN hpb hpw)
  have HC3 := Lib.hid hcN
  clear hcN hgN R2 B2 HC2
  have m0_ : w3.cell? ⟨b, 0, none⟩ = some (.int .i64 x) := B3.out.cell 0
  have m1_ : w3.cell? ⟨b, 1, none⟩ = some (.int .i64 y) := B3.out.cell 1
  have m2_ : w3.cell? ⟨b, 2, none⟩ = some (.int .i64 u) := B3.out.cell 2
  have m3_ : w3.cell? ⟨b, 3, none⟩ = some (.int .i64 v) := B3.out.cell 3
  have m4_ : w3.cell? ⟨b, 4, none⟩ = some (.int .i64 h) := B3.out.cell 4
  have m5_ : w3.cell? ⟨b, 5, none⟩ = some (.int .i64 c) := B3.out.cell 5
  have r0_ : w3.cell? ⟨w.heap.size, 0, none⟩ = some (.int .i64 0) := R3.out.cell 0
  have rf0_ := R3.out.frozen 0
  have r1_ : w3.cell? ⟨w.heap.size, 1, none⟩ = some (.int .i64 0) := R3.out.cell 1
  have rf1_ := R3.out.frozen 1
  have r2_ : w3.cell? ⟨w.heap.size, 2, none⟩ = some (.int .i64 0) := R3.out.cell 2
  have rf2_ := R3.out.frozen 2
  have r3_ : w3.cell? ⟨w.heap.size, 3, none⟩ = some (.int .i64 0) := R3.out.cell 3
  have rf3_ := R3.out.frozen 3
  have r4_ : w3.cell? ⟨w.heap.size, 4, none⟩ = some (.int .i64 0) := R3.out.cell 4
  have rf4_ := R3.out.frozen 4
  have r5_ : w3.cell? ⟨w.heap.size, 5, none⟩ = some (.int .i64 0) := R3.out.cell 5
  have rf5_ := R3.out.frozen 5
  have HE := Lib.hid ((((((R3.out.set 0 (.int .i64 x)).set 1 (.int .i64 y)).set 2 (.int .i64 u)).set 3 (.int .i64 v)).set 4 (.int .i64 h)).set 5 (.int .i64 c))
  go_wp2_with fail
  have hl := HE.out.load Try.underlying28 rfl (by kernel_rfl)
  refine bodyPost_ret (v := .tuple #[.agg #[.int .i64 x, .int .i64 y, .int .i64 u, .int .i64 v, .int .i64 h, .int .i64 c], .int .i64 n, .int .i64 d]) ?_ rfl ⟨_, _, _, _, _, _, _, _, rfl, HE.out.1⟩
  rw [results_cell_tmp2 rfl]
  simp [asAddr, Result.andThen, hl]

set_option maxRecDepth 100000 in
set_option maxHeartbeats 4000000 in
theorem heightAt (A : Option Addr) (n c0 : Nat) (w : World) (hn : n ≤ 65536) (h : Bytes w w.heap.size A n) :
    Calls Try.prog 39 #[.slice A n c0] w (MotInts w) := by
  have R0 := Lib.hid (newS 28 #[.int .i64 0, .int .i64 0, .int .i64 0, .int .i64 0, .int .i64 0, .int .i64 0] w)
  have H := Lib.hid (placeAt A n c0 (w.alloc (.cells #[.int .i64 0, .int .i64 0, .int .i64 0, .int .i64 0, .int .i64 0, .int .i64 0] 28)) hn (bytes_al (.cells #[.int .i64 0, .int .i64 0, .int .i64 0, .int .i64 0, .int .i64 0, .int .i64 0] 28) h))
  clear h
  go_enter Try.func39, Try.ntmps39
  go_wp2_with fail
  generalize w.alloc (.cells #[.int .i64 0, .int .i64 0, .int .i64 0, .int .i64 0, .int .i64 0, .int .i64 0] 28) = W1 at *
  refine H.out.mono ?_
  rintro e w3 ⟨x, y, u, v, h, c, n, d, rfl, hb⟩
  have R1 := Lib.hid (R0.out.old hb)
  clear hb R0
  have r0_ : w3.cell? ⟨w.heap.size, 0, none⟩ = some (.int .i64 0) := R1.out.cell 0
  have rf0_ := R1.out.frozen 0
  have r1_ : w3.cell? ⟨w.heap.size, 1, none⟩ = some (.int .i64 0) := R1.out.cell 1
  have rf1_ := R1.out.frozen 1
  have r2_ : w3.cell? ⟨w.heap.size, 2, none⟩ = some (.int .i64 0) := R1.out.cell 2
  have rf2_ := R1.out.frozen 2
  have r3_ : w3.cell? ⟨w.heap.size, 3, none⟩ = some (.int .i64 0) := R1.out.cell 3
  have rf3_ := R1.out.frozen 3
  have r4_ : w3.cell? ⟨w.heap.size, 4, none⟩ = some (.int .i64 0) := R1.out.cell 4
  have rf4_ := R1.out.frozen 4
  have r5_ : w3.cell? ⟨w.heap.size, 5, none⟩ = some (.int .i64 0) := R1.out.cell 5
  have rf5_ := R1.out.frozen 5
  have HE := Lib.hid ((((((R1.out.set 0 (.int .i64 x)).set 1 (.int .i64 y)).set 2 (.int .i64 u)).set 3 (.int .i64 v)).set 4 (.int .i64 h)).set 5 (.int .i64 c))
  go_wp2_with fail
  have hl := HE.out.load Try.underlying28 rfl (by kernel_rfl)
  refine bodyPost_ret (v := .tuple #[.agg #[.int .i64 x, .int .i64 y, .int .i64 u, .int .i64 v, .int .i64 h, .int .i64 c], .int .i64 n, .int .i64 d]) ?_ rfl ⟨_, _, _, _, _, _, _, _, rfl, HE.out.1⟩
  rw [results_cell_tmp2 rfl]
  simp [asAddr, Result.andThen, hl]
set_option maxRecDepth 100000 in
set_option maxHeartbeats 8000000 in
theorem timeToX (A : Option Addr) (n c0 : Nat) (w : World) (hn : n ≤ 65536) (h : Bytes w w.heap.size A n) :
    Calls Try.prog 15 #[.slice A n c0] w (MotInt w) := by
  have R0 := Lib.hid ((newS 28 #[.int .i64 0, .int .i64 0, .int .i64 0, .int .i64 0, .int .i64 0, .int .i64 0] w).alloc (.cells #[.slice A n c0, .int .i64 0, .int .u64 0] 62))
  have hc := new_cur c0 (by omega) (bytes_al (.cells #[.int .i64 0, .int .i64 0, .int .i64 0, .int .i64 0, .int .i64 0, .int .i64 0] 28) h)
  rw [World.size_alloc] at hc
  have HC0 := Lib.hid hc
  have hpw : w.heap.size ≤ w.heap.size + 1 := by omega
  have hpR : w.heap.size ≠ w.heap.size + 1 := by omega
  clear h hc
  go_enter Try.func15, Try.ntmps15
  go_wp2_with fail
  generalize (w.alloc (.cells #[.int .i64 0, .int .i64 0, .int .i64 0, .int .i64 0, .int .i64 0, .int .i64 0] 28)).alloc (.cells #[.slice A n c0, .int .i64 0, .int .u64 0] 62) = W1 at *
  refine (motion _ 0 W1 HC0.out (by omega)).mono ?_
  rintro e w1 ⟨x, y, u, v, h, c, rfl, hin, hcN, hgN⟩
  have R1 := at_grown R0.out hgN hpR hpw
  have hpb' : w.heap.size + 1 < w1.heap.size := hcN.lt
  have hpb : w1.heap.size ≠ w.heap.size + 1 := by omega
  have hbR : w1.heap.size ≠ w.heap.size := by omega
  have B2 := Lib.hid (R1.next 28 #[.int .i64 x, .int .i64 y, .int .i64 u, .int .i64 v, .int .i64 h, .int .i64 c])
  have R2 := Lib.hid (R1.alloc (.cells #[.int .i64 x, .int .i64 y, .int .i64 u, .int .i64 v, .int .i64 h, .int .i64 c] 28))
  have HC2 := Lib.hid (Cur.alloc hcN (.cells #[.int .i64 x, .int .i64 y, .int .i64 u, .int .i64 v, .int .i64 h, .int .i64 c] 28))
  clear hcN hgN R0 HC0 R1 hpb'
  go_upto_region 3 with fail
  generalize w1.alloc (.cells #[.int .i64 x, .int .i64 y, .int .i64 u, .int .i64 v, .int .i64 h, .int .i64 c] 28) = W2 at *
  generalize w1.heap.size = b at *
  generalize w.heap.size + 1 = p at *
  go_wp2_with fail
  refine (one p 60 2 W2 HC2.out (by omega) (by omega) (by omega)).mono ?_
  rintro e w3 ⟨k, rfl, hcN, hgN⟩
  have R3 := Lib.hid (at_grown R2.out hgN hpR hpw)
  have B3 := Lib.hid (at_grown B2.out hgN hpb hpw)
  have HC3 := Lib.hid hcN
  clear hcN hgN R2 B2 HC2
  cases k
  · go_upto_region 5 with fail
    have HKL := Lib.hid (show ∀ x ∈ ([0, 100, 5000, 9899, -1, 9900] : List Int), -1 ≤ x ∧ x ≤ 9900 by decide)
    have R4 := Lib.hid R3.out.drew
    have B4 := Lib.hid B3.out.drew
    have HC4 := Lib.hid (HC3.out.keep (Below.refl _ _).drew)
    clear R3 B3 HC3
    have BS := Blk.of_s B4.out
    refine wp_region_tail (S := fun w' => Blk 28 #[.int .i64 x, .int .i64 y, .int .i64 u, .int .i64 v, .int .i64 h, .int .i64 c] w' b) 5 (by kernel_rfl) BS (fun hHeld => ?_)
    generalize w3.drew = w4 at *
    try simp only [Act.put]
    refine wpAnyE_take (i := 0) (v := ?vqa0) rfl (by decide +kernel) (fun _ _ _ h => h) (Or.inl ⟨by rfl, ?hqa0⟩) (by assumption) ?rqa0
    case hqa0 =>
      intro wS hSw
      have m0_ := hSw.cell 0 _ rfl
      have m1_ := hSw.cell 1 _ rfl
      have m2_ := hSw.cell 2 _ rfl
      have m3_ := hSw.cell 3 _ rfl
      have m4_ := hSw.cell 4 _ rfl
      have m5_ := hSw.cell 5 _ rfl
      go_simp
      try with_reducible rfl
    try simp only [Act.put]
    refine wpAnyE_take (i := 1) (v := ?vqa1) rfl (by decide +kernel) (fun _ _ _ h => h) (Or.inl ⟨by rfl, ?hqa1⟩) (by assumption) ?rqa1
    case hqa1 =>
      intro wS hSw
      have m0_ := hSw.cell 0 _ rfl
      have m1_ := hSw.cell 1 _ rfl
      have m2_ := hSw.cell 2 _ rfl
      have m3_ := hSw.cell 3 _ rfl
      have m4_ := hSw.cell 4 _ rfl
      have m5_ := hSw.cell 5 _ rfl
      go_simp
      try with_reducible rfl
    try simp only [Act.put]
    refine wpAnyE_ready (rs := [2]) (by kernel_rfl) (by simp) ?_
    refine AllReadyE.cons (i := 2) rfl (by decide) (fun K hK => ?_) AllReadyE.nil
    go_simp
    refine hK.out _ _ ((Blk.of_s B4.out).alloc _) (fun hHeld => ?_)
    clear hK K
    try simp only [Act.put]
    refine wpAnyE_ready (rs := [3]) (by kernel_rfl) (by simp) ?_
    refine AllReadyE.cons (i := 3) rfl (by decide) (fun K hK => ?_) AllReadyE.nil
    go_simp
    refine (among_new (-1) 9900 p _ 6 [0, 100, 5000, 9899, -1, 9900] _ w4 HC4.out (by omega) (by omega) (by omega) rfl rfl HKL.out).mono ?_
    rintro e w5 ⟨t, rfl, t0, t1, hcN, hgN⟩
    have R5 := Lib.hid (at_grown R4.out hgN hpR hpw)
    have B5 := Lib.hid (at_grown B4.out hgN hpb hpw)
    have HC5 := Lib.hid hcN
    clear hcN hgN R4 B4 HC4
    refine hK.out _ _ (Blk.of_s B5.out) (fun hHeld => ?_)
    clear hK K
    try simp only [Act.put]
    have r0_ : w5.cell? ⟨w.heap.size, 0, none⟩ = some (.int .i64 0) := R5.out.cell 0
    have rf0_ := R5.out.frozen 0
    have r1_ : w5.cell? ⟨w.heap.size, 1, none⟩ = some (.int .i64 0) := R5.out.cell 1
    have rf1_ := R5.out.frozen 1
    have r2_ : w5.cell? ⟨w.heap.size, 2, none⟩ = some (.int .i64 0) := R5.out.cell 2
    have rf2_ := R5.out.frozen 2
    have r3_ : w5.cell? ⟨w.heap.size, 3, none⟩ = some (.int .i64 0) := R5.out.cell 3
    have rf3_ := R5.out.frozen 3
    have r4_ : w5.cell? ⟨w.heap.size, 4, none⟩ = some (.int .i64 0) := R5.out.cell 4
    have rf4_ := R5.out.frozen 4
    have r5_ : w5.cell? ⟨w.heap.size, 5, none⟩ = some (.int .i64 0) := R5.out.cell 5
    have rf5_ := R5.out.frozen 5
    refine wpAnyE_ready (rs := [4]) (by kernel_rfl) (by simp) ?_
    refine AllReadyE.cons (i := 4) rfl (by decide) (fun K hK => ?_) AllReadyE.nil
    go_simp
    refine hK.out _ _ (((((((Blk.of_s B5.out).other hbR 0 (.int .i64 x)).other hbR 1 (.int .i64 y)).other hbR 2 (.int .i64 u)).other hbR 3 (.int .i64 v)).other hbR 4 (.int .i64 h)).other hbR 5 (.int .i64 c)) (fun hHeld => ?_)
    clear hK K
    try simp only [Act.put]
    refine wpAnyE_ready (rs := [5]) (by kernel_rfl) (by simp) ?_
    refine AllReadyE.last (i := 5) rfl rfl (fun K hK => ?_)
    go_simp
    refine hK.out _ _ ?_
    clear hK K
    try simp only [Act.put]
    refine wpAnyE_done (by kernel_rfl) ?_ _
    try simp only [List.getElem_toArray, List.getElem_cons_succ, List.getElem_cons_zero, List.setIfInBounds_toArray, List.set_cons_succ, List.set_cons_zero]
    have HE := Lib.hid ((((((R5.out.set 0 (.int .i64 x)).set 1 (.int .i64 y)).set 2 (.int .i64 u)).set 3 (.int .i64 v)).set 4 (.int .i64 h)).set 5 (.int .i64 c))
    go_wp2_with fail
    have hl := HE.out.load Try.underlying28 rfl (by kernel_rfl)
    refine bodyPost_ret (v := .tuple #[.agg #[.int .i64 x, .int .i64 y, .int .i64 u, .int .i64 v, .int .i64 h, .int .i64 c], .int .i64 (t)]) ?_ rfl ⟨_, _, _, _, _, _, _, rfl, HE.out.1⟩
    rw [results_cell_tmp rfl]
    simp [asAddr, Result.andThen, hl]
  · go_upto_region 4 with fail
    have HKL := Lib.hid (show ∀ x ∈ ([0, 1, 2, 5] : List Int), 0 ≤ x ∧ x ≤ 5 by decide)
    obtain ⟨⟨⟨x0, x1⟩, -⟩, ⟨⟨u0, u1⟩, -⟩, -⟩ := hin
    have R4 := Lib.hid R3.out.drew
    have B4 := Lib.hid B3.out.drew
    have HC4 := Lib.hid (HC3.out.keep (Below.refl _ _).drew)
    clear R3 B3 HC3
    have BS := Blk.of_s B4.out
    refine wp_region_tail (S := fun w' => Blk 28 #[.int .i64 x, .int .i64 y, .int .i64 u, .int .i64 v, .int .i64 h, .int .i64 c] w' b) 16 (by kernel_rfl) BS (fun hHeld => ?_)
    generalize w3.drew = w4 at *
    try simp only [Act.put]
    refine wpAnyE_take (i := 0) (v := ?vqb0) rfl (by decide +kernel) (fun _ _ _ h => h) (Or.inl ⟨by rfl, ?hqb0⟩) (by assumption) ?rqb0
    case hqb0 =>
      intro wS hSw
      have m0_ := hSw.cell 0 _ rfl
      have m1_ := hSw.cell 1 _ rfl
      have m2_ := hSw.cell 2 _ rfl
      have m3_ := hSw.cell 3 _ rfl
      have m4_ := hSw.cell 4 _ rfl
      have m5_ := hSw.cell 5 _ rfl
      go_simp
      try with_reducible rfl
    try simp only [Act.put]
    refine wpAnyE_take (i := 1) (v := ?vqb1) rfl (by decide +kernel) (fun _ _ _ h => h) (Or.inl ⟨by rfl, ?hqb1⟩) (by assumption) ?rqb1
    case hqb1 =>
      intro wS hSw
      have m0_ := hSw.cell 0 _ rfl
      have m1_ := hSw.cell 1 _ rfl
      have m2_ := hSw.cell 2 _ rfl
      have m3_ := hSw.cell 3 _ rfl
      have m4_ := hSw.cell 4 _ rfl
      have m5_ := hSw.cell 5 _ rfl
      go_simp
      try with_reducible rfl
    try simp only [Act.put]
    refine wpAnyE_take (i := 2) (v := ?vqb2) rfl (by decide +kernel) (fun _ _ _ h => h) (Or.inl ⟨by rfl, ?hqb2⟩) (by assumption) ?rqb2
    case hqb2 =>
      intro wS hSw
      have m0_ := hSw.cell 0 _ rfl
      have m1_ := hSw.cell 1 _ rfl
      have m2_ := hSw.cell 2 _ rfl
      have m3_ := hSw.cell 3 _ rfl
      have m4_ := hSw.cell 4 _ rfl
      have m5_ := hSw.cell 5 _ rfl
      go_simp
      try with_reducible rfl
    try simp only [Act.put]
    refine wpAnyE_take (i := 3) (v := ?vqb3) rfl (by decide +kernel) (fun _ _ _ h => h) (Or.inl ⟨by rfl, ?hqb3⟩) (by assumption) ?rqb3
    case hqb3 =>
      intro wS hSw
      have m0_ := hSw.cell 0 _ rfl
      have m1_ := hSw.cell 1 _ rfl
      have m2_ := hSw.cell 2 _ rfl
      have m3_ := hSw.cell 3 _ rfl
      have m4_ := hSw.cell 4 _ rfl
      have m5_ := hSw.cell 5 _ rfl
      go_simp
      try with_reducible rfl
    try simp only [Act.put]
    refine wpAnyE_take (i := 4) (v := ?vqb4) rfl (by decide +kernel) (fun _ _ _ h => h) (Or.inl ⟨by rfl, ?hqb4⟩) (by assumption) ?rqb4
    case hqb4 =>
      intro wS hSw
      have m0_ := hSw.cell 0 _ rfl
      have m1_ := hSw.cell 1 _ rfl
      have m2_ := hSw.cell 2 _ rfl
      have m3_ := hSw.cell 3 _ rfl
      have m4_ := hSw.cell 4 _ rfl
      have m5_ := hSw.cell 5 _ rfl
      go_simp
      try with_reducible rfl
    try simp only [Act.put]
    refine wpAnyE_take (i := 5) (v := ?vqb5) rfl (by decide +kernel) (fun _ _ _ h => h) (Or.inl ⟨by rfl, ?hqb5⟩) (by assumption) ?rqb5
    case hqb5 =>
      intro wS hSw
      have m0_ := hSw.cell 0 _ rfl
      have m1_ := hSw.cell 1 _ rfl
      have m2_ := hSw.cell 2 _ rfl
      have m3_ := hSw.cell 3 _ rfl
      have m4_ := hSw.cell 4 _ rfl
      have m5_ := hSw.cell 5 _ rfl
      go_simp
      try with_reducible rfl
    try simp only [Act.put]
    refine wpAnyE_take (i := 6) (v := ?vqb6) rfl (by decide +kernel) (fun _ _ _ h => h) (Or.inl ⟨by rfl, ?hqb6⟩) (by assumption) ?rqb6
    case hqb6 =>
      intro wS hSw
      have m0_ := hSw.cell 0 _ rfl
      have m1_ := hSw.cell 1 _ rfl
      have m2_ := hSw.cell 2 _ rfl
      have m3_ := hSw.cell 3 _ rfl
      have m4_ := hSw.cell 4 _ rfl
      have m5_ := hSw.cell 5 _ rfl
      go_simp
      try with_reducible rfl
    try simp only [Act.put]
    refine wpAnyE_take (i := 7) (v := ?vqb7) rfl (by decide +kernel) (fun _ _ _ h => h) (Or.inl ⟨by rfl, ?hqb7⟩) (by assumption) ?rqb7
    case hqb7 =>
      intro wS hSw
      have m0_ := hSw.cell 0 _ rfl
      have m1_ := hSw.cell 1 _ rfl
      have m2_ := hSw.cell 2 _ rfl
      have m3_ := hSw.cell 3 _ rfl
      have m4_ := hSw.cell 4 _ rfl
      have m5_ := hSw.cell 5 _ rfl
      go_simp
      try with_reducible rfl
    try simp only [Act.put]
    refine wpAnyE_take (i := 12) (v := ?vqb12) rfl (by decide +kernel) (fun _ _ _ h => h) (Or.inl ⟨by rfl, ?hqb12⟩) (by assumption) ?rqb12
    case hqb12 =>
      intro wS hSw
      have m0_ := hSw.cell 0 _ rfl
      have m1_ := hSw.cell 1 _ rfl
      have m2_ := hSw.cell 2 _ rfl
      have m3_ := hSw.cell 3 _ rfl
      have m4_ := hSw.cell 4 _ rfl
      have m5_ := hSw.cell 5 _ rfl
      go_simp
      try with_reducible rfl
    try simp only [Act.put]
    refine wpAnyE_ready (rs := [8]) (by kernel_rfl) (by simp) ?_
    refine AllReadyE.cons (i := 8) rfl (by decide) (fun K hK => ?_) AllReadyE.nil
    go_simp
    refine hK.out _ _ ((Blk.of_s B4.out).alloc _) (fun hHeld => ?_)
    clear hK K
    try simp only [Act.put]
    refine wpAnyE_ready (rs := [9]) (by kernel_rfl) (by simp) ?_
    refine AllReadyE.cons (i := 9) rfl (by decide) (fun K hK => ?_) AllReadyE.nil
    go_simp
    refine (among_new (0) 5 p _ 4 [0, 1, 2, 5] _ w4 HC4.out (by omega) (by omega) (by omega) rfl rfl HKL.out).mono ?_
    rintro e w5 ⟨r, rfl, r0, r1, hcN, hgN⟩
    have R5 := Lib.hid (at_grown R4.out hgN hpR hpw)
    have B5 := Lib.hid (at_grown B4.out hgN hpb hpw)
    have HC5 := Lib.hid hcN
    clear hcN hgN R4 B4 HC4
    refine hK.out _ _ (Blk.of_s B5.out) (fun hHeld => ?_)
    clear hK K
    try simp only [Act.put]
    have hP := mot.mul_le (a := u) (b := r) (M := 201) (N := 5) ⟨by omega, by omega⟩ ⟨by omega, r1⟩
    generalize hPr : u * r = P at *
    have e1 : IntKind.i64.wrap P = P := IntWalk.i64_in _ (by omega)
    have e2 : IntKind.i64.wrap (x + P) = x + P := IntWalk.i64_in _ (by omega)
    refine wpAnyE_take (i := 10) (v := ?vqb10) rfl (by decide +kernel) (fun _ _ _ h => h) (Or.inl ⟨by rfl, ?hqb10⟩) (by assumption) ?rqb10
    case hqb10 =>
      intro wS hSw
      have m0_ := hSw.cell 0 _ rfl
      have m1_ := hSw.cell 1 _ rfl
      have m2_ := hSw.cell 2 _ rfl
      have m3_ := hSw.cell 3 _ rfl
      have m4_ := hSw.cell 4 _ rfl
      have m5_ := hSw.cell 5 _ rfl
      go_simp
      try with_reducible rfl
    try simp only [Act.put]
    refine wpAnyE_take (i := 11) (v := ?vqb11) rfl (by decide +kernel) (fun _ _ _ h => h) (Or.inl ⟨by rfl, ?hqb11⟩) (by assumption) ?rqb11
    case hqb11 =>
      intro wS hSw
      have m0_ := hSw.cell 0 _ rfl
      have m1_ := hSw.cell 1 _ rfl
      have m2_ := hSw.cell 2 _ rfl
      have m3_ := hSw.cell 3 _ rfl
      have m4_ := hSw.cell 4 _ rfl
      have m5_ := hSw.cell 5 _ rfl
      go_simp
      try with_reducible rfl
    try simp only [Act.put]
    refine wpAnyE_ready (rs := [13]) (by kernel_rfl) (by simp) ?_
    refine AllReadyE.cons (i := 13) rfl (by decide) (fun K hK => ?_) AllReadyE.nil
    go_simp
    refine (pick p _ 3 w5 HC5.out (by omega) (by omega) (by omega)).mono ?_
    rintro e w6 ⟨q, rfl, q0, q1, hcN, hgN⟩
    have R6 := Lib.hid (at_grown R5.out hgN hpR hpw)
    have B6 := Lib.hid (at_grown B5.out hgN hpb hpw)
    have HC6 := Lib.hid hcN
    clear hcN hgN R5 B5 HC5
    refine hK.out _ _ (Blk.of_s B6.out) (fun hHeld => ?_)
    clear hK K
    try simp only [Act.put]
    have e3 : IntKind.i64.wrap (x + P + q) = x + P + q := IntWalk.i64_in _ (by omega)
    refine wpAnyE_take (i := 14) (v := ?vqb14) rfl (by decide +kernel) (fun _ _ _ h => h) (Or.inl ⟨by rfl, ?hqb14⟩) (by assumption) ?rqb14
    case hqb14 =>
      intro wS hSw
      have m0_ := hSw.cell 0 _ rfl
      have m1_ := hSw.cell 1 _ rfl
      have m2_ := hSw.cell 2 _ rfl
      have m3_ := hSw.cell 3 _ rfl
      have m4_ := hSw.cell 4 _ rfl
      have m5_ := hSw.cell 5 _ rfl
      go_simp
      try with_reducible rfl
    try simp only [Act.put]
    have r0_ : w6.cell? ⟨w.heap.size, 0, none⟩ = some (.int .i64 0) := R6.out.cell 0
    have rf0_ := R6.out.frozen 0
    have r1_ : w6.cell? ⟨w.heap.size, 1, none⟩ = some (.int .i64 0) := R6.out.cell 1
    have rf1_ := R6.out.frozen 1
    have r2_ : w6.cell? ⟨w.heap.size, 2, none⟩ = some (.int .i64 0) := R6.out.cell 2
    have rf2_ := R6.out.frozen 2
    have r3_ : w6.cell? ⟨w.heap.size, 3, none⟩ = some (.int .i64 0) := R6.out.cell 3
    have rf3_ := R6.out.frozen 3
    have r4_ : w6.cell? ⟨w.heap.size, 4, none⟩ = some (.int .i64 0) := R6.out.cell 4
    have rf4_ := R6.out.frozen 4
    have r5_ : w6.cell? ⟨w.heap.size, 5, none⟩ = some (.int .i64 0) := R6.out.cell 5
    have rf5_ := R6.out.frozen 5
    refine wpAnyE_ready (rs := [15]) (by kernel_rfl) (by simp) ?_
    refine AllReadyE.cons (i := 15) rfl (by decide) (fun K hK => ?_) AllReadyE.nil
    go_simp
    refine hK.out _ _ (((((((Blk.of_s B6.out).other hbR 0 (.int .i64 x)).other hbR 1 (.int .i64 y)).other hbR 2 (.int .i64 u)).other hbR 3 (.int .i64 v)).other hbR 4 (.int .i64 h)).other hbR 5 (.int .i64 c)) (fun hHeld => ?_)
    clear hK K
    try simp only [Act.put]
    refine wpAnyE_ready (rs := [16]) (by kernel_rfl) (by simp) ?_
    refine AllReadyE.last (i := 16) rfl rfl (fun K hK => ?_)
    go_simp
    refine hK.out _ _ ?_
    clear hK K
    try simp only [Act.put]
    refine wpAnyE_done (by kernel_rfl) ?_ _
    try simp only [List.getElem_toArray, List.getElem_cons_succ, List.getElem_cons_zero, List.setIfInBounds_toArray, List.set_cons_succ, List.set_cons_zero]
    have HE := Lib.hid ((((((R6.out.set 0 (.int .i64 x)).set 1 (.int .i64 y)).set 2 (.int .i64 u)).set 3 (.int .i64 v)).set 4 (.int .i64 h)).set 5 (.int .i64 c))
    go_wp2_with fail
    have hl := HE.out.load Try.underlying28 rfl (by kernel_rfl)
    refine bodyPost_ret (v := .tuple #[.agg #[.int .i64 x, .int .i64 y, .int .i64 u, .int .i64 v, .int .i64 h, .int .i64 c], .int .i64 (x + P + q)]) ?_ rfl ⟨_, _, _, _, _, _, _, rfl, HE.out.1⟩
    rw [results_cell_tmp rfl]
    simp [asAddr, Result.andThen, hl]

theorem in_heights {h c : Int} (h0 : -2001 ≤ h) (h1 : h ≤ 130001) (c0 : -6001 ≤ c) (c1 : c ≤ 6001) : ∀ x ∈ ([h, h + c, h + 60 * c, h + 60 * c + 1, 5000, 36000, 130001] : List Int), -500000 ≤ x ∧ x ≤ 500000 := by
  intro x hx
  simp only [List.mem_cons, List.not_mem_nil, or_false] at hx
  omega
set_option maxRecDepth 100000 in
set_option maxHeartbeats 8000000 in
theorem timeToHeight (A : Option Addr) (n c0 : Nat) (w : World) (hn : n ≤ 65536) (h : Bytes w w.heap.size A n) :
    Calls Try.prog 19 #[.slice A n c0] w (MotInt w) := by
  have R0 := Lib.hid ((newS 28 #[.int .i64 0, .int .i64 0, .int .i64 0, .int .i64 0, .int .i64 0, .int .i64 0] w).alloc (.cells #[.slice A n c0, .int .i64 0, .int .u64 0] 62))
  have hc := new_cur c0 (by omega) (bytes_al (.cells #[.int .i64 0, .int .i64 0, .int .i64 0, .int .i64 0, .int .i64 0, .int .i64 0] 28) h)
  rw [World.size_alloc] at hc
  have HC0 := Lib.hid hc
  have hpw : w.heap.size ≤ w.heap.size + 1 := by omega
  have hpR : w.heap.size ≠ w.heap.size + 1 := by omega
  clear h hc
  go_enter Try.func19, Try.ntmps19
  go_wp2_with fail
  generalize (w.alloc (.cells #[.int .i64 0, .int .i64 0, .int .i64 0, .int .i64 0, .int .i64 0, .int .i64 0] 28)).alloc (.cells #[.slice A n c0, .int .i64 0, .int .u64 0] 62) = W1 at *
  refine (motion _ 0 W1 HC0.out (by omega)).mono ?_
  rintro e w1 ⟨x, y, u, v, h, c, rfl, hin, hcN, hgN⟩
  have R1 := at_grown R0.out hgN hpR hpw
  have hpb' : w.heap.size + 1 < w1.heap.size := hcN.lt
  have hpb : w1.heap.size ≠ w.heap.size + 1 := by omega
  have hbR : w1.heap.size ≠ w.heap.size := by omega
  have B2 := Lib.hid (R1.next 28 #[.int .i64 x, .int .i64 y, .int .i64 u, .int .i64 v, .int .i64 h, .int .i64 c])
  have R2 := Lib.hid (R1.alloc (.cells #[.int .i64 x, .int .i64 y, .int .i64 u, .int .i64 v, .int .i64 h, .int .i64 c] 28))
  have HC2 := Lib.hid (Cur.alloc hcN (.cells #[.int .i64 x, .int .i64 y, .int .i64 u, .int .i64 v, .int .i64 h, .int .i64 c] 28))
  clear hcN hgN R0 HC0 R1 hpb'
  go_upto_region 3 with fail
  generalize w1.alloc (.cells #[.int .i64 x, .int .i64 y, .int .i64 u, .int .i64 v, .int .i64 h, .int .i64 c] 28) = W2 at *
  generalize w1.heap.size = b at *
  generalize w.heap.size + 1 = p at *
  obtain ⟨-, -, ⟨h0, h1⟩, c1, c2⟩ := hin
  have HKL := Lib.hid (in_heights h0 h1 c1 c2)
  have e1 : IntKind.i64.wrap (h + c) = h + c := IntWalk.i64_in _ (by omega)
  have e2 : IntKind.i64.wrap (60 * c) = 60 * c := IntWalk.i64_in _ (by omega)
  have e3 : IntKind.i64.wrap (h + 60 * c) = h + 60 * c := IntWalk.i64_in _ (by omega)
  have e4 : IntKind.i64.wrap (h + 60 * c + 1) = h + 60 * c + 1 := IntWalk.i64_in _ (by omega)
  have R3 := Lib.hid R2.out.drew
  have B3 := Lib.hid B2.out.drew
  have HC3 := Lib.hid (HC2.out.keep (Below.refl _ _).drew)
  clear R2 B2 HC2
  have BS := Blk.of_s B3.out
  refine wp_region_tail (S := fun w' => Blk 28 #[.int .i64 x, .int .i64 y, .int .i64 u, .int .i64 v, .int .i64 h, .int .i64 c] w' b) 25 (by kernel_rfl) BS (fun hHeld => ?_)
  generalize W2.drew = w4 at *
  try simp only [Act.put]
  refine wpAnyE_take (i := 0) (v := ?vqc0) rfl (by decide +kernel) (fun _ _ _ h => h) (Or.inl ⟨by rfl, ?hqc0⟩) (by assumption) ?rqc0
  case hqc0 =>
    intro wS hSw
    have m0_ := hSw.cell 0 _ rfl
    have m1_ := hSw.cell 1 _ rfl
    have m2_ := hSw.cell 2 _ rfl
    have m3_ := hSw.cell 3 _ rfl
    have m4_ := hSw.cell 4 _ rfl
    have m5_ := hSw.cell 5 _ rfl
    go_simp
    try with_reducible rfl
  try simp only [Act.put]
  refine wpAnyE_take (i := 1) (v := ?vqc1) rfl (by decide +kernel) (fun _ _ _ h => h) (Or.inl ⟨by rfl, ?hqc1⟩) (by assumption) ?rqc1
  case hqc1 =>
    intro wS hSw
    have m0_ := hSw.cell 0 _ rfl
    have m1_ := hSw.cell 1 _ rfl
    have m2_ := hSw.cell 2 _ rfl
    have m3_ := hSw.cell 3 _ rfl
    have m4_ := hSw.cell 4 _ rfl
    have m5_ := hSw.cell 5 _ rfl
    go_simp
    try with_reducible rfl
  try simp only [Act.put]
  refine wpAnyE_take (i := 2) (v := ?vqc2) rfl (by decide +kernel) (fun _ _ _ h => h) (Or.inl ⟨by rfl, ?hqc2⟩) (by assumption) ?rqc2
  case hqc2 =>
    intro wS hSw
    have m0_ := hSw.cell 0 _ rfl
    have m1_ := hSw.cell 1 _ rfl
    have m2_ := hSw.cell 2 _ rfl
    have m3_ := hSw.cell 3 _ rfl
    have m4_ := hSw.cell 4 _ rfl
    have m5_ := hSw.cell 5 _ rfl
    go_simp
    try with_reducible rfl
  try simp only [Act.put]
  refine wpAnyE_take (i := 3) (v := ?vqc3) rfl (by decide +kernel) (fun _ _ _ h => h) (Or.inl ⟨by rfl, ?hqc3⟩) (by assumption) ?rqc3
  case hqc3 =>
    intro wS hSw
    have m0_ := hSw.cell 0 _ rfl
    have m1_ := hSw.cell 1 _ rfl
    have m2_ := hSw.cell 2 _ rfl
    have m3_ := hSw.cell 3 _ rfl
    have m4_ := hSw.cell 4 _ rfl
    have m5_ := hSw.cell 5 _ rfl
    go_simp
    try with_reducible rfl
  try simp only [Act.put]
  refine wpAnyE_take (i := 4) (v := ?vqc4) rfl (by decide +kernel) (fun _ _ _ h => h) (Or.inl ⟨by rfl, ?hqc4⟩) (by assumption) ?rqc4
  case hqc4 =>
    intro wS hSw
    have m0_ := hSw.cell 0 _ rfl
    have m1_ := hSw.cell 1 _ rfl
    have m2_ := hSw.cell 2 _ rfl
    have m3_ := hSw.cell 3 _ rfl
    have m4_ := hSw.cell 4 _ rfl
    have m5_ := hSw.cell 5 _ rfl
    go_simp
    try with_reducible rfl
  try simp only [Act.put]
  refine wpAnyE_take (i := 5) (v := ?vqc5) rfl (by decide +kernel) (fun _ _ _ h => h) (Or.inl ⟨by rfl, ?hqc5⟩) (by assumption) ?rqc5
  case hqc5 =>
    intro wS hSw
    have m0_ := hSw.cell 0 _ rfl
    have m1_ := hSw.cell 1 _ rfl
    have m2_ := hSw.cell 2 _ rfl
    have m3_ := hSw.cell 3 _ rfl
    have m4_ := hSw.cell 4 _ rfl
    have m5_ := hSw.cell 5 _ rfl
    go_simp
    try with_reducible rfl
  try simp only [Act.put]
  refine wpAnyE_take (i := 6) (v := ?vqc6) rfl (by decide +kernel) (fun _ _ _ h => h) (Or.inl ⟨by rfl, ?hqc6⟩) (by assumption) ?rqc6
  case hqc6 =>
    intro wS hSw
    have m0_ := hSw.cell 0 _ rfl
    have m1_ := hSw.cell 1 _ rfl
    have m2_ := hSw.cell 2 _ rfl
    have m3_ := hSw.cell 3 _ rfl
    have m4_ := hSw.cell 4 _ rfl
    have m5_ := hSw.cell 5 _ rfl
    go_simp
    try with_reducible rfl
  try simp only [Act.put]
  refine wpAnyE_take (i := 7) (v := ?vqc7) rfl (by decide +kernel) (fun _ _ _ h => h) (Or.inl ⟨by rfl, ?hqc7⟩) (by assumption) ?rqc7
  case hqc7 =>
    intro wS hSw
    have m0_ := hSw.cell 0 _ rfl
    have m1_ := hSw.cell 1 _ rfl
    have m2_ := hSw.cell 2 _ rfl
    have m3_ := hSw.cell 3 _ rfl
    have m4_ := hSw.cell 4 _ rfl
    have m5_ := hSw.cell 5 _ rfl
    go_simp
    try with_reducible rfl
  try simp only [Act.put]
  refine wpAnyE_take (i := 8) (v := ?vqc8) rfl (by decide +kernel) (fun _ _ _ h => h) (Or.inl ⟨by rfl, ?hqc8⟩) (by assumption) ?rqc8
  case hqc8 =>
    intro wS hSw
    have m0_ := hSw.cell 0 _ rfl
    have m1_ := hSw.cell 1 _ rfl
    have m2_ := hSw.cell 2 _ rfl
    have m3_ := hSw.cell 3 _ rfl
    have m4_ := hSw.cell 4 _ rfl
    have m5_ := hSw.cell 5 _ rfl
    go_simp
    try with_reducible rfl
  try simp only [Act.put]
  refine wpAnyE_take (i := 9) (v := ?vqc9) rfl (by decide +kernel) (fun _ _ _ h => h) (Or.inl ⟨by rfl, ?hqc9⟩) (by assumption) ?rqc9
  case hqc9 =>
    intro wS hSw
    have m0_ := hSw.cell 0 _ rfl
    have m1_ := hSw.cell 1 _ rfl
    have m2_ := hSw.cell 2 _ rfl
    have m3_ := hSw.cell 3 _ rfl
    have m4_ := hSw.cell 4 _ rfl
    have m5_ := hSw.cell 5 _ rfl
    go_simp
    try with_reducible rfl
  try simp only [Act.put]
  refine wpAnyE_take (i := 10) (v := ?vqc10) rfl (by decide +kernel) (fun _ _ _ h => h) (Or.inl ⟨by rfl, ?hqc10⟩) (by assumption) ?rqc10
  case hqc10 =>
    intro wS hSw
    have m0_ := hSw.cell 0 _ rfl
    have m1_ := hSw.cell 1 _ rfl
    have m2_ := hSw.cell 2 _ rfl
    have m3_ := hSw.cell 3 _ rfl
    have m4_ := hSw.cell 4 _ rfl
    have m5_ := hSw.cell 5 _ rfl
    go_simp
    try with_reducible rfl
  try simp only [Act.put]
  refine wpAnyE_take (i := 11) (v := ?vqc11) rfl (by decide +kernel) (fun _ _ _ h => h) (Or.inl ⟨by rfl, ?hqc11⟩) (by assumption) ?rqc11
  case hqc11 =>
    intro wS hSw
    have m0_ := hSw.cell 0 _ rfl
    have m1_ := hSw.cell 1 _ rfl
    have m2_ := hSw.cell 2 _ rfl
    have m3_ := hSw.cell 3 _ rfl
    have m4_ := hSw.cell 4 _ rfl
    have m5_ := hSw.cell 5 _ rfl
    go_simp
    try with_reducible rfl
  try simp only [Act.put]
  refine wpAnyE_take (i := 12) (v := ?vqc12) rfl (by decide +kernel) (fun _ _ _ h => h) (Or.inl ⟨by rfl, ?hqc12⟩) (by assumption) ?rqc12
  case hqc12 =>
    intro wS hSw
    have m0_ := hSw.cell 0 _ rfl
    have m1_ := hSw.cell 1 _ rfl
    have m2_ := hSw.cell 2 _ rfl
    have m3_ := hSw.cell 3 _ rfl
    have m4_ := hSw.cell 4 _ rfl
    have m5_ := hSw.cell 5 _ rfl
    go_simp
    try with_reducible rfl
  try simp only [Act.put]
  refine wpAnyE_take (i := 13) (v := ?vqc13) rfl (by decide +kernel) (fun _ _ _ h => h) (Or.inl ⟨by rfl, ?hqc13⟩) (by assumption) ?rqc13
  case hqc13 =>
    intro wS hSw
    have m0_ := hSw.cell 0 _ rfl
    have m1_ := hSw.cell 1 _ rfl
    have m2_ := hSw.cell 2 _ rfl
    have m3_ := hSw.cell 3 _ rfl
    have m4_ := hSw.cell 4 _ rfl
    have m5_ := hSw.cell 5 _ rfl
    go_simp
    try with_reducible rfl
  try simp only [Act.put]
  refine wpAnyE_take (i := 14) (v := ?vqc14) rfl (by decide +kernel) (fun _ _ _ h => h) (Or.inl ⟨by rfl, ?hqc14⟩) (by assumption) ?rqc14
  case hqc14 =>
    intro wS hSw
    have m0_ := hSw.cell 0 _ rfl
    have m1_ := hSw.cell 1 _ rfl
    have m2_ := hSw.cell 2 _ rfl
    have m3_ := hSw.cell 3 _ rfl
    have m4_ := hSw.cell 4 _ rfl
    have m5_ := hSw.cell 5 _ rfl
    go_simp
    try with_reducible rfl
  try simp only [Act.put]
  refine wpAnyE_take (i := 15) (v := ?vqc15) rfl (by decide +kernel) (fun _ _ _ h => h) (Or.inl ⟨by rfl, ?hqc15⟩) (by assumption) ?rqc15
  case hqc15 =>
    intro wS hSw
    have m0_ := hSw.cell 0 _ rfl
    have m1_ := hSw.cell 1 _ rfl
    have m2_ := hSw.cell 2 _ rfl
    have m3_ := hSw.cell 3 _ rfl
    have m4_ := hSw.cell 4 _ rfl
    have m5_ := hSw.cell 5 _ rfl
    go_simp
    try with_reducible rfl
  try simp only [Act.put]
  refine wpAnyE_take (i := 16) (v := ?vqc16) rfl (by decide +kernel) (fun _ _ _ h => h) (Or.inl ⟨by rfl, ?hqc16⟩) (by assumption) ?rqc16
  case hqc16 =>
    intro wS hSw
    have m0_ := hSw.cell 0 _ rfl
    have m1_ := hSw.cell 1 _ rfl
    have m2_ := hSw.cell 2 _ rfl
    have m3_ := hSw.cell 3 _ rfl
    have m4_ := hSw.cell 4 _ rfl
    have m5_ := hSw.cell 5 _ rfl
    go_simp
    try with_reducible rfl
  try simp only [Act.put]
  refine wpAnyE_take (i := 17) (v := ?vqc17) rfl (by decide +kernel) (fun _ _ _ h => h) (Or.inl ⟨by rfl, ?hqc17⟩) (by assumption) ?rqc17
  case hqc17 =>
    intro wS hSw
    have m0_ := hSw.cell 0 _ rfl
    have m1_ := hSw.cell 1 _ rfl
    have m2_ := hSw.cell 2 _ rfl
    have m3_ := hSw.cell 3 _ rfl
    have m4_ := hSw.cell 4 _ rfl
    have m5_ := hSw.cell 5 _ rfl
    go_simp
    try with_reducible rfl
  try simp only [Act.put]
  refine wpAnyE_take (i := 18) (v := ?vqc18) rfl (by decide +kernel) (fun _ _ _ h => h) (Or.inl ⟨by rfl, ?hqc18⟩) (by assumption) ?rqc18
  case hqc18 =>
    intro wS hSw
    have m0_ := hSw.cell 0 _ rfl
    have m1_ := hSw.cell 1 _ rfl
    have m2_ := hSw.cell 2 _ rfl
    have m3_ := hSw.cell 3 _ rfl
    have m4_ := hSw.cell 4 _ rfl
    have m5_ := hSw.cell 5 _ rfl
    go_simp
    try with_reducible rfl
  try simp only [Act.put]
  refine wpAnyE_take (i := 19) (v := ?vqc19) rfl (by decide +kernel) (fun _ _ _ h => h) (Or.inl ⟨by rfl, ?hqc19⟩) (by assumption) ?rqc19
  case hqc19 =>
    intro wS hSw
    have m0_ := hSw.cell 0 _ rfl
    have m1_ := hSw.cell 1 _ rfl
    have m2_ := hSw.cell 2 _ rfl
    have m3_ := hSw.cell 3 _ rfl
    have m4_ := hSw.cell 4 _ rfl
    have m5_ := hSw.cell 5 _ rfl
    go_simp
    try with_reducible rfl
  try simp only [Act.put]
  refine wpAnyE_take (i := 20) (v := ?vqc20) rfl (by decide +kernel) (fun _ _ _ h => h) (Or.inl ⟨by rfl, ?hqc20⟩) (by assumption) ?rqc20
  case hqc20 =>
    intro wS hSw
    have m0_ := hSw.cell 0 _ rfl
    have m1_ := hSw.cell 1 _ rfl
    have m2_ := hSw.cell 2 _ rfl
    have m3_ := hSw.cell 3 _ rfl
    have m4_ := hSw.cell 4 _ rfl
    have m5_ := hSw.cell 5 _ rfl
    go_simp
    try with_reducible rfl
  try simp only [Act.put]
  refine wpAnyE_take (i := 21) (v := ?vqc21) rfl (by decide +kernel) (fun _ _ _ h => h) (Or.inl ⟨by rfl, ?hqc21⟩) (by assumption) ?rqc21
  case hqc21 =>
    intro wS hSw
    have m0_ := hSw.cell 0 _ rfl
    have m1_ := hSw.cell 1 _ rfl
    have m2_ := hSw.cell 2 _ rfl
    have m3_ := hSw.cell 3 _ rfl
    have m4_ := hSw.cell 4 _ rfl
    have m5_ := hSw.cell 5 _ rfl
    go_simp
    try with_reducible rfl
  try simp only [Act.put]
  refine wpAnyE_ready (rs := [22]) (by kernel_rfl) (by simp) ?_
  refine AllReadyE.cons (i := 22) rfl (by decide) (fun K hK => ?_) AllReadyE.nil
  go_simp
  refine hK.out _ _ ((Blk.of_s B3.out).alloc _) (fun hHeld => ?_)
  clear hK K
  try simp only [Act.put]
  refine wpAnyE_ready (rs := [23]) (by kernel_rfl) (by simp) ?_
  refine AllReadyE.cons (i := 23) rfl (by decide) (fun K hK => ?_) AllReadyE.nil
  go_simp
  refine (among_new (-500000) 500000 p _ 7 [h, h + c, h + 60 * c, h + 60 * c + 1, 5000, 36000, 130001] _ w4 HC3.out (by omega) (by omega) (by omega) rfl rfl HKL.out).mono ?_
  rintro e w5 ⟨t, rfl, t0, t1, hcN, hgN⟩
  have R4 := Lib.hid (at_grown R3.out hgN hpR hpw)
  have B4 := Lib.hid (at_grown B3.out hgN hpb hpw)
  have HC4 := Lib.hid hcN
  clear hcN hgN R3 B3 HC3
  refine hK.out _ _ (Blk.of_s B4.out) (fun hHeld => ?_)
  clear hK K
  try simp only [Act.put]
  have r0_ : w5.cell? ⟨w.heap.size, 0, none⟩ = some (.int .i64 0) := R4.out.cell 0
  have rf0_ := R4.out.frozen 0
  have r1_ : w5.cell? ⟨w.heap.size, 1, none⟩ = some (.int .i64 0) := R4.out.cell 1
  have rf1_ := R4.out.frozen 1
  have r2_ : w5.cell? ⟨w.heap.size, 2, none⟩ = some (.int .i64 0) := R4.out.cell 2
  have rf2_ := R4.out.frozen 2
  have r3_ : w5.cell? ⟨w.heap.size, 3, none⟩ = some (.int .i64 0) := R4.out.cell 3
  have rf3_ := R4.out.frozen 3
  have r4_ : w5.cell? ⟨w.heap.size, 4, none⟩ = some (.int .i64 0) := R4.out.cell 4
  have rf4_ := R4.out.frozen 4
  have r5_ : w5.cell? ⟨w.heap.size, 5, none⟩ = some (.int .i64 0) := R4.out.cell 5
  have rf5_ := R4.out.frozen 5
  refine wpAnyE_ready (rs := [24]) (by kernel_rfl) (by simp) ?_
  refine AllReadyE.cons (i := 24) rfl (by decide) (fun K hK => ?_) AllReadyE.nil
  go_simp
  refine hK.out _ _ (((((((Blk.of_s B4.out).other hbR 0 (.int .i64 x)).other hbR 1 (.int .i64 y)).other hbR 2 (.int .i64 u)).other hbR 3 (.int .i64 v)).other hbR 4 (.int .i64 h)).other hbR 5 (.int .i64 c)) (fun hHeld => ?_)
  clear hK K
  try simp only [Act.put]
  refine wpAnyE_ready (rs := [25]) (by kernel_rfl) (by simp) ?_
  refine AllReadyE.last (i := 25) rfl rfl (fun K hK => ?_)
  go_simp
  refine hK.out _ _ ?_
  clear hK K
  try simp only [Act.put]
  refine wpAnyE_done (by kernel_rfl) ?_ _
  try simp only [List.getElem_toArray, List.getElem_cons_succ, List.getElem_cons_zero, List.setIfInBounds_toArray, List.set_cons_succ, List.set_cons_zero]
  have HE := Lib.hid ((((((R4.out.set 0 (.int .i64 x)).set 1 (.int .i64 y)).set 2 (.int .i64 u)).set 3 (.int .i64 v)).set 4 (.int .i64 h)).set 5 (.int .i64 c))
  go_wp2_with fail
  have hl := HE.out.load Try.underlying28 rfl (by kernel_rfl)
  refine bodyPost_ret (v := .tuple #[.agg #[.int .i64 x, .int .i64 y, .int .i64 u, .int .i64 v, .int .i64 h, .int .i64 c], .int .i64 (t)]) ?_ rfl ⟨_, _, _, _, _, _, _, rfl, HE.out.1⟩
  rw [results_cell_tmp rfl]
  simp [asAddr, Result.andThen, hl]

set_option maxRecDepth 100000 in
set_option maxHeartbeats 8000000 in
theorem courseLine (A : Option Addr) (n c0 : Nat) (w : World) (hn : n ≤ 65536) (h : Bytes w w.heap.size A n) :
    Calls Try.prog 36 #[.slice A n c0] w (MotPlace w) := by
  have R0 := Lib.hid (((newS 28 #[.int .i64 0, .int .i64 0, .int .i64 0, .int .i64 0, .int .i64 0, .int .i64 0] w).alloc (.cells #[.int .i64 0, .int .i64 0] 25)).alloc (.cells #[.slice A n c0, .int .i64 0, .int .u64 0] 62))
  have Q0 := Lib.hid (((newS 28 #[.int .i64 0, .int .i64 0, .int .i64 0, .int .i64 0, .int .i64 0, .int .i64 0] w).next 25 #[.int .i64 0, .int .i64 0]).alloc (.cells #[.slice A n c0, .int .i64 0, .int .u64 0] 62))
  rw [World.size_alloc] at Q0
  have hc := new_cur c0 (by omega) (bytes_al (.cells #[.int .i64 0, .int .i64 0] 25) (bytes_al (.cells #[.int .i64 0, .int .i64 0, .int .i64 0, .int .i64 0, .int .i64 0, .int .i64 0] 28) h))
  rw [World.size_alloc, World.size_alloc] at hc
  have HC0 := Lib.hid hc
  have hpw : w.heap.size ≤ w.heap.size + 1 + 1 := by omega
  have hpR : w.heap.size ≠ w.heap.size + 1 + 1 := by omega
  have hpQ : w.heap.size + 1 ≠ w.heap.size + 1 + 1 := by omega
  clear h hc
  go_enter Try.func36, Try.ntmps36
  go_wp2_with fail
  generalize ((w.alloc (.cells #[.int .i64 0, .int .i64 0, .int .i64 0, .int .i64 0, .int .i64 0, .int .i64 0] 28)).alloc (.cells #[.int .i64 0, .int .i64 0] 25)).alloc (.cells #[.slice A n c0, .int .i64 0, .int .u64 0] 62) = W1 at *
  refine (motion _ 0 W1 HC0.out (by omega)).mono ?_
  rintro e w1 ⟨x, y, u, v, h, c, rfl, hin, hcN, hgN⟩
  have R1 := at_grown R0.out hgN hpR hpw
  have hpb' : w.heap.size + 1 + 1 < w1.heap.size := hcN.lt
  have hpb : w1.heap.size ≠ w.heap.size + 1 + 1 := by omega
  have hbR : w1.heap.size ≠ w.heap.size := by omega
  have hbQ : w1.heap.size ≠ w.heap.size + 1 := by omega
  have B2 := Lib.hid (R1.next 28 #[.int .i64 x, .int .i64 y, .int .i64 u, .int .i64 v, .int .i64 h, .int .i64 c])
  have R2 := Lib.hid (R1.alloc (.cells #[.int .i64 x, .int .i64 y, .int .i64 u, .int .i64 v, .int .i64 h, .int .i64 c] 28))
  have HC2 := Lib.hid (Cur.alloc hcN (.cells #[.int .i64 x, .int .i64 y, .int .i64 u, .int .i64 v, .int .i64 h, .int .i64 c] 28))
  have Q2 := Lib.hid ((at_grown Q0.out hgN hpQ hpw).alloc (.cells #[.int .i64 x, .int .i64 y, .int .i64 u, .int .i64 v, .int .i64 h, .int .i64 c] 28))
  clear hcN hgN R0 HC0 R1 hpb' Q0
  go_upto_region 3 with fail
  generalize w1.alloc (.cells #[.int .i64 x, .int .i64 y, .int .i64 u, .int .i64 v, .int .i64 h, .int .i64 c] 28) = W2 at *
  generalize w1.heap.size = b at *
  generalize w.heap.size + 1 + 1 = p at *
  go_wp2_with fail
  refine (one p 60 3 W2 HC2.out (by omega) (by omega) (by omega)).mono ?_
  rintro e w3 ⟨k, rfl, hcN, hgN⟩
  have R3 := Lib.hid (at_grown R2.out hgN hpR hpw)
  have B3 := Lib.hid (at_grown B2.out hgN hpb hpw)
  have HC3 := Lib.hid hcN
  have Q3 := Lib.hid (at_grown Q2.out hgN hpQ hpw)
  clear hcN hgN R2 B2 HC2 Q2
  cases k
  · go_upto_region 5 with fail
    have R4 := Lib.hid R3.out.drew
    have B4 := Lib.hid B3.out.drew
    have HC4 := Lib.hid (HC3.out.keep (Below.refl _ _).drew)
    have Q4 := Lib.hid Q3.out.drew
    clear R3 B3 HC3 Q3
    have BS := Blk.of_s B4.out
    refine wp_region_tail (S := fun w' => Blk 28 #[.int .i64 x, .int .i64 y, .int .i64 u, .int .i64 v, .int .i64 h, .int .i64 c] w' b) 4 (by kernel_rfl) BS (fun hHeld => ?_)
    generalize w3.drew = w4 at *
    try simp only [Act.put]
    refine wpAnyE_take (i := 0) (v := ?vqd0) rfl (by decide +kernel) (fun _ _ _ h => h) (Or.inl ⟨by rfl, ?hqd0⟩) (by assumption) ?rqd0
    case hqd0 =>
      intro wS hSw
      have m0_ := hSw.cell 0 _ rfl
      have m1_ := hSw.cell 1 _ rfl
      have m2_ := hSw.cell 2 _ rfl
      have m3_ := hSw.cell 3 _ rfl
      have m4_ := hSw.cell 4 _ rfl
      have m5_ := hSw.cell 5 _ rfl
      go_simp
      try with_reducible rfl
    try simp only [Act.put]
    refine wpAnyE_take (i := 1) (v := ?vqd1) rfl (by decide +kernel) (fun _ _ _ h => h) (Or.inl ⟨by rfl, ?hqd1⟩) (by assumption) ?rqd1
    case hqd1 =>
      intro wS hSw
      have m0_ := hSw.cell 0 _ rfl
      have m1_ := hSw.cell 1 _ rfl
      have m2_ := hSw.cell 2 _ rfl
      have m3_ := hSw.cell 3 _ rfl
      have m4_ := hSw.cell 4 _ rfl
      have m5_ := hSw.cell 5 _ rfl
      go_simp
      try with_reducible rfl
    try simp only [Act.put]
    refine wpAnyE_ready (rs := [2]) (by kernel_rfl) (by simp) ?_
    refine AllReadyE.cons (i := 2) rfl (by decide) (fun K hK => ?_) AllReadyE.nil
    go_simp
    refine (drawp7.place p _ w4 HC4.out (by omega)).mono ?_
    rintro e w5 ⟨p1, q1, rfl, -, hcN, hgN⟩
    have R5 := Lib.hid (at_grown R4.out hgN hpR hpw)
    have B5 := Lib.hid (at_grown B4.out hgN hpb hpw)
    have HC5 := Lib.hid hcN
    have Q5 := Lib.hid (at_grown Q4.out hgN hpQ hpw)
    clear hcN hgN R4 B4 HC4 Q4
    refine hK.out _ _ (Blk.of_s B5.out) (fun hHeld => ?_)
    clear hK K
    try simp only [Act.put]
    have r0_ : w5.cell? ⟨w.heap.size, 0, none⟩ = some (.int .i64 0) := R5.out.cell 0
    have rf0_ := R5.out.frozen 0
    have r1_ : w5.cell? ⟨w.heap.size, 1, none⟩ = some (.int .i64 0) := R5.out.cell 1
    have rf1_ := R5.out.frozen 1
    have r2_ : w5.cell? ⟨w.heap.size, 2, none⟩ = some (.int .i64 0) := R5.out.cell 2
    have rf2_ := R5.out.frozen 2
    have r3_ : w5.cell? ⟨w.heap.size, 3, none⟩ = some (.int .i64 0) := R5.out.cell 3
    have rf3_ := R5.out.frozen 3
    have r4_ : w5.cell? ⟨w.heap.size, 4, none⟩ = some (.int .i64 0) := R5.out.cell 4
    have rf4_ := R5.out.frozen 4
    have r5_ : w5.cell? ⟨w.heap.size, 5, none⟩ = some (.int .i64 0) := R5.out.cell 5
    have rf5_ := R5.out.frozen 5
    have QN := Lib.hid ((((((Q5.out.other (b' := w.heap.size) (Nat.le_refl _) (Nat.succ_ne_self _) 0 (.int .i64 x)).other (b' := w.heap.size) (Nat.le_refl _) (Nat.succ_ne_self _) 1 (.int .i64 y)).other (b' := w.heap.size) (Nat.le_refl _) (Nat.succ_ne_self _) 2 (.int .i64 u)).other (b' := w.heap.size) (Nat.le_refl _) (Nat.succ_ne_self _) 3 (.int .i64 v)).other (b' := w.heap.size) (Nat.le_refl _) (Nat.succ_ne_self _) 4 (.int .i64 h)).other (b' := w.heap.size) (Nat.le_refl _) (Nat.succ_ne_self _) 5 (.int .i64 c))
    have RN := Lib.hid ((((((R5.out.set 0 (.int .i64 x)).set 1 (.int .i64 y)).set 2 (.int .i64 u)).set 3 (.int .i64 v)).set 4 (.int .i64 h)).set 5 (.int .i64 c))
    have BN := Lib.hid (((((((Blk.of_s B5.out).other hbR 0 (.int .i64 x)).other hbR 1 (.int .i64 y)).other hbR 2 (.int .i64 u)).other hbR 3 (.int .i64 v)).other hbR 4 (.int .i64 h)).other hbR 5 (.int .i64 c))
    clear R5 Q5 B5
    refine wpAnyE_ready (rs := [3]) (by kernel_rfl) (by simp) ?_
    refine AllReadyE.cons (i := 3) rfl (by decide) (fun K hK => ?_) AllReadyE.nil
    go_simp
    refine hK.out _ _ BN.out (fun hHeld => ?_)
    clear hK K
    try simp only [Act.put]
    generalize (((((w5.setCell ⟨w.heap.size, 0, none⟩ (.int .i64 x)).setCell ⟨w.heap.size, 1, none⟩ (.int .i64 y)).setCell ⟨w.heap.size, 2, none⟩ (.int .i64 u)).setCell ⟨w.heap.size, 3, none⟩ (.int .i64 v)).setCell ⟨w.heap.size, 4, none⟩ (.int .i64 h)).setCell ⟨w.heap.size, 5, none⟩ (.int .i64 c) = w9 at *
    clear r0_ rf0_ r1_ rf1_ r2_ rf2_ r3_ rf3_ r4_ rf4_ r5_ rf5_
    have q0_ : w9.cell? ⟨w.heap.size + 1, 0, none⟩ = some (.int .i64 0) := QN.out.cell 0
    have qf0_ := QN.out.frozen 0
    have q1_ : w9.cell? ⟨w.heap.size + 1, 1, none⟩ = some (.int .i64 0) := QN.out.cell 1
    have qf1_ := QN.out.frozen 1
    refine wpAnyE_ready (rs := [4]) (by kernel_rfl) (by simp) ?_
    refine AllReadyE.last (i := 4) rfl rfl (fun K hK => ?_)
    go_simp
    refine hK.out _ _ ?_
    clear hK K
    try simp only [Act.put]
    refine wpAnyE_done (by kernel_rfl) ?_ _
    try simp only [List.getElem_toArray, List.getElem_cons_succ, List.getElem_cons_zero, List.setIfInBounds_toArray, List.set_cons_succ, List.set_cons_zero]
    have HE := Lib.hid ((RN.out.other (b' := w.heap.size + 1) (Nat.le_succ _) (Nat.ne_of_lt (Nat.lt_succ_self _)) 0 (.int .i64 p1)).other (b' := w.heap.size + 1) (Nat.le_succ _) (Nat.ne_of_lt (Nat.lt_succ_self _)) 1 (.int .i64 q1))
    have HF := Lib.hid ((QN.out.set 0 (.int .i64 p1)).set 1 (.int .i64 q1))
    go_wp2_with fail
    have hl := HE.out.load Try.underlying28 rfl (by kernel_rfl)
    have hf := HF.out.load Try.underlying25 rfl (by kernel_rfl)
    refine bodyPost_ret (v := .tuple #[.agg #[.int .i64 x, .int .i64 y, .int .i64 u, .int .i64 v, .int .i64 h, .int .i64 c], .agg #[.int .i64 p1, .int .i64 q1]]) ?_ rfl ⟨_, _, _, _, _, _, _, _, rfl, HE.out.1⟩
    rw [results_cells2 rfl]
    simp [asAddr, Result.andThen, hl, hf]
  · go_upto_region 4 with fail
    obtain ⟨⟨⟨x0, x1⟩, y0, y1⟩, ⟨⟨u0, u1⟩, v0, v1⟩, -⟩ := hin
    have R4 := Lib.hid R3.out.drew
    have B4 := Lib.hid B3.out.drew
    have HC4 := Lib.hid (HC3.out.keep (Below.refl _ _).drew)
    have Q4 := Lib.hid Q3.out.drew
    clear R3 B3 HC3 Q3
    have BS := Blk.of_s B4.out
    refine wp_region_tail (S := fun w' => Blk 28 #[.int .i64 x, .int .i64 y, .int .i64 u, .int .i64 v, .int .i64 h, .int .i64 c] w' b) 6 (by kernel_rfl) BS (fun hHeld => ?_)
    generalize w3.drew = w4 at *
    try simp only [Act.put]
    refine wpAnyE_take (i := 0) (v := ?vqe0) rfl (by decide +kernel) (fun _ _ _ h => h) (Or.inl ⟨by rfl, ?hqe0⟩) (by assumption) ?rqe0
    case hqe0 =>
      intro wS hSw
      have m0_ := hSw.cell 0 _ rfl
      have m1_ := hSw.cell 1 _ rfl
      have m2_ := hSw.cell 2 _ rfl
      have m3_ := hSw.cell 3 _ rfl
      have m4_ := hSw.cell 4 _ rfl
      have m5_ := hSw.cell 5 _ rfl
      go_simp
      try with_reducible rfl
    try simp only [Act.put]
    refine wpAnyE_take (i := 1) (v := ?vqe1) rfl (by decide +kernel) (fun _ _ _ h => h) (Or.inl ⟨by rfl, ?hqe1⟩) (by assumption) ?rqe1
    case hqe1 =>
      intro wS hSw
      have m0_ := hSw.cell 0 _ rfl
      have m1_ := hSw.cell 1 _ rfl
      have m2_ := hSw.cell 2 _ rfl
      have m3_ := hSw.cell 3 _ rfl
      have m4_ := hSw.cell 4 _ rfl
      have m5_ := hSw.cell 5 _ rfl
      go_simp
      try with_reducible rfl
    try simp only [Act.put]
    refine wpAnyE_take (i := 2) (v := ?vqe2) rfl (by decide +kernel) (fun _ _ _ h => h) (Or.inl ⟨by rfl, ?hqe2⟩) (by assumption) ?rqe2
    case hqe2 =>
      intro wS hSw
      have m0_ := hSw.cell 0 _ rfl
      have m1_ := hSw.cell 1 _ rfl
      have m2_ := hSw.cell 2 _ rfl
      have m3_ := hSw.cell 3 _ rfl
      have m4_ := hSw.cell 4 _ rfl
      have m5_ := hSw.cell 5 _ rfl
      go_simp
      try with_reducible rfl
    try simp only [Act.put]
    refine wpAnyE_ready (rs := [3]) (by kernel_rfl) (by simp) ?_
    refine AllReadyE.cons (i := 3) rfl (by decide) (fun K hK => ?_) AllReadyE.nil
    go_simp
    refine (pick p _ 5 w4 HC4.out (by omega) (by omega) (by omega)).mono ?_
    rintro e w5 ⟨k, rfl, k0, k1, hcN, hgN⟩
    have R5 := Lib.hid (at_grown R4.out hgN hpR hpw)
    have B5 := Lib.hid (at_grown B4.out hgN hpb hpw)
    have HC5 := Lib.hid hcN
    have Q5 := Lib.hid (at_grown Q4.out hgN hpQ hpw)
    clear hcN hgN R4 B4 HC4 Q4
    refine hK.out _ _ (Blk.of_s B5.out) (fun hHeld => ?_)
    clear hK K
    try simp only [Act.put]
    have hP := mot.mul_le (a := u) (b := k) (M := 201) (N := 5) ⟨by omega, by omega⟩ ⟨by omega, by omega⟩
    have hQ := mot.mul_le (a := v) (b := k) (M := 201) (N := 5) ⟨by omega, by omega⟩ ⟨by omega, by omega⟩
    have HAT := Lib.hid (fun W => mots.at16 x y u v h c k W (by omega) (by omega) (by omega) (by omega))
    generalize x + u * k = p1 at *
    generalize y + v * k = q1 at *
    refine wpAnyE_ready (rs := [4]) (by kernel_rfl) (by simp) ?_
    refine AllReadyE.cons (i := 4) rfl (by decide) (fun K hK => ?_) AllReadyE.nil
    go_simp
    refine (HAT.out w5).mono ?_
    rintro e w6 ⟨rfl, hb6⟩
    have hcN := Cur.below HC5.out hb6
    have hgN := grown_below (r := some p) hb6
    clear hb6
    have R6 := Lib.hid (at_grown R5.out hgN hpR hpw)
    have B6 := Lib.hid (at_grown B5.out hgN hpb hpw)
    have HC6 := Lib.hid hcN
    have Q6 := Lib.hid (at_grown Q5.out hgN hpQ hpw)
    clear hcN hgN R5 B5 HC5 Q5
    refine hK.out _ _ (Blk.of_s B6.out) (fun hHeld => ?_)
    clear hK K
    try simp only [Act.put]
    have r0_ : w6.cell? ⟨w.heap.size, 0, none⟩ = some (.int .i64 0) := R6.out.cell 0
    have rf0_ := R6.out.frozen 0
    have r1_ : w6.cell? ⟨w.heap.size, 1, none⟩ = some (.int .i64 0) := R6.out.cell 1
    have rf1_ := R6.out.frozen 1
    have r2_ : w6.cell? ⟨w.heap.size, 2, none⟩ = some (.int .i64 0) := R6.out.cell 2
    have rf2_ := R6.out.frozen 2
    have r3_ : w6.cell? ⟨w.heap.size, 3, none⟩ = some (.int .i64 0) := R6.out.cell 3
    have rf3_ := R6.out.frozen 3
    have r4_ : w6.cell? ⟨w.heap.size, 4, none⟩ = some (.int .i64 0) := R6.out.cell 4
    have rf4_ := R6.out.frozen 4
    have r5_ : w6.cell? ⟨w.heap.size, 5, none⟩ = some (.int .i64 0) := R6.out.cell 5
    have rf5_ := R6.out.frozen 5
    have QN := Lib.hid ((((((Q6.out.other (b' := w.heap.size) (Nat.le_refl _) (Nat.succ_ne_self _) 0 (.int .i64 x)).other (b' := w.heap.size) (Nat.le_refl _) (Nat.succ_ne_self _) 1 (.int .i64 y)).other (b' := w.heap.size) (Nat.le_refl _) (Nat.succ_ne_self _) 2 (.int .i64 u)).other (b' := w.heap.size) (Nat.le_refl _) (Nat.succ_ne_self _) 3 (.int .i64 v)).other (b' := w.heap.size) (Nat.le_refl _) (Nat.succ_ne_self _) 4 (.int .i64 h)).other (b' := w.heap.size) (Nat.le_refl _) (Nat.succ_ne_self _) 5 (.int .i64 c))
    have RN := Lib.hid ((((((R6.out.set 0 (.int .i64 x)).set 1 (.int .i64 y)).set 2 (.int .i64 u)).set 3 (.int .i64 v)).set 4 (.int .i64 h)).set 5 (.int .i64 c))
    have BN := Lib.hid (((((((Blk.of_s B6.out).other hbR 0 (.int .i64 x)).other hbR 1 (.int .i64 y)).other hbR 2 (.int .i64 u)).other hbR 3 (.int .i64 v)).other hbR 4 (.int .i64 h)).other hbR 5 (.int .i64 c))
    clear R6 Q6 B6
    refine wpAnyE_ready (rs := [5]) (by kernel_rfl) (by simp) ?_
    refine AllReadyE.cons (i := 5) rfl (by decide) (fun K hK => ?_) AllReadyE.nil
    go_simp
    refine hK.out _ _ BN.out (fun hHeld => ?_)
    clear hK K
    try simp only [Act.put]
    generalize (((((w6.setCell ⟨w.heap.size, 0, none⟩ (.int .i64 x)).setCell ⟨w.heap.size, 1, none⟩ (.int .i64 y)).setCell ⟨w.heap.size, 2, none⟩ (.int .i64 u)).setCell ⟨w.heap.size, 3, none⟩ (.int .i64 v)).setCell ⟨w.heap.size, 4, none⟩ (.int .i64 h)).setCell ⟨w.heap.size, 5, none⟩ (.int .i64 c) = w9 at *
    clear r0_ rf0_ r1_ rf1_ r2_ rf2_ r3_ rf3_ r4_ rf4_ r5_ rf5_
    have q0_ : w9.cell? ⟨w.heap.size + 1, 0, none⟩ = some (.int .i64 0) := QN.out.cell 0
    have qf0_ := QN.out.frozen 0
    have q1_ : w9.cell? ⟨w.heap.size + 1, 1, none⟩ = some (.int .i64 0) := QN.out.cell 1
    have qf1_ := QN.out.frozen 1
    refine wpAnyE_ready (rs := [6]) (by kernel_rfl) (by simp) ?_
    refine AllReadyE.last (i := 6) rfl rfl (fun K hK => ?_)
    go_simp
    refine hK.out _ _ ?_
    clear hK K
    try simp only [Act.put]
    refine wpAnyE_done (by kernel_rfl) ?_ _
    try simp only [List.getElem_toArray, List.getElem_cons_succ, List.getElem_cons_zero, List.setIfInBounds_toArray, List.set_cons_succ, List.set_cons_zero]
    have HE := Lib.hid ((RN.out.other (b' := w.heap.size + 1) (Nat.le_succ _) (Nat.ne_of_lt (Nat.lt_succ_self _)) 0 (.int .i64 p1)).other (b' := w.heap.size + 1) (Nat.le_succ _) (Nat.ne_of_lt (Nat.lt_succ_self _)) 1 (.int .i64 q1))
    have HF := Lib.hid ((QN.out.set 0 (.int .i64 p1)).set 1 (.int .i64 q1))
    go_wp2_with fail
    have hl := HE.out.load Try.underlying28 rfl (by kernel_rfl)
    have hf := HF.out.load Try.underlying25 rfl (by kernel_rfl)
    refine bodyPost_ret (v := .tuple #[.agg #[.int .i64 x, .int .i64 y, .int .i64 u, .int .i64 v, .int .i64 h, .int .i64 c], .agg #[.int .i64 p1, .int .i64 q1]]) ?_ rfl ⟨_, _, _, _, _, _, _, _, rfl, HE.out.1⟩
    rw [results_cells2 rfl]
    simp [asAddr, Result.andThen, hl, hf]

set_option maxRecDepth 100000 in
set_option maxHeartbeats 4000000 in
theorem nearestMinute (A : Option Addr) (n c0 : Nat) (w : World) (hn : n ≤ 65536) (h : Bytes w w.heap.size A n) :
    Calls Try.prog 23 #[.slice A n c0] w (MotPlace w) := by
  have R0 := Lib.hid ((newS 28 #[.int .i64 0, .int .i64 0, .int .i64 0, .int .i64 0, .int .i64 0, .int .i64 0] w).alloc (.cells #[.int .i64 0, .int .i64 0] 25))
  have Q0 := Lib.hid ((newS 28 #[.int .i64 0, .int .i64 0, .int .i64 0, .int .i64 0, .int .i64 0, .int .i64 0] w).next 25 #[.int .i64 0, .int .i64 0])
  rw [World.size_alloc] at Q0
  have H := Lib.hid (courseLine A n c0 ((w.alloc (.cells #[.int .i64 0, .int .i64 0, .int .i64 0, .int .i64 0, .int .i64 0, .int .i64 0] 28)).alloc (.cells #[.int .i64 0, .int .i64 0] 25)) hn (bytes_al (.cells #[.int .i64 0, .int .i64 0] 25) (bytes_al (.cells #[.int .i64 0, .int .i64 0, .int .i64 0, .int .i64 0, .int .i64 0, .int .i64 0] 28) h)))
  clear h
  go_enter Try.func23, Try.ntmps23
  go_wp2_with fail
  generalize (w.alloc (.cells #[.int .i64 0, .int .i64 0, .int .i64 0, .int .i64 0, .int .i64 0, .int .i64 0] 28)).alloc (.cells #[.int .i64 0, .int .i64 0] 25) = W1 at *
  refine H.out.mono ?_
  rintro e w3 ⟨x, y, u, v, h, c, p1, q1, rfl, hb⟩
  have R1 := Lib.hid (R0.out.old hb)
  have Q1 := Lib.hid (Q0.out.old hb)
  clear hb R0 Q0
  have r0_ : w3.cell? ⟨w.heap.size, 0, none⟩ = some (.int .i64 0) := R1.out.cell 0
  have rf0_ := R1.out.frozen 0
  have r1_ : w3.cell? ⟨w.heap.size, 1, none⟩ = some (.int .i64 0) := R1.out.cell 1
  have rf1_ := R1.out.frozen 1
  have r2_ : w3.cell? ⟨w.heap.size, 2, none⟩ = some (.int .i64 0) := R1.out.cell 2
  have rf2_ := R1.out.frozen 2
  have r3_ : w3.cell? ⟨w.heap.size, 3, none⟩ = some (.int .i64 0) := R1.out.cell 3
  have rf3_ := R1.out.frozen 3
  have r4_ : w3.cell? ⟨w.heap.size, 4, none⟩ = some (.int .i64 0) := R1.out.cell 4
  have rf4_ := R1.out.frozen 4
  have r5_ : w3.cell? ⟨w.heap.size, 5, none⟩ = some (.int .i64 0) := R1.out.cell 5
  have rf5_ := R1.out.frozen 5
  have q0_ : w3.cell? ⟨w.heap.size + 1, 0, none⟩ = some (.int .i64 0) := Q1.out.cell 0
  have qf0_ := Q1.out.frozen 0
  have q1_ : w3.cell? ⟨w.heap.size + 1, 1, none⟩ = some (.int .i64 0) := Q1.out.cell 1
  have qf1_ := Q1.out.frozen 1
  have HE := Lib.hid (((((((((R1.out.set 0 (.int .i64 x)).set 1 (.int .i64 y)).set 2 (.int .i64 u)).set 3 (.int .i64 v)).set 4 (.int .i64 h)).set 5 (.int .i64 c))).other (b' := w.heap.size + 1) (Nat.le_succ _) (Nat.ne_of_lt (Nat.lt_succ_self _)) 0 (.int .i64 p1)).other (b' := w.heap.size + 1) (Nat.le_succ _) (Nat.ne_of_lt (Nat.lt_succ_self _)) 1 (.int .i64 q1))
  have HF := Lib.hid (((((((((Q1.out.other (b' := w.heap.size) (Nat.le_refl _) (Nat.succ_ne_self _) 0 (.int .i64 x)).other (b' := w.heap.size) (Nat.le_refl _) (Nat.succ_ne_self _) 1 (.int .i64 y)).other (b' := w.heap.size) (Nat.le_refl _) (Nat.succ_ne_self _) 2 (.int .i64 u)).other (b' := w.heap.size) (Nat.le_refl _) (Nat.succ_ne_self _) 3 (.int .i64 v)).other (b' := w.heap.size) (Nat.le_refl _) (Nat.succ_ne_self _) 4 (.int .i64 h)).other (b' := w.heap.size) (Nat.le_refl _) (Nat.succ_ne_self _) 5 (.int .i64 c))).set 0 (.int .i64 p1)).set 1 (.int .i64 q1))
  go_wp2_with fail
  have hl := HE.out.load Try.underlying28 rfl (by kernel_rfl)
  have hf := HF.out.load Try.underlying25 rfl (by kernel_rfl)
  refine bodyPost_ret (v := .tuple #[.agg #[.int .i64 x, .int .i64 y, .int .i64 u, .int .i64 v, .int .i64 h, .int .i64 c], .agg #[.int .i64 p1, .int .i64 q1]]) ?_ rfl ⟨_, _, _, _, _, _, _, _, rfl, HE.out.1⟩
  rw [results_cells2 rfl]
  simp [asAddr, Result.andThen, hl, hf]
end Go.Proofs.Ytinkkdgjpcnklaa.drawt16
