/- The closures of impl.HitTrack, changeTrack and ScanTracks. -/
import Derived.Test.YtfigjfckelichaaGreatDoorTrkC
import Derived.Test.YtfigjfckelichaaGreatDoorTailH
namespace Go.Proofs.YtfigjfckelichaaGreatDoor.trkd
open Go.RowKit Go.Proofs.YtfigjfckelichaaGreatDoor.ints Go.Proofs.YtfigjfckelichaaGreatDoor.lst Go.Proofs.YtfigjfckelichaaGreatDoor.in_ Go.Proofs.YtfigjfckelichaaGreatDoor.ats Go.Proofs.YtfigjfckelichaaGreatDoor.pos Go.Proofs.YtfigjfckelichaaGreatDoor.trk Go.Proofs.YtfigjfckelichaaGreatDoor.trke Go.Proofs.YtfigjfckelichaaGreatDoor.trki Go.Proofs.YtfigjfckelichaaGreatDoor.trkv Go.Proofs.YtfigjfckelichaaGreatDoor.trkw Go.Proofs.YtfigjfckelichaaGreatDoor.trkc Go.Proofs.YtfigjfckelichaaGreatDoor.intc Go.Proofs.YtfigjfckelichaaGreatDoor.tailh
set_option linter.unusedSimpArgs false

/-- A hit and a miss of a track of these numbers. -/
def hitO (i h x y : Int) : Option (List Int) := if tkB i (sw (h + 1) 0) x y (h + 1) 0 then some (six i (sw (h + 1) 0) x y (h + 1) 0) else none
def missO (i x y h l : Int) : Option (List Int) := if tkB i (sw h (l + 1)) x y h (l + 1) then some (six i (sw h (l + 1)) x y h (l + 1)) else some []
theorem hitO_yes {i h x y : Int} (hq : tkB i (sw (h + 1) 0) x y (h + 1) 0 = true) : hitO i h x y = some (six i (sw (h + 1) 0) x y (h + 1) 0) := by unfold hitO; rw [hq]; rfl
theorem hitO_no {i h x y : Int} (hq : tkB i (sw (h + 1) 0) x y (h + 1) 0 = false) : hitO i h x y = none := by unfold hitO; rw [hq]; rfl
theorem missO_yes {i x y h l : Int} (hq : tkB i (sw h (l + 1)) x y h (l + 1) = true) : missO i x y h l = some (six i (sw h (l + 1)) x y h (l + 1)) := by unfold missO; rw [hq]; rfl
theorem missO_no {i x y h l : Int} (hq : tkB i (sw h (l + 1)) x y h (l + 1) = false) : missO i x y h l = some [] := by unfold missO; rw [hq]; rfl
theorem hitAt (i s x y h l u v : Int) (w : World) (h0 : -1000000 ≤ h) (h1 : h ≤ 1000000) (hx : Ex w) :
    Calls Tryz.prog 46 #[.agg #[.int .i64 i, .int .i64 s, .int .i64 x, .int .i64 y, .int .i64 h, .int .i64 l], .agg #[.int .i64 u, .int .i64 v]] w fun e w' => Out (hitO i h u v) e ∧ Below w.heap.size w w' := by
  cases hq : tkB i (sw (h + 1) 0) u v (h + 1) 0
  · rw [hitO_no hq]
    refine (hitAt_no i s x y h l u v w h0 h1 hx hq).mono ?_
    rintro e w' ⟨⟨a, rfl⟩, hb⟩
    exact ⟨out_fail a, hb⟩
  · rw [hitO_yes hq]
    refine (hitAt_yes i s x y h l u v w h0 h1 hx hq).mono ?_
    rintro e w' ⟨rfl, hb⟩
    exact ⟨out_six _ _ _ _ _ _, hb⟩
theorem missOf (i s x y h l : Int) (w : World) (h0 : -1000000 ≤ l) (h1 : l ≤ 1000000) :
    Calls Tryz.prog 89 #[.agg #[.int .i64 i, .int .i64 s, .int .i64 x, .int .i64 y, .int .i64 h, .int .i64 l]] w fun e w' => Out (missO i x y h l) e ∧ Below w.heap.size w w' := by
  cases hq : tkB i (sw h (l + 1)) x y h (l + 1)
  · rw [missO_no hq]
    refine (missOf_no i s x y h l w h0 h1 hq).mono ?_
    rintro e w' ⟨rfl, hb⟩
    exact ⟨out_drop, hb⟩
  · rw [missO_yes hq]
    refine (missOf_yes i s x y h l w h0 h1 hq).mono ?_
    rintro e w' ⟨rfl, hb⟩
    exact ⟨out_six _ _ _ _ _ _, hb⟩
theorem hit_is (zs : List Int) (x y : Int) (k : Nat) : hitC zs x y k = hitO (fld 6 zs k 0) (fld 6 zs k 4) x y := rfl
theorem miss_is (zs : List Int) (k : Nat) : missC zs k = missO (fld 6 zs k 0) (fld 6 zs k 2) (fld 6 zs k 3) (fld 6 zs k 4) (fld 6 zs k 5) := rfl
/-- The three kinds of what a change returns. -/
def Three (c : Option (List Int)) : Prop := (∃ a b d f g k, c = some (six a b d f g k)) ∨ c = some [] ∨ c = none
theorem three_hit (i h x y : Int) : Three (hitO i h x y) := by
  unfold hitO
  split
  · exact Or.inl ⟨_, _, _, _, _, _, rfl⟩
  · exact Or.inr (Or.inr rfl)
theorem three_miss (i x y h l : Int) : Three (missO i x y h l) := by
  unfold missO
  split
  · exact Or.inl ⟨_, _, _, _, _, _, rfl⟩
  · exact Or.inr (Or.inl rfl)
theorem three_row (zs : List Int) (k : Nat) : Three (some (row zs k)) := Or.inl ⟨_, _, _, _, _, _, rfl⟩

set_option maxRecDepth 100000 in
set_option maxHeartbeats 2000000 in
theorem hitClosure (i s x y h l u v : Int) (pb : Nat) (w : World) (h0 : -1000000 ≤ h) (h1 : h ≤ 1000000) (hx : Ex w) (c0 : w.cell? ⟨pb, 0, none⟩ = some (.int .i64 u)) (c1 : w.cell? ⟨pb, 1, none⟩ = some (.int .i64 v)) :
    Calls Tryz.prog 45 #[.agg #[.int .i64 i, .int .i64 s, .int .i64 x, .int .i64 y, .int .i64 h, .int .i64 l], .pointer (some ⟨pb, 0, none⟩)] w fun e w' => Out (hitO i h u v) e ∧ Below w.heap.size w w' := by
  have hpb := World.block_lt_of_cell? _ _ c0
  have H := Lib.hid (fun W (hb : Below w.heap.size w W) => hitAt i s x y h l u v W h0 h1 (ex_on hx hb))
  have H3 := three_hit i h u v
  generalize hitO i h u v = o at *
  clear hx
  rcases H3 with ⟨a_, b_, d_, f_, g_, k_, rfl⟩ | rfl | rfl
  · have T0 := Lib.hid ((newS 25 #[.int .i64 i, .int .i64 s, .int .i64 x, .int .i64 y, .int .i64 h, .int .i64 l] w).alloc (.cells #[.int .i64 0, .int .i64 0, .int .i64 0, .int .i64 0, .int .i64 0, .int .i64 0] 25))
    have R0 := Lib.hid ((newS 25 #[.int .i64 i, .int .i64 s, .int .i64 x, .int .i64 y, .int .i64 h, .int .i64 l] w).next 25 #[.int .i64 0, .int .i64 0, .int .i64 0, .int .i64 0, .int .i64 0, .int .i64 0])
    rw [World.size_alloc] at R0
    go_enter Tryz.func45, Tryz.ntmps45
    go_upto_region 1 with fail
    generalize (w.alloc (.cells #[.int .i64 i, .int .i64 s, .int .i64 x, .int .i64 y, .int .i64 h, .int .i64 l] 25)).alloc (.cells #[.int .i64 0, .int .i64 0, .int .i64 0, .int .i64 0, .int .i64 0, .int .i64 0] 25) = W0 at *
    have p0 : W0.cell? ⟨pb, 0, none⟩ = some (.int .i64 u) := (T0.out.1.cell hpb).trans c0
    have p1 : W0.cell? ⟨pb, 1, none⟩ = some (.int .i64 v) := (T0.out.1.cell (p := ⟨pb, 1, none⟩) hpb).trans c1
    have cT0 : W0.cell? ⟨w.heap.size, 0, none⟩ = some (.int .i64 i) := T0.out.cell 0
    have cTf0 := T0.out.frozen 0
    have cT1 : W0.cell? ⟨w.heap.size, 1, none⟩ = some (.int .i64 s) := T0.out.cell 1
    have cTf1 := T0.out.frozen 1
    have cT2 : W0.cell? ⟨w.heap.size, 2, none⟩ = some (.int .i64 x) := T0.out.cell 2
    have cTf2 := T0.out.frozen 2
    have cT3 : W0.cell? ⟨w.heap.size, 3, none⟩ = some (.int .i64 y) := T0.out.cell 3
    have cTf3 := T0.out.frozen 3
    have cT4 : W0.cell? ⟨w.heap.size, 4, none⟩ = some (.int .i64 h) := T0.out.cell 4
    have cTf4 := T0.out.frozen 4
    have cT5 : W0.cell? ⟨w.heap.size, 5, none⟩ = some (.int .i64 l) := T0.out.cell 5
    have cTf5 := T0.out.frozen 5
    go_wp2_with fail
    refine (H.out W0 T0.out.1).mono ?_
    rintro e W1 ⟨ho_, hb⟩
    obtain rfl := ho_.1 _ _ _ _ _ _ rfl
    clear cT0 cTf0 cT1 cTf1 cT2 cTf2 cT3 cTf3 cT4 cTf4 cT5 cTf5
    clear p0 p1 H
    have T1 := Lib.hid (T0.out.old hb)
    have R1 := Lib.hid (R0.out.old hb)
    clear T0 R0
    clear hb
    have cR0 : W1.cell? ⟨w.heap.size + 1, 0, none⟩ = some (.int .i64 0) := R1.out.cell 0
    have cRf0 := R1.out.frozen 0
    have cR1 : W1.cell? ⟨w.heap.size + 1, 1, none⟩ = some (.int .i64 0) := R1.out.cell 1
    have cRf1 := R1.out.frozen 1
    have cR2 : W1.cell? ⟨w.heap.size + 1, 2, none⟩ = some (.int .i64 0) := R1.out.cell 2
    have cRf2 := R1.out.frozen 2
    have cR3 : W1.cell? ⟨w.heap.size + 1, 3, none⟩ = some (.int .i64 0) := R1.out.cell 3
    have cRf3 := R1.out.frozen 3
    have cR4 : W1.cell? ⟨w.heap.size + 1, 4, none⟩ = some (.int .i64 0) := R1.out.cell 4
    have cRf4 := R1.out.frozen 4
    have cR5 : W1.cell? ⟨w.heap.size + 1, 5, none⟩ = some (.int .i64 0) := R1.out.cell 5
    have cRf5 := R1.out.frozen 5
    have HE := Lib.hid ((((((R1.out.set 0 (.int .i64 a_)).set 1 (.int .i64 b_)).set 2 (.int .i64 d_)).set 3 (.int .i64 f_)).set 4 (.int .i64 g_)).set 5 (.int .i64 k_))
    go_wp2_with fail
    have hl := HE.out.load Tryz.underlying25 rfl (by kernel_rfl)
    refine bodyPost_ret (v := .tuple #[.agg #[.int .i64 a_, .int .i64 b_, .int .i64 d_, .int .i64 f_, .int .i64 g_, .int .i64 k_], .nilIface]) ?_ rfl ⟨out_six _ _ _ _ _ _, HE.out.1⟩
    rw [results_cell_tmp rfl]
    simp [asAddr, Result.andThen, hl]
  · have T0 := Lib.hid ((newS 25 #[.int .i64 i, .int .i64 s, .int .i64 x, .int .i64 y, .int .i64 h, .int .i64 l] w).alloc (.cells #[.int .i64 0, .int .i64 0, .int .i64 0, .int .i64 0, .int .i64 0, .int .i64 0] 25))
    have R0 := Lib.hid ((newS 25 #[.int .i64 i, .int .i64 s, .int .i64 x, .int .i64 y, .int .i64 h, .int .i64 l] w).next 25 #[.int .i64 0, .int .i64 0, .int .i64 0, .int .i64 0, .int .i64 0, .int .i64 0])
    rw [World.size_alloc] at R0
    go_enter Tryz.func45, Tryz.ntmps45
    go_upto_region 1 with fail
    generalize (w.alloc (.cells #[.int .i64 i, .int .i64 s, .int .i64 x, .int .i64 y, .int .i64 h, .int .i64 l] 25)).alloc (.cells #[.int .i64 0, .int .i64 0, .int .i64 0, .int .i64 0, .int .i64 0, .int .i64 0] 25) = W0 at *
    have p0 : W0.cell? ⟨pb, 0, none⟩ = some (.int .i64 u) := (T0.out.1.cell hpb).trans c0
    have p1 : W0.cell? ⟨pb, 1, none⟩ = some (.int .i64 v) := (T0.out.1.cell (p := ⟨pb, 1, none⟩) hpb).trans c1
    have cT0 : W0.cell? ⟨w.heap.size, 0, none⟩ = some (.int .i64 i) := T0.out.cell 0
    have cTf0 := T0.out.frozen 0
    have cT1 : W0.cell? ⟨w.heap.size, 1, none⟩ = some (.int .i64 s) := T0.out.cell 1
    have cTf1 := T0.out.frozen 1
    have cT2 : W0.cell? ⟨w.heap.size, 2, none⟩ = some (.int .i64 x) := T0.out.cell 2
    have cTf2 := T0.out.frozen 2
    have cT3 : W0.cell? ⟨w.heap.size, 3, none⟩ = some (.int .i64 y) := T0.out.cell 3
    have cTf3 := T0.out.frozen 3
    have cT4 : W0.cell? ⟨w.heap.size, 4, none⟩ = some (.int .i64 h) := T0.out.cell 4
    have cTf4 := T0.out.frozen 4
    have cT5 : W0.cell? ⟨w.heap.size, 5, none⟩ = some (.int .i64 l) := T0.out.cell 5
    have cTf5 := T0.out.frozen 5
    go_wp2_with fail
    refine (H.out W0 T0.out.1).mono ?_
    rintro e W1 ⟨ho_, hb⟩
    obtain rfl := ho_.2.1 rfl
    clear cT0 cTf0 cT1 cTf1 cT2 cTf2 cT3 cTf3 cT4 cTf4 cT5 cTf5
    clear p0 p1 H
    have T1 := Lib.hid (T0.out.old hb)
    have R1 := Lib.hid (R0.out.old hb)
    clear T0 R0
    clear hb
    have cR0 : W1.cell? ⟨w.heap.size + 1, 0, none⟩ = some (.int .i64 0) := R1.out.cell 0
    have cRf0 := R1.out.frozen 0
    have cR1 : W1.cell? ⟨w.heap.size + 1, 1, none⟩ = some (.int .i64 0) := R1.out.cell 1
    have cRf1 := R1.out.frozen 1
    have cR2 : W1.cell? ⟨w.heap.size + 1, 2, none⟩ = some (.int .i64 0) := R1.out.cell 2
    have cRf2 := R1.out.frozen 2
    have cR3 : W1.cell? ⟨w.heap.size + 1, 3, none⟩ = some (.int .i64 0) := R1.out.cell 3
    have cRf3 := R1.out.frozen 3
    have cR4 : W1.cell? ⟨w.heap.size + 1, 4, none⟩ = some (.int .i64 0) := R1.out.cell 4
    have cRf4 := R1.out.frozen 4
    have cR5 : W1.cell? ⟨w.heap.size + 1, 5, none⟩ = some (.int .i64 0) := R1.out.cell 5
    have cRf5 := R1.out.frozen 5
    have HE := Lib.hid ((((((R1.out.set 0 (.int .i64 0)).set 1 (.int .i64 0)).set 2 (.int .i64 0)).set 3 (.int .i64 0)).set 4 (.int .i64 0)).set 5 (.int .i64 0))
    go_wp2_with fail
    have hl := HE.out.load Tryz.underlying25 rfl (by kernel_rfl)
    refine bodyPost_ret (v := .tuple #[.agg #[.int .i64 0, .int .i64 0, .int .i64 0, .int .i64 0, .int .i64 0, .int .i64 0], .iface 138 (.agg #[])]) ?_ rfl ⟨out_drop, HE.out.1⟩
    rw [results_cell_tmp rfl]
    simp [asAddr, Result.andThen, hl]
  · have T0 := Lib.hid ((newS 25 #[.int .i64 i, .int .i64 s, .int .i64 x, .int .i64 y, .int .i64 h, .int .i64 l] w).alloc (.cells #[.int .i64 0, .int .i64 0, .int .i64 0, .int .i64 0, .int .i64 0, .int .i64 0] 25))
    have R0 := Lib.hid ((newS 25 #[.int .i64 i, .int .i64 s, .int .i64 x, .int .i64 y, .int .i64 h, .int .i64 l] w).next 25 #[.int .i64 0, .int .i64 0, .int .i64 0, .int .i64 0, .int .i64 0, .int .i64 0])
    rw [World.size_alloc] at R0
    go_enter Tryz.func45, Tryz.ntmps45
    go_upto_region 1 with fail
    generalize (w.alloc (.cells #[.int .i64 i, .int .i64 s, .int .i64 x, .int .i64 y, .int .i64 h, .int .i64 l] 25)).alloc (.cells #[.int .i64 0, .int .i64 0, .int .i64 0, .int .i64 0, .int .i64 0, .int .i64 0] 25) = W0 at *
    have p0 : W0.cell? ⟨pb, 0, none⟩ = some (.int .i64 u) := (T0.out.1.cell hpb).trans c0
    have p1 : W0.cell? ⟨pb, 1, none⟩ = some (.int .i64 v) := (T0.out.1.cell (p := ⟨pb, 1, none⟩) hpb).trans c1
    have cT0 : W0.cell? ⟨w.heap.size, 0, none⟩ = some (.int .i64 i) := T0.out.cell 0
    have cTf0 := T0.out.frozen 0
    have cT1 : W0.cell? ⟨w.heap.size, 1, none⟩ = some (.int .i64 s) := T0.out.cell 1
    have cTf1 := T0.out.frozen 1
    have cT2 : W0.cell? ⟨w.heap.size, 2, none⟩ = some (.int .i64 x) := T0.out.cell 2
    have cTf2 := T0.out.frozen 2
    have cT3 : W0.cell? ⟨w.heap.size, 3, none⟩ = some (.int .i64 y) := T0.out.cell 3
    have cTf3 := T0.out.frozen 3
    have cT4 : W0.cell? ⟨w.heap.size, 4, none⟩ = some (.int .i64 h) := T0.out.cell 4
    have cTf4 := T0.out.frozen 4
    have cT5 : W0.cell? ⟨w.heap.size, 5, none⟩ = some (.int .i64 l) := T0.out.cell 5
    have cTf5 := T0.out.frozen 5
    go_wp2_with fail
    refine (H.out W0 T0.out.1).mono ?_
    rintro e W1 ⟨ho_, hb⟩
    obtain ⟨ae, rfl⟩ := ho_.2.2 rfl
    clear cT0 cTf0 cT1 cTf1 cT2 cTf2 cT3 cTf3 cT4 cTf4 cT5 cTf5
    clear p0 p1 H
    have T1 := Lib.hid (T0.out.old hb)
    have R1 := Lib.hid (R0.out.old hb)
    clear T0 R0
    clear hb
    have cR0 : W1.cell? ⟨w.heap.size + 1, 0, none⟩ = some (.int .i64 0) := R1.out.cell 0
    have cRf0 := R1.out.frozen 0
    have cR1 : W1.cell? ⟨w.heap.size + 1, 1, none⟩ = some (.int .i64 0) := R1.out.cell 1
    have cRf1 := R1.out.frozen 1
    have cR2 : W1.cell? ⟨w.heap.size + 1, 2, none⟩ = some (.int .i64 0) := R1.out.cell 2
    have cRf2 := R1.out.frozen 2
    have cR3 : W1.cell? ⟨w.heap.size + 1, 3, none⟩ = some (.int .i64 0) := R1.out.cell 3
    have cRf3 := R1.out.frozen 3
    have cR4 : W1.cell? ⟨w.heap.size + 1, 4, none⟩ = some (.int .i64 0) := R1.out.cell 4
    have cRf4 := R1.out.frozen 4
    have cR5 : W1.cell? ⟨w.heap.size + 1, 5, none⟩ = some (.int .i64 0) := R1.out.cell 5
    have cRf5 := R1.out.frozen 5
    have HE := Lib.hid ((((((R1.out.set 0 (.int .i64 0)).set 1 (.int .i64 0)).set 2 (.int .i64 0)).set 3 (.int .i64 0)).set 4 (.int .i64 0)).set 5 (.int .i64 0))
    go_wp2_with fail
    have hl := HE.out.load Tryz.underlying25 rfl (by kernel_rfl)
    refine bodyPost_ret (v := .tuple #[.agg #[.int .i64 0, .int .i64 0, .int .i64 0, .int .i64 0, .int .i64 0, .int .i64 0], .iface 190 ae]) ?_ rfl ⟨out_fail ae, HE.out.1⟩
    rw [results_cell_tmp rfl]
    simp [asAddr, Result.andThen, hl]

set_option maxRecDepth 100000 in
set_option maxHeartbeats 2000000 in
theorem changeHit (i s x y h l d : Int) (ib cb pb : Nat) (o : Option (List Int)) (w : World) (H3 : Three o) (c0 : w.cell? ⟨ib, 0, none⟩ = some (.int .i64 d)) (c1 : w.cell? ⟨cb, 0, none⟩ = some (.func (.func 45) #[] #[.pointer (some ⟨pb, 0, none⟩)]))
    (hc : ∀ W, Below w.heap.size w W → Calls Tryz.prog 45 #[.agg #[.int .i64 i, .int .i64 s, .int .i64 x, .int .i64 y, .int .i64 h, .int .i64 l], .pointer (some ⟨pb, 0, none⟩)] W fun e w' => Out o e ∧ Below W.heap.size W w') :
    Calls Tryz.prog 84 #[.agg #[.int .i64 i, .int .i64 s, .int .i64 x, .int .i64 y, .int .i64 h, .int .i64 l], .pointer (some ⟨ib, 0, none⟩), .pointer (some ⟨cb, 0, none⟩)] w fun e w' => Out (if i = d then o else some (six i s x y h l)) e ∧ Below w.heap.size w w' := by
  have hib := World.block_lt_of_cell? _ _ c0
  have hcb := World.block_lt_of_cell? _ _ c1
  have H := Lib.hid hc
  clear hc
  by_cases hid : i = d
  · rw [if_pos hid]
    have gd : (i != d) = false := by rw [hid]; simp
    clear hid
    rcases H3 with ⟨a_, b_, d_, f_, g_, k_, rfl⟩ | rfl | rfl
    · have T0 := Lib.hid ((newS 25 #[.int .i64 i, .int .i64 s, .int .i64 x, .int .i64 y, .int .i64 h, .int .i64 l] w).alloc (.cells #[.int .i64 0, .int .i64 0, .int .i64 0, .int .i64 0, .int .i64 0, .int .i64 0] 25))
      have R0 := Lib.hid ((newS 25 #[.int .i64 i, .int .i64 s, .int .i64 x, .int .i64 y, .int .i64 h, .int .i64 l] w).next 25 #[.int .i64 0, .int .i64 0, .int .i64 0, .int .i64 0, .int .i64 0, .int .i64 0])
      rw [World.size_alloc] at R0
      go_enter Tryz.func84, Tryz.ntmps84
      go_upto_region 1 with fail
      generalize (w.alloc (.cells #[.int .i64 i, .int .i64 s, .int .i64 x, .int .i64 y, .int .i64 h, .int .i64 l] 25)).alloc (.cells #[.int .i64 0, .int .i64 0, .int .i64 0, .int .i64 0, .int .i64 0, .int .i64 0] 25) = W0 at *
      have p0 : W0.cell? ⟨ib, 0, none⟩ = some (.int .i64 d) := (T0.out.1.cell hib).trans c0
      have p1 : W0.cell? ⟨cb, 0, none⟩ = some (.func (.func 45) #[] #[.pointer (some ⟨pb, 0, none⟩)]) := (T0.out.1.cell hcb).trans c1
      have cT0 : W0.cell? ⟨w.heap.size, 0, none⟩ = some (.int .i64 i) := T0.out.cell 0
      have cTf0 := T0.out.frozen 0
      have cT1 : W0.cell? ⟨w.heap.size, 1, none⟩ = some (.int .i64 s) := T0.out.cell 1
      have cTf1 := T0.out.frozen 1
      have cT2 : W0.cell? ⟨w.heap.size, 2, none⟩ = some (.int .i64 x) := T0.out.cell 2
      have cTf2 := T0.out.frozen 2
      have cT3 : W0.cell? ⟨w.heap.size, 3, none⟩ = some (.int .i64 y) := T0.out.cell 3
      have cTf3 := T0.out.frozen 3
      have cT4 : W0.cell? ⟨w.heap.size, 4, none⟩ = some (.int .i64 h) := T0.out.cell 4
      have cTf4 := T0.out.frozen 4
      have cT5 : W0.cell? ⟨w.heap.size, 5, none⟩ = some (.int .i64 l) := T0.out.cell 5
      have cTf5 := T0.out.frozen 5
      go_wp2_with fail
      refine (H.out W0 T0.out.1).mono ?_
      rintro e W1 ⟨ho_, hb⟩
      obtain rfl := ho_.1 _ _ _ _ _ _ rfl
      clear cT0 cTf0 cT1 cTf1 cT2 cTf2 cT3 cTf3 cT4 cTf4 cT5 cTf5
      clear p0 p1 H
      have T1 := Lib.hid (T0.out.old hb)
      have R1 := Lib.hid (R0.out.old hb)
      clear T0 R0
      clear hb
      have cR0 : W1.cell? ⟨w.heap.size + 1, 0, none⟩ = some (.int .i64 0) := R1.out.cell 0
      have cRf0 := R1.out.frozen 0
      have cR1 : W1.cell? ⟨w.heap.size + 1, 1, none⟩ = some (.int .i64 0) := R1.out.cell 1
      have cRf1 := R1.out.frozen 1
      have cR2 : W1.cell? ⟨w.heap.size + 1, 2, none⟩ = some (.int .i64 0) := R1.out.cell 2
      have cRf2 := R1.out.frozen 2
      have cR3 : W1.cell? ⟨w.heap.size + 1, 3, none⟩ = some (.int .i64 0) := R1.out.cell 3
      have cRf3 := R1.out.frozen 3
      have cR4 : W1.cell? ⟨w.heap.size + 1, 4, none⟩ = some (.int .i64 0) := R1.out.cell 4
      have cRf4 := R1.out.frozen 4
      have cR5 : W1.cell? ⟨w.heap.size + 1, 5, none⟩ = some (.int .i64 0) := R1.out.cell 5
      have cRf5 := R1.out.frozen 5
      have HE := Lib.hid ((((((R1.out.set 0 (.int .i64 a_)).set 1 (.int .i64 b_)).set 2 (.int .i64 d_)).set 3 (.int .i64 f_)).set 4 (.int .i64 g_)).set 5 (.int .i64 k_))
      go_wp2_with fail
      have hl := HE.out.load Tryz.underlying25 rfl (by kernel_rfl)
      refine bodyPost_ret (v := .tuple #[.agg #[.int .i64 a_, .int .i64 b_, .int .i64 d_, .int .i64 f_, .int .i64 g_, .int .i64 k_], .nilIface]) ?_ rfl ⟨out_six _ _ _ _ _ _, HE.out.1⟩
      rw [results_cell_tmp rfl]
      simp [asAddr, Result.andThen, hl]
    · have T0 := Lib.hid ((newS 25 #[.int .i64 i, .int .i64 s, .int .i64 x, .int .i64 y, .int .i64 h, .int .i64 l] w).alloc (.cells #[.int .i64 0, .int .i64 0, .int .i64 0, .int .i64 0, .int .i64 0, .int .i64 0] 25))
      have R0 := Lib.hid ((newS 25 #[.int .i64 i, .int .i64 s, .int .i64 x, .int .i64 y, .int .i64 h, .int .i64 l] w).next 25 #[.int .i64 0, .int .i64 0, .int .i64 0, .int .i64 0, .int .i64 0, .int .i64 0])
      rw [World.size_alloc] at R0
      go_enter Tryz.func84, Tryz.ntmps84
      go_upto_region 1 with fail
      generalize (w.alloc (.cells #[.int .i64 i, .int .i64 s, .int .i64 x, .int .i64 y, .int .i64 h, .int .i64 l] 25)).alloc (.cells #[.int .i64 0, .int .i64 0, .int .i64 0, .int .i64 0, .int .i64 0, .int .i64 0] 25) = W0 at *
      have p0 : W0.cell? ⟨ib, 0, none⟩ = some (.int .i64 d) := (T0.out.1.cell hib).trans c0
      have p1 : W0.cell? ⟨cb, 0, none⟩ = some (.func (.func 45) #[] #[.pointer (some ⟨pb, 0, none⟩)]) := (T0.out.1.cell hcb).trans c1
      have cT0 : W0.cell? ⟨w.heap.size, 0, none⟩ = some (.int .i64 i) := T0.out.cell 0
      have cTf0 := T0.out.frozen 0
      have cT1 : W0.cell? ⟨w.heap.size, 1, none⟩ = some (.int .i64 s) := T0.out.cell 1
      have cTf1 := T0.out.frozen 1
      have cT2 : W0.cell? ⟨w.heap.size, 2, none⟩ = some (.int .i64 x) := T0.out.cell 2
      have cTf2 := T0.out.frozen 2
      have cT3 : W0.cell? ⟨w.heap.size, 3, none⟩ = some (.int .i64 y) := T0.out.cell 3
      have cTf3 := T0.out.frozen 3
      have cT4 : W0.cell? ⟨w.heap.size, 4, none⟩ = some (.int .i64 h) := T0.out.cell 4
      have cTf4 := T0.out.frozen 4
      have cT5 : W0.cell? ⟨w.heap.size, 5, none⟩ = some (.int .i64 l) := T0.out.cell 5
      have cTf5 := T0.out.frozen 5
      go_wp2_with fail
      refine (H.out W0 T0.out.1).mono ?_
      rintro e W1 ⟨ho_, hb⟩
      obtain rfl := ho_.2.1 rfl
      clear cT0 cTf0 cT1 cTf1 cT2 cTf2 cT3 cTf3 cT4 cTf4 cT5 cTf5
      clear p0 p1 H
      have T1 := Lib.hid (T0.out.old hb)
      have R1 := Lib.hid (R0.out.old hb)
      clear T0 R0
      clear hb
      have cR0 : W1.cell? ⟨w.heap.size + 1, 0, none⟩ = some (.int .i64 0) := R1.out.cell 0
      have cRf0 := R1.out.frozen 0
      have cR1 : W1.cell? ⟨w.heap.size + 1, 1, none⟩ = some (.int .i64 0) := R1.out.cell 1
      have cRf1 := R1.out.frozen 1
      have cR2 : W1.cell? ⟨w.heap.size + 1, 2, none⟩ = some (.int .i64 0) := R1.out.cell 2
      have cRf2 := R1.out.frozen 2
      have cR3 : W1.cell? ⟨w.heap.size + 1, 3, none⟩ = some (.int .i64 0) := R1.out.cell 3
      have cRf3 := R1.out.frozen 3
      have cR4 : W1.cell? ⟨w.heap.size + 1, 4, none⟩ = some (.int .i64 0) := R1.out.cell 4
      have cRf4 := R1.out.frozen 4
      have cR5 : W1.cell? ⟨w.heap.size + 1, 5, none⟩ = some (.int .i64 0) := R1.out.cell 5
      have cRf5 := R1.out.frozen 5
      have HE := Lib.hid ((((((R1.out.set 0 (.int .i64 0)).set 1 (.int .i64 0)).set 2 (.int .i64 0)).set 3 (.int .i64 0)).set 4 (.int .i64 0)).set 5 (.int .i64 0))
      go_wp2_with fail
      have hl := HE.out.load Tryz.underlying25 rfl (by kernel_rfl)
      refine bodyPost_ret (v := .tuple #[.agg #[.int .i64 0, .int .i64 0, .int .i64 0, .int .i64 0, .int .i64 0, .int .i64 0], .iface 138 (.agg #[])]) ?_ rfl ⟨out_drop, HE.out.1⟩
      rw [results_cell_tmp rfl]
      simp [asAddr, Result.andThen, hl]
    · have T0 := Lib.hid ((newS 25 #[.int .i64 i, .int .i64 s, .int .i64 x, .int .i64 y, .int .i64 h, .int .i64 l] w).alloc (.cells #[.int .i64 0, .int .i64 0, .int .i64 0, .int .i64 0, .int .i64 0, .int .i64 0] 25))
      have R0 := Lib.hid ((newS 25 #[.int .i64 i, .int .i64 s, .int .i64 x, .int .i64 y, .int .i64 h, .int .i64 l] w).next 25 #[.int .i64 0, .int .i64 0, .int .i64 0, .int .i64 0, .int .i64 0, .int .i64 0])
      rw [World.size_alloc] at R0
      go_enter Tryz.func84, Tryz.ntmps84
      go_upto_region 1 with fail
      generalize (w.alloc (.cells #[.int .i64 i, .int .i64 s, .int .i64 x, .int .i64 y, .int .i64 h, .int .i64 l] 25)).alloc (.cells #[.int .i64 0, .int .i64 0, .int .i64 0, .int .i64 0, .int .i64 0, .int .i64 0] 25) = W0 at *
      have p0 : W0.cell? ⟨ib, 0, none⟩ = some (.int .i64 d) := (T0.out.1.cell hib).trans c0
      have p1 : W0.cell? ⟨cb, 0, none⟩ = some (.func (.func 45) #[] #[.pointer (some ⟨pb, 0, none⟩)]) := (T0.out.1.cell hcb).trans c1
      have cT0 : W0.cell? ⟨w.heap.size, 0, none⟩ = some (.int .i64 i) := T0.out.cell 0
      have cTf0 := T0.out.frozen 0
      have cT1 : W0.cell? ⟨w.heap.size, 1, none⟩ = some (.int .i64 s) := T0.out.cell 1
      have cTf1 := T0.out.frozen 1
      have cT2 : W0.cell? ⟨w.heap.size, 2, none⟩ = some (.int .i64 x) := T0.out.cell 2
      have cTf2 := T0.out.frozen 2
      have cT3 : W0.cell? ⟨w.heap.size, 3, none⟩ = some (.int .i64 y) := T0.out.cell 3
      have cTf3 := T0.out.frozen 3
      have cT4 : W0.cell? ⟨w.heap.size, 4, none⟩ = some (.int .i64 h) := T0.out.cell 4
      have cTf4 := T0.out.frozen 4
      have cT5 : W0.cell? ⟨w.heap.size, 5, none⟩ = some (.int .i64 l) := T0.out.cell 5
      have cTf5 := T0.out.frozen 5
      go_wp2_with fail
      refine (H.out W0 T0.out.1).mono ?_
      rintro e W1 ⟨ho_, hb⟩
      obtain ⟨ae, rfl⟩ := ho_.2.2 rfl
      clear cT0 cTf0 cT1 cTf1 cT2 cTf2 cT3 cTf3 cT4 cTf4 cT5 cTf5
      clear p0 p1 H
      have T1 := Lib.hid (T0.out.old hb)
      have R1 := Lib.hid (R0.out.old hb)
      clear T0 R0
      clear hb
      have cR0 : W1.cell? ⟨w.heap.size + 1, 0, none⟩ = some (.int .i64 0) := R1.out.cell 0
      have cRf0 := R1.out.frozen 0
      have cR1 : W1.cell? ⟨w.heap.size + 1, 1, none⟩ = some (.int .i64 0) := R1.out.cell 1
      have cRf1 := R1.out.frozen 1
      have cR2 : W1.cell? ⟨w.heap.size + 1, 2, none⟩ = some (.int .i64 0) := R1.out.cell 2
      have cRf2 := R1.out.frozen 2
      have cR3 : W1.cell? ⟨w.heap.size + 1, 3, none⟩ = some (.int .i64 0) := R1.out.cell 3
      have cRf3 := R1.out.frozen 3
      have cR4 : W1.cell? ⟨w.heap.size + 1, 4, none⟩ = some (.int .i64 0) := R1.out.cell 4
      have cRf4 := R1.out.frozen 4
      have cR5 : W1.cell? ⟨w.heap.size + 1, 5, none⟩ = some (.int .i64 0) := R1.out.cell 5
      have cRf5 := R1.out.frozen 5
      have HE := Lib.hid ((((((R1.out.set 0 (.int .i64 0)).set 1 (.int .i64 0)).set 2 (.int .i64 0)).set 3 (.int .i64 0)).set 4 (.int .i64 0)).set 5 (.int .i64 0))
      go_wp2_with fail
      have hl := HE.out.load Tryz.underlying25 rfl (by kernel_rfl)
      refine bodyPost_ret (v := .tuple #[.agg #[.int .i64 0, .int .i64 0, .int .i64 0, .int .i64 0, .int .i64 0, .int .i64 0], .iface 190 ae]) ?_ rfl ⟨out_fail ae, HE.out.1⟩
      rw [results_cell_tmp rfl]
      simp [asAddr, Result.andThen, hl]
  · rw [if_neg hid]
    have gd : (i != d) = true := bne_iff_ne.mpr hid
    clear hid H H3
    have T0 := Lib.hid ((newS 25 #[.int .i64 i, .int .i64 s, .int .i64 x, .int .i64 y, .int .i64 h, .int .i64 l] w).alloc (.cells #[.int .i64 0, .int .i64 0, .int .i64 0, .int .i64 0, .int .i64 0, .int .i64 0] 25))
    have R0 := Lib.hid ((newS 25 #[.int .i64 i, .int .i64 s, .int .i64 x, .int .i64 y, .int .i64 h, .int .i64 l] w).next 25 #[.int .i64 0, .int .i64 0, .int .i64 0, .int .i64 0, .int .i64 0, .int .i64 0])
    rw [World.size_alloc] at R0
    go_enter Tryz.func84, Tryz.ntmps84
    go_upto_region 1 with fail
    generalize (w.alloc (.cells #[.int .i64 i, .int .i64 s, .int .i64 x, .int .i64 y, .int .i64 h, .int .i64 l] 25)).alloc (.cells #[.int .i64 0, .int .i64 0, .int .i64 0, .int .i64 0, .int .i64 0, .int .i64 0] 25) = W0 at *
    have p0 : W0.cell? ⟨ib, 0, none⟩ = some (.int .i64 d) := (T0.out.1.cell hib).trans c0
    have p1 : W0.cell? ⟨cb, 0, none⟩ = some (.func (.func 45) #[] #[.pointer (some ⟨pb, 0, none⟩)]) := (T0.out.1.cell hcb).trans c1
    have cT0 : W0.cell? ⟨w.heap.size, 0, none⟩ = some (.int .i64 i) := T0.out.cell 0
    have cTf0 := T0.out.frozen 0
    have cT1 : W0.cell? ⟨w.heap.size, 1, none⟩ = some (.int .i64 s) := T0.out.cell 1
    have cTf1 := T0.out.frozen 1
    have cT2 : W0.cell? ⟨w.heap.size, 2, none⟩ = some (.int .i64 x) := T0.out.cell 2
    have cTf2 := T0.out.frozen 2
    have cT3 : W0.cell? ⟨w.heap.size, 3, none⟩ = some (.int .i64 y) := T0.out.cell 3
    have cTf3 := T0.out.frozen 3
    have cT4 : W0.cell? ⟨w.heap.size, 4, none⟩ = some (.int .i64 h) := T0.out.cell 4
    have cTf4 := T0.out.frozen 4
    have cT5 : W0.cell? ⟨w.heap.size, 5, none⟩ = some (.int .i64 l) := T0.out.cell 5
    have cTf5 := T0.out.frozen 5
    have cR0 : W0.cell? ⟨w.heap.size + 1, 0, none⟩ = some (.int .i64 0) := R0.out.cell 0
    have cRf0 := R0.out.frozen 0
    have cR1 : W0.cell? ⟨w.heap.size + 1, 1, none⟩ = some (.int .i64 0) := R0.out.cell 1
    have cRf1 := R0.out.frozen 1
    have cR2 : W0.cell? ⟨w.heap.size + 1, 2, none⟩ = some (.int .i64 0) := R0.out.cell 2
    have cRf2 := R0.out.frozen 2
    have cR3 : W0.cell? ⟨w.heap.size + 1, 3, none⟩ = some (.int .i64 0) := R0.out.cell 3
    have cRf3 := R0.out.frozen 3
    have cR4 : W0.cell? ⟨w.heap.size + 1, 4, none⟩ = some (.int .i64 0) := R0.out.cell 4
    have cRf4 := R0.out.frozen 4
    have cR5 : W0.cell? ⟨w.heap.size + 1, 5, none⟩ = some (.int .i64 0) := R0.out.cell 5
    have cRf5 := R0.out.frozen 5
    have HE := Lib.hid ((((((R0.out.set 0 (.int .i64 i)).set 1 (.int .i64 s)).set 2 (.int .i64 x)).set 3 (.int .i64 y)).set 4 (.int .i64 h)).set 5 (.int .i64 l))
    go_wp2_with fail
    have hl := HE.out.load Tryz.underlying25 rfl (by kernel_rfl)
    refine bodyPost_ret (v := .tuple #[.agg #[.int .i64 i, .int .i64 s, .int .i64 x, .int .i64 y, .int .i64 h, .int .i64 l], .nilIface]) ?_ rfl ⟨out_six _ _ _ _ _ _, HE.out.1⟩
    rw [results_cell_tmp rfl]
    simp [asAddr, Result.andThen, hl]

set_option maxRecDepth 100000 in
set_option maxHeartbeats 2000000 in
theorem changeMiss (i s x y h l d : Int) (ib cb : Nat) (o : Option (List Int)) (w : World) (H3 : Three o) (c0 : w.cell? ⟨ib, 0, none⟩ = some (.int .i64 d)) (c1 : w.cell? ⟨cb, 0, none⟩ = some (.func (.func 89) #[] #[]))
    (hc : ∀ W, Below w.heap.size w W → Calls Tryz.prog 89 #[.agg #[.int .i64 i, .int .i64 s, .int .i64 x, .int .i64 y, .int .i64 h, .int .i64 l]] W fun e w' => Out o e ∧ Below W.heap.size W w') :
    Calls Tryz.prog 84 #[.agg #[.int .i64 i, .int .i64 s, .int .i64 x, .int .i64 y, .int .i64 h, .int .i64 l], .pointer (some ⟨ib, 0, none⟩), .pointer (some ⟨cb, 0, none⟩)] w fun e w' => Out (if i = d then o else some (six i s x y h l)) e ∧ Below w.heap.size w w' := by
  have hib := World.block_lt_of_cell? _ _ c0
  have hcb := World.block_lt_of_cell? _ _ c1
  have H := Lib.hid hc
  clear hc
  by_cases hid : i = d
  · rw [if_pos hid]
    have gd : (i != d) = false := by rw [hid]; simp
    clear hid
    rcases H3 with ⟨a_, b_, d_, f_, g_, k_, rfl⟩ | rfl | rfl
    · have T0 := Lib.hid ((newS 25 #[.int .i64 i, .int .i64 s, .int .i64 x, .int .i64 y, .int .i64 h, .int .i64 l] w).alloc (.cells #[.int .i64 0, .int .i64 0, .int .i64 0, .int .i64 0, .int .i64 0, .int .i64 0] 25))
      have R0 := Lib.hid ((newS 25 #[.int .i64 i, .int .i64 s, .int .i64 x, .int .i64 y, .int .i64 h, .int .i64 l] w).next 25 #[.int .i64 0, .int .i64 0, .int .i64 0, .int .i64 0, .int .i64 0, .int .i64 0])
      rw [World.size_alloc] at R0
      go_enter Tryz.func84, Tryz.ntmps84
      go_upto_region 1 with fail
      generalize (w.alloc (.cells #[.int .i64 i, .int .i64 s, .int .i64 x, .int .i64 y, .int .i64 h, .int .i64 l] 25)).alloc (.cells #[.int .i64 0, .int .i64 0, .int .i64 0, .int .i64 0, .int .i64 0, .int .i64 0] 25) = W0 at *
      have p0 : W0.cell? ⟨ib, 0, none⟩ = some (.int .i64 d) := (T0.out.1.cell hib).trans c0
      have p1 : W0.cell? ⟨cb, 0, none⟩ = some (.func (.func 89) #[] #[]) := (T0.out.1.cell hcb).trans c1
      have cT0 : W0.cell? ⟨w.heap.size, 0, none⟩ = some (.int .i64 i) := T0.out.cell 0
      have cTf0 := T0.out.frozen 0
      have cT1 : W0.cell? ⟨w.heap.size, 1, none⟩ = some (.int .i64 s) := T0.out.cell 1
      have cTf1 := T0.out.frozen 1
      have cT2 : W0.cell? ⟨w.heap.size, 2, none⟩ = some (.int .i64 x) := T0.out.cell 2
      have cTf2 := T0.out.frozen 2
      have cT3 : W0.cell? ⟨w.heap.size, 3, none⟩ = some (.int .i64 y) := T0.out.cell 3
      have cTf3 := T0.out.frozen 3
      have cT4 : W0.cell? ⟨w.heap.size, 4, none⟩ = some (.int .i64 h) := T0.out.cell 4
      have cTf4 := T0.out.frozen 4
      have cT5 : W0.cell? ⟨w.heap.size, 5, none⟩ = some (.int .i64 l) := T0.out.cell 5
      have cTf5 := T0.out.frozen 5
      go_wp2_with fail
      refine (H.out W0 T0.out.1).mono ?_
      rintro e W1 ⟨ho_, hb⟩
      obtain rfl := ho_.1 _ _ _ _ _ _ rfl
      clear cT0 cTf0 cT1 cTf1 cT2 cTf2 cT3 cTf3 cT4 cTf4 cT5 cTf5
      clear p0 p1 H
      have T1 := Lib.hid (T0.out.old hb)
      have R1 := Lib.hid (R0.out.old hb)
      clear T0 R0
      clear hb
      have cR0 : W1.cell? ⟨w.heap.size + 1, 0, none⟩ = some (.int .i64 0) := R1.out.cell 0
      have cRf0 := R1.out.frozen 0
      have cR1 : W1.cell? ⟨w.heap.size + 1, 1, none⟩ = some (.int .i64 0) := R1.out.cell 1
      have cRf1 := R1.out.frozen 1
      have cR2 : W1.cell? ⟨w.heap.size + 1, 2, none⟩ = some (.int .i64 0) := R1.out.cell 2
      have cRf2 := R1.out.frozen 2
      have cR3 : W1.cell? ⟨w.heap.size + 1, 3, none⟩ = some (.int .i64 0) := R1.out.cell 3
      have cRf3 := R1.out.frozen 3
      have cR4 : W1.cell? ⟨w.heap.size + 1, 4, none⟩ = some (.int .i64 0) := R1.out.cell 4
      have cRf4 := R1.out.frozen 4
      have cR5 : W1.cell? ⟨w.heap.size + 1, 5, none⟩ = some (.int .i64 0) := R1.out.cell 5
      have cRf5 := R1.out.frozen 5
      have HE := Lib.hid ((((((R1.out.set 0 (.int .i64 a_)).set 1 (.int .i64 b_)).set 2 (.int .i64 d_)).set 3 (.int .i64 f_)).set 4 (.int .i64 g_)).set 5 (.int .i64 k_))
      go_wp2_with fail
      have hl := HE.out.load Tryz.underlying25 rfl (by kernel_rfl)
      refine bodyPost_ret (v := .tuple #[.agg #[.int .i64 a_, .int .i64 b_, .int .i64 d_, .int .i64 f_, .int .i64 g_, .int .i64 k_], .nilIface]) ?_ rfl ⟨out_six _ _ _ _ _ _, HE.out.1⟩
      rw [results_cell_tmp rfl]
      simp [asAddr, Result.andThen, hl]
    · have T0 := Lib.hid ((newS 25 #[.int .i64 i, .int .i64 s, .int .i64 x, .int .i64 y, .int .i64 h, .int .i64 l] w).alloc (.cells #[.int .i64 0, .int .i64 0, .int .i64 0, .int .i64 0, .int .i64 0, .int .i64 0] 25))
      have R0 := Lib.hid ((newS 25 #[.int .i64 i, .int .i64 s, .int .i64 x, .int .i64 y, .int .i64 h, .int .i64 l] w).next 25 #[.int .i64 0, .int .i64 0, .int .i64 0, .int .i64 0, .int .i64 0, .int .i64 0])
      rw [World.size_alloc] at R0
      go_enter Tryz.func84, Tryz.ntmps84
      go_upto_region 1 with fail
      generalize (w.alloc (.cells #[.int .i64 i, .int .i64 s, .int .i64 x, .int .i64 y, .int .i64 h, .int .i64 l] 25)).alloc (.cells #[.int .i64 0, .int .i64 0, .int .i64 0, .int .i64 0, .int .i64 0, .int .i64 0] 25) = W0 at *
      have p0 : W0.cell? ⟨ib, 0, none⟩ = some (.int .i64 d) := (T0.out.1.cell hib).trans c0
      have p1 : W0.cell? ⟨cb, 0, none⟩ = some (.func (.func 89) #[] #[]) := (T0.out.1.cell hcb).trans c1
      have cT0 : W0.cell? ⟨w.heap.size, 0, none⟩ = some (.int .i64 i) := T0.out.cell 0
      have cTf0 := T0.out.frozen 0
      have cT1 : W0.cell? ⟨w.heap.size, 1, none⟩ = some (.int .i64 s) := T0.out.cell 1
      have cTf1 := T0.out.frozen 1
      have cT2 : W0.cell? ⟨w.heap.size, 2, none⟩ = some (.int .i64 x) := T0.out.cell 2
      have cTf2 := T0.out.frozen 2
      have cT3 : W0.cell? ⟨w.heap.size, 3, none⟩ = some (.int .i64 y) := T0.out.cell 3
      have cTf3 := T0.out.frozen 3
      have cT4 : W0.cell? ⟨w.heap.size, 4, none⟩ = some (.int .i64 h) := T0.out.cell 4
      have cTf4 := T0.out.frozen 4
      have cT5 : W0.cell? ⟨w.heap.size, 5, none⟩ = some (.int .i64 l) := T0.out.cell 5
      have cTf5 := T0.out.frozen 5
      go_wp2_with fail
      refine (H.out W0 T0.out.1).mono ?_
      rintro e W1 ⟨ho_, hb⟩
      obtain rfl := ho_.2.1 rfl
      clear cT0 cTf0 cT1 cTf1 cT2 cTf2 cT3 cTf3 cT4 cTf4 cT5 cTf5
      clear p0 p1 H
      have T1 := Lib.hid (T0.out.old hb)
      have R1 := Lib.hid (R0.out.old hb)
      clear T0 R0
      clear hb
      have cR0 : W1.cell? ⟨w.heap.size + 1, 0, none⟩ = some (.int .i64 0) := R1.out.cell 0
      have cRf0 := R1.out.frozen 0
      have cR1 : W1.cell? ⟨w.heap.size + 1, 1, none⟩ = some (.int .i64 0) := R1.out.cell 1
      have cRf1 := R1.out.frozen 1
      have cR2 : W1.cell? ⟨w.heap.size + 1, 2, none⟩ = some (.int .i64 0) := R1.out.cell 2
      have cRf2 := R1.out.frozen 2
      have cR3 : W1.cell? ⟨w.heap.size + 1, 3, none⟩ = some (.int .i64 0) := R1.out.cell 3
      have cRf3 := R1.out.frozen 3
      have cR4 : W1.cell? ⟨w.heap.size + 1, 4, none⟩ = some (.int .i64 0) := R1.out.cell 4
      have cRf4 := R1.out.frozen 4
      have cR5 : W1.cell? ⟨w.heap.size + 1, 5, none⟩ = some (.int .i64 0) := R1.out.cell 5
      have cRf5 := R1.out.frozen 5
      have HE := Lib.hid ((((((R1.out.set 0 (.int .i64 0)).set 1 (.int .i64 0)).set 2 (.int .i64 0)).set 3 (.int .i64 0)).set 4 (.int .i64 0)).set 5 (.int .i64 0))
      go_wp2_with fail
      have hl := HE.out.load Tryz.underlying25 rfl (by kernel_rfl)
      refine bodyPost_ret (v := .tuple #[.agg #[.int .i64 0, .int .i64 0, .int .i64 0, .int .i64 0, .int .i64 0, .int .i64 0], .iface 138 (.agg #[])]) ?_ rfl ⟨out_drop, HE.out.1⟩
      rw [results_cell_tmp rfl]
      simp [asAddr, Result.andThen, hl]
    · have T0 := Lib.hid ((newS 25 #[.int .i64 i, .int .i64 s, .int .i64 x, .int .i64 y, .int .i64 h, .int .i64 l] w).alloc (.cells #[.int .i64 0, .int .i64 0, .int .i64 0, .int .i64 0, .int .i64 0, .int .i64 0] 25))
      have R0 := Lib.hid ((newS 25 #[.int .i64 i, .int .i64 s, .int .i64 x, .int .i64 y, .int .i64 h, .int .i64 l] w).next 25 #[.int .i64 0, .int .i64 0, .int .i64 0, .int .i64 0, .int .i64 0, .int .i64 0])
      rw [World.size_alloc] at R0
      go_enter Tryz.func84, Tryz.ntmps84
      go_upto_region 1 with fail
      generalize (w.alloc (.cells #[.int .i64 i, .int .i64 s, .int .i64 x, .int .i64 y, .int .i64 h, .int .i64 l] 25)).alloc (.cells #[.int .i64 0, .int .i64 0, .int .i64 0, .int .i64 0, .int .i64 0, .int .i64 0] 25) = W0 at *
      have p0 : W0.cell? ⟨ib, 0, none⟩ = some (.int .i64 d) := (T0.out.1.cell hib).trans c0
      have p1 : W0.cell? ⟨cb, 0, none⟩ = some (.func (.func 89) #[] #[]) := (T0.out.1.cell hcb).trans c1
      have cT0 : W0.cell? ⟨w.heap.size, 0, none⟩ = some (.int .i64 i) := T0.out.cell 0
      have cTf0 := T0.out.frozen 0
      have cT1 : W0.cell? ⟨w.heap.size, 1, none⟩ = some (.int .i64 s) := T0.out.cell 1
      have cTf1 := T0.out.frozen 1
      have cT2 : W0.cell? ⟨w.heap.size, 2, none⟩ = some (.int .i64 x) := T0.out.cell 2
      have cTf2 := T0.out.frozen 2
      have cT3 : W0.cell? ⟨w.heap.size, 3, none⟩ = some (.int .i64 y) := T0.out.cell 3
      have cTf3 := T0.out.frozen 3
      have cT4 : W0.cell? ⟨w.heap.size, 4, none⟩ = some (.int .i64 h) := T0.out.cell 4
      have cTf4 := T0.out.frozen 4
      have cT5 : W0.cell? ⟨w.heap.size, 5, none⟩ = some (.int .i64 l) := T0.out.cell 5
      have cTf5 := T0.out.frozen 5
      go_wp2_with fail
      refine (H.out W0 T0.out.1).mono ?_
      rintro e W1 ⟨ho_, hb⟩
      obtain ⟨ae, rfl⟩ := ho_.2.2 rfl
      clear cT0 cTf0 cT1 cTf1 cT2 cTf2 cT3 cTf3 cT4 cTf4 cT5 cTf5
      clear p0 p1 H
      have T1 := Lib.hid (T0.out.old hb)
      have R1 := Lib.hid (R0.out.old hb)
      clear T0 R0
      clear hb
      have cR0 : W1.cell? ⟨w.heap.size + 1, 0, none⟩ = some (.int .i64 0) := R1.out.cell 0
      have cRf0 := R1.out.frozen 0
      have cR1 : W1.cell? ⟨w.heap.size + 1, 1, none⟩ = some (.int .i64 0) := R1.out.cell 1
      have cRf1 := R1.out.frozen 1
      have cR2 : W1.cell? ⟨w.heap.size + 1, 2, none⟩ = some (.int .i64 0) := R1.out.cell 2
      have cRf2 := R1.out.frozen 2
      have cR3 : W1.cell? ⟨w.heap.size + 1, 3, none⟩ = some (.int .i64 0) := R1.out.cell 3
      have cRf3 := R1.out.frozen 3
      have cR4 : W1.cell? ⟨w.heap.size + 1, 4, none⟩ = some (.int .i64 0) := R1.out.cell 4
      have cRf4 := R1.out.frozen 4
      have cR5 : W1.cell? ⟨w.heap.size + 1, 5, none⟩ = some (.int .i64 0) := R1.out.cell 5
      have cRf5 := R1.out.frozen 5
      have HE := Lib.hid ((((((R1.out.set 0 (.int .i64 0)).set 1 (.int .i64 0)).set 2 (.int .i64 0)).set 3 (.int .i64 0)).set 4 (.int .i64 0)).set 5 (.int .i64 0))
      go_wp2_with fail
      have hl := HE.out.load Tryz.underlying25 rfl (by kernel_rfl)
      refine bodyPost_ret (v := .tuple #[.agg #[.int .i64 0, .int .i64 0, .int .i64 0, .int .i64 0, .int .i64 0, .int .i64 0], .iface 190 ae]) ?_ rfl ⟨out_fail ae, HE.out.1⟩
      rw [results_cell_tmp rfl]
      simp [asAddr, Result.andThen, hl]
  · rw [if_neg hid]
    have gd : (i != d) = true := bne_iff_ne.mpr hid
    clear hid H H3
    have T0 := Lib.hid ((newS 25 #[.int .i64 i, .int .i64 s, .int .i64 x, .int .i64 y, .int .i64 h, .int .i64 l] w).alloc (.cells #[.int .i64 0, .int .i64 0, .int .i64 0, .int .i64 0, .int .i64 0, .int .i64 0] 25))
    have R0 := Lib.hid ((newS 25 #[.int .i64 i, .int .i64 s, .int .i64 x, .int .i64 y, .int .i64 h, .int .i64 l] w).next 25 #[.int .i64 0, .int .i64 0, .int .i64 0, .int .i64 0, .int .i64 0, .int .i64 0])
    rw [World.size_alloc] at R0
    go_enter Tryz.func84, Tryz.ntmps84
    go_upto_region 1 with fail
    generalize (w.alloc (.cells #[.int .i64 i, .int .i64 s, .int .i64 x, .int .i64 y, .int .i64 h, .int .i64 l] 25)).alloc (.cells #[.int .i64 0, .int .i64 0, .int .i64 0, .int .i64 0, .int .i64 0, .int .i64 0] 25) = W0 at *
    have p0 : W0.cell? ⟨ib, 0, none⟩ = some (.int .i64 d) := (T0.out.1.cell hib).trans c0
    have p1 : W0.cell? ⟨cb, 0, none⟩ = some (.func (.func 89) #[] #[]) := (T0.out.1.cell hcb).trans c1
    have cT0 : W0.cell? ⟨w.heap.size, 0, none⟩ = some (.int .i64 i) := T0.out.cell 0
    have cTf0 := T0.out.frozen 0
    have cT1 : W0.cell? ⟨w.heap.size, 1, none⟩ = some (.int .i64 s) := T0.out.cell 1
    have cTf1 := T0.out.frozen 1
    have cT2 : W0.cell? ⟨w.heap.size, 2, none⟩ = some (.int .i64 x) := T0.out.cell 2
    have cTf2 := T0.out.frozen 2
    have cT3 : W0.cell? ⟨w.heap.size, 3, none⟩ = some (.int .i64 y) := T0.out.cell 3
    have cTf3 := T0.out.frozen 3
    have cT4 : W0.cell? ⟨w.heap.size, 4, none⟩ = some (.int .i64 h) := T0.out.cell 4
    have cTf4 := T0.out.frozen 4
    have cT5 : W0.cell? ⟨w.heap.size, 5, none⟩ = some (.int .i64 l) := T0.out.cell 5
    have cTf5 := T0.out.frozen 5
    have cR0 : W0.cell? ⟨w.heap.size + 1, 0, none⟩ = some (.int .i64 0) := R0.out.cell 0
    have cRf0 := R0.out.frozen 0
    have cR1 : W0.cell? ⟨w.heap.size + 1, 1, none⟩ = some (.int .i64 0) := R0.out.cell 1
    have cRf1 := R0.out.frozen 1
    have cR2 : W0.cell? ⟨w.heap.size + 1, 2, none⟩ = some (.int .i64 0) := R0.out.cell 2
    have cRf2 := R0.out.frozen 2
    have cR3 : W0.cell? ⟨w.heap.size + 1, 3, none⟩ = some (.int .i64 0) := R0.out.cell 3
    have cRf3 := R0.out.frozen 3
    have cR4 : W0.cell? ⟨w.heap.size + 1, 4, none⟩ = some (.int .i64 0) := R0.out.cell 4
    have cRf4 := R0.out.frozen 4
    have cR5 : W0.cell? ⟨w.heap.size + 1, 5, none⟩ = some (.int .i64 0) := R0.out.cell 5
    have cRf5 := R0.out.frozen 5
    have HE := Lib.hid ((((((R0.out.set 0 (.int .i64 i)).set 1 (.int .i64 s)).set 2 (.int .i64 x)).set 3 (.int .i64 y)).set 4 (.int .i64 h)).set 5 (.int .i64 l))
    go_wp2_with fail
    have hl := HE.out.load Tryz.underlying25 rfl (by kernel_rfl)
    refine bodyPost_ret (v := .tuple #[.agg #[.int .i64 i, .int .i64 s, .int .i64 x, .int .i64 y, .int .i64 h, .int .i64 l], .nilIface]) ?_ rfl ⟨out_six _ _ _ _ _ _, HE.out.1⟩
    rw [results_cell_tmp rfl]
    simp [asAddr, Result.andThen, hl]

theorem idx_of {ids : List Int} {m : Nat} (d : Int) (hm : ids.length = m) : Lib.idxOf (ids.take m) d = if idx ids d m < m then ((idx ids d m : Nat) : Int) else -1 := by
  by_cases h : idx ids d m < m
  · rw [if_pos h]
    exact Lib.idxOf_hit ids m _ d h (Nat.le_of_eq hm.symm) (idx_at h) (fun j hj => idx_low j hj)
  · rw [if_neg h]
    have hle := idx_le ids d m
    exact Lib.idxOf_miss ids m d (fun j hj => idx_low (m := m) j (by omega))
theorem indexI (ids : List Int) (d : Int) (A : Option Addr) (m c : Nat) (w : World) (hm : m ≤ 1048577) (h : RdI w w.heap.size A m ids) :
    Calls Tryz.prog 88 #[.slice A m c, .int .i64 d] w fun e w' => e = .returned (.int .i64 (if idx ids d m < m then ((idx ids d m : Nat) : Int) else -1)) ∧ w' = w := by
  rcases Nat.eq_zero_or_pos m with h0 | h0
  · subst h0
    exact Tryz.slices_Index_int_empty A c d w
  · obtain ⟨b, o, rfl, hb, hc⟩ := h.2 h0
    rw [← idx_of d h.1]
    exact Tryz.slices_Index_int b o m c ids d w (Nat.le_of_eq h.1.symm) (by omega) (fun j hj => by
      refine hc j _ ?_
      rw [List.getD_eq_getElem?_getD, List.getElem?_eq_getElem hj]; rfl)
set_option maxRecDepth 100000 in
set_option maxHeartbeats 2000000 in
theorem scanMiss (i s x y h l : Int) (ib qb : Nat) (ids : List Int) (C D : Option Addr) (m cq n2 c2 : Nat) (w : World) (hm : m ≤ 1048577) (hl0 : -1000000 ≤ l) (hl1 : l ≤ 1000000) (c0 : w.cell? ⟨ib, 0, none⟩ = some (.slice C m cq)) (c1 : w.cell? ⟨qb, 0, none⟩ = some (.slice D n2 c2)) (hr : RdI w w.heap.size C m ids)
    (hj : ¬ idx ids i m < m) :
    Calls Tryz.prog 87 #[.agg #[.int .i64 i, .int .i64 s, .int .i64 x, .int .i64 y, .int .i64 h, .int .i64 l], .pointer (some ⟨ib, 0, none⟩), .pointer (some ⟨qb, 0, none⟩)] w fun e w' => Out (missO i x y h l) e ∧ Below w.heap.size w w' := by
  have hib := World.block_lt_of_cell? _ _ c0
  have hqb := World.block_lt_of_cell? _ _ c1
  have IX := Lib.hid (fun W (hb : Below w.heap.size w W) => indexI ids i C m cq W hm (hr.next hb))
  rw [if_neg hj] at IX
  have H := Lib.hid (fun W => missOf i s x y h l W hl0 hl1)
  have H3 := three_miss i x y h l
  generalize missO i x y h l = o at *
  clear hr hj
  rcases H3 with ⟨a_, b_, d_, f_, g_, k_, rfl⟩ | rfl | rfl
  · have T0 := Lib.hid ((newS 25 #[.int .i64 i, .int .i64 s, .int .i64 x, .int .i64 y, .int .i64 h, .int .i64 l] w).alloc (.cells #[.int .i64 0, .int .i64 0, .int .i64 0, .int .i64 0, .int .i64 0, .int .i64 0] 25))
    have R0 := Lib.hid ((newS 25 #[.int .i64 i, .int .i64 s, .int .i64 x, .int .i64 y, .int .i64 h, .int .i64 l] w).next 25 #[.int .i64 0, .int .i64 0, .int .i64 0, .int .i64 0, .int .i64 0, .int .i64 0])
    rw [World.size_alloc] at R0
    go_enter Tryz.func87, Tryz.ntmps87
    go_upto_region 1 with fail
    generalize (w.alloc (.cells #[.int .i64 i, .int .i64 s, .int .i64 x, .int .i64 y, .int .i64 h, .int .i64 l] 25)).alloc (.cells #[.int .i64 0, .int .i64 0, .int .i64 0, .int .i64 0, .int .i64 0, .int .i64 0] 25) = W0 at *
    have q0 : W0.cell? ⟨ib, 0, none⟩ = some (.slice C m cq) := (T0.out.1.cell hib).trans c0
    have cT0 : W0.cell? ⟨w.heap.size, 0, none⟩ = some (.int .i64 i) := T0.out.cell 0
    have cTf0 := T0.out.frozen 0
    have cT1 : W0.cell? ⟨w.heap.size, 1, none⟩ = some (.int .i64 s) := T0.out.cell 1
    have cTf1 := T0.out.frozen 1
    have cT2 : W0.cell? ⟨w.heap.size, 2, none⟩ = some (.int .i64 x) := T0.out.cell 2
    have cTf2 := T0.out.frozen 2
    have cT3 : W0.cell? ⟨w.heap.size, 3, none⟩ = some (.int .i64 y) := T0.out.cell 3
    have cTf3 := T0.out.frozen 3
    have cT4 : W0.cell? ⟨w.heap.size, 4, none⟩ = some (.int .i64 h) := T0.out.cell 4
    have cTf4 := T0.out.frozen 4
    have cT5 : W0.cell? ⟨w.heap.size, 5, none⟩ = some (.int .i64 l) := T0.out.cell 5
    have cTf5 := T0.out.frozen 5
    go_wp2_with fail
    refine (IX.out W0 T0.out.1).mono ?_
    rintro e w' ⟨rfl, hw'⟩
    subst w'
    go_wp2_with fail
    refine (H.out W0).mono ?_
    rintro e W1 ⟨ho_, hb⟩
    obtain rfl := ho_.1 _ _ _ _ _ _ rfl
    clear cT0 cTf0 cT1 cTf1 cT2 cTf2 cT3 cTf3 cT4 cTf4 cT5 cTf5
    clear q0 H IX
    have T1 := Lib.hid (T0.out.old hb)
    have R1 := Lib.hid (R0.out.old hb)
    clear T0 R0
    clear hb
    have cR0 : W1.cell? ⟨w.heap.size + 1, 0, none⟩ = some (.int .i64 0) := R1.out.cell 0
    have cRf0 := R1.out.frozen 0
    have cR1 : W1.cell? ⟨w.heap.size + 1, 1, none⟩ = some (.int .i64 0) := R1.out.cell 1
    have cRf1 := R1.out.frozen 1
    have cR2 : W1.cell? ⟨w.heap.size + 1, 2, none⟩ = some (.int .i64 0) := R1.out.cell 2
    have cRf2 := R1.out.frozen 2
    have cR3 : W1.cell? ⟨w.heap.size + 1, 3, none⟩ = some (.int .i64 0) := R1.out.cell 3
    have cRf3 := R1.out.frozen 3
    have cR4 : W1.cell? ⟨w.heap.size + 1, 4, none⟩ = some (.int .i64 0) := R1.out.cell 4
    have cRf4 := R1.out.frozen 4
    have cR5 : W1.cell? ⟨w.heap.size + 1, 5, none⟩ = some (.int .i64 0) := R1.out.cell 5
    have cRf5 := R1.out.frozen 5
    have HE := Lib.hid ((((((R1.out.set 0 (.int .i64 a_)).set 1 (.int .i64 b_)).set 2 (.int .i64 d_)).set 3 (.int .i64 f_)).set 4 (.int .i64 g_)).set 5 (.int .i64 k_))
    go_wp2_with fail
    have hl := HE.out.load Tryz.underlying25 rfl (by kernel_rfl)
    refine bodyPost_ret (v := .tuple #[.agg #[.int .i64 a_, .int .i64 b_, .int .i64 d_, .int .i64 f_, .int .i64 g_, .int .i64 k_], .nilIface]) ?_ rfl ⟨out_six _ _ _ _ _ _, HE.out.1⟩
    rw [results_cell_tmp rfl]
    simp [asAddr, Result.andThen, hl]
  · have T0 := Lib.hid ((newS 25 #[.int .i64 i, .int .i64 s, .int .i64 x, .int .i64 y, .int .i64 h, .int .i64 l] w).alloc (.cells #[.int .i64 0, .int .i64 0, .int .i64 0, .int .i64 0, .int .i64 0, .int .i64 0] 25))
    have R0 := Lib.hid ((newS 25 #[.int .i64 i, .int .i64 s, .int .i64 x, .int .i64 y, .int .i64 h, .int .i64 l] w).next 25 #[.int .i64 0, .int .i64 0, .int .i64 0, .int .i64 0, .int .i64 0, .int .i64 0])
    rw [World.size_alloc] at R0
    go_enter Tryz.func87, Tryz.ntmps87
    go_upto_region 1 with fail
    generalize (w.alloc (.cells #[.int .i64 i, .int .i64 s, .int .i64 x, .int .i64 y, .int .i64 h, .int .i64 l] 25)).alloc (.cells #[.int .i64 0, .int .i64 0, .int .i64 0, .int .i64 0, .int .i64 0, .int .i64 0] 25) = W0 at *
    have q0 : W0.cell? ⟨ib, 0, none⟩ = some (.slice C m cq) := (T0.out.1.cell hib).trans c0
    have cT0 : W0.cell? ⟨w.heap.size, 0, none⟩ = some (.int .i64 i) := T0.out.cell 0
    have cTf0 := T0.out.frozen 0
    have cT1 : W0.cell? ⟨w.heap.size, 1, none⟩ = some (.int .i64 s) := T0.out.cell 1
    have cTf1 := T0.out.frozen 1
    have cT2 : W0.cell? ⟨w.heap.size, 2, none⟩ = some (.int .i64 x) := T0.out.cell 2
    have cTf2 := T0.out.frozen 2
    have cT3 : W0.cell? ⟨w.heap.size, 3, none⟩ = some (.int .i64 y) := T0.out.cell 3
    have cTf3 := T0.out.frozen 3
    have cT4 : W0.cell? ⟨w.heap.size, 4, none⟩ = some (.int .i64 h) := T0.out.cell 4
    have cTf4 := T0.out.frozen 4
    have cT5 : W0.cell? ⟨w.heap.size, 5, none⟩ = some (.int .i64 l) := T0.out.cell 5
    have cTf5 := T0.out.frozen 5
    go_wp2_with fail
    refine (IX.out W0 T0.out.1).mono ?_
    rintro e w' ⟨rfl, hw'⟩
    subst w'
    go_wp2_with fail
    refine (H.out W0).mono ?_
    rintro e W1 ⟨ho_, hb⟩
    obtain rfl := ho_.2.1 rfl
    clear cT0 cTf0 cT1 cTf1 cT2 cTf2 cT3 cTf3 cT4 cTf4 cT5 cTf5
    clear q0 H IX
    have T1 := Lib.hid (T0.out.old hb)
    have R1 := Lib.hid (R0.out.old hb)
    clear T0 R0
    clear hb
    have cR0 : W1.cell? ⟨w.heap.size + 1, 0, none⟩ = some (.int .i64 0) := R1.out.cell 0
    have cRf0 := R1.out.frozen 0
    have cR1 : W1.cell? ⟨w.heap.size + 1, 1, none⟩ = some (.int .i64 0) := R1.out.cell 1
    have cRf1 := R1.out.frozen 1
    have cR2 : W1.cell? ⟨w.heap.size + 1, 2, none⟩ = some (.int .i64 0) := R1.out.cell 2
    have cRf2 := R1.out.frozen 2
    have cR3 : W1.cell? ⟨w.heap.size + 1, 3, none⟩ = some (.int .i64 0) := R1.out.cell 3
    have cRf3 := R1.out.frozen 3
    have cR4 : W1.cell? ⟨w.heap.size + 1, 4, none⟩ = some (.int .i64 0) := R1.out.cell 4
    have cRf4 := R1.out.frozen 4
    have cR5 : W1.cell? ⟨w.heap.size + 1, 5, none⟩ = some (.int .i64 0) := R1.out.cell 5
    have cRf5 := R1.out.frozen 5
    have HE := Lib.hid ((((((R1.out.set 0 (.int .i64 0)).set 1 (.int .i64 0)).set 2 (.int .i64 0)).set 3 (.int .i64 0)).set 4 (.int .i64 0)).set 5 (.int .i64 0))
    go_wp2_with fail
    have hl := HE.out.load Tryz.underlying25 rfl (by kernel_rfl)
    refine bodyPost_ret (v := .tuple #[.agg #[.int .i64 0, .int .i64 0, .int .i64 0, .int .i64 0, .int .i64 0, .int .i64 0], .iface 138 (.agg #[])]) ?_ rfl ⟨out_drop, HE.out.1⟩
    rw [results_cell_tmp rfl]
    simp [asAddr, Result.andThen, hl]
  · have T0 := Lib.hid ((newS 25 #[.int .i64 i, .int .i64 s, .int .i64 x, .int .i64 y, .int .i64 h, .int .i64 l] w).alloc (.cells #[.int .i64 0, .int .i64 0, .int .i64 0, .int .i64 0, .int .i64 0, .int .i64 0] 25))
    have R0 := Lib.hid ((newS 25 #[.int .i64 i, .int .i64 s, .int .i64 x, .int .i64 y, .int .i64 h, .int .i64 l] w).next 25 #[.int .i64 0, .int .i64 0, .int .i64 0, .int .i64 0, .int .i64 0, .int .i64 0])
    rw [World.size_alloc] at R0
    go_enter Tryz.func87, Tryz.ntmps87
    go_upto_region 1 with fail
    generalize (w.alloc (.cells #[.int .i64 i, .int .i64 s, .int .i64 x, .int .i64 y, .int .i64 h, .int .i64 l] 25)).alloc (.cells #[.int .i64 0, .int .i64 0, .int .i64 0, .int .i64 0, .int .i64 0, .int .i64 0] 25) = W0 at *
    have q0 : W0.cell? ⟨ib, 0, none⟩ = some (.slice C m cq) := (T0.out.1.cell hib).trans c0
    have cT0 : W0.cell? ⟨w.heap.size, 0, none⟩ = some (.int .i64 i) := T0.out.cell 0
    have cTf0 := T0.out.frozen 0
    have cT1 : W0.cell? ⟨w.heap.size, 1, none⟩ = some (.int .i64 s) := T0.out.cell 1
    have cTf1 := T0.out.frozen 1
    have cT2 : W0.cell? ⟨w.heap.size, 2, none⟩ = some (.int .i64 x) := T0.out.cell 2
    have cTf2 := T0.out.frozen 2
    have cT3 : W0.cell? ⟨w.heap.size, 3, none⟩ = some (.int .i64 y) := T0.out.cell 3
    have cTf3 := T0.out.frozen 3
    have cT4 : W0.cell? ⟨w.heap.size, 4, none⟩ = some (.int .i64 h) := T0.out.cell 4
    have cTf4 := T0.out.frozen 4
    have cT5 : W0.cell? ⟨w.heap.size, 5, none⟩ = some (.int .i64 l) := T0.out.cell 5
    have cTf5 := T0.out.frozen 5
    go_wp2_with fail
    refine (IX.out W0 T0.out.1).mono ?_
    rintro e w' ⟨rfl, hw'⟩
    subst w'
    go_wp2_with fail
    refine (H.out W0).mono ?_
    rintro e W1 ⟨ho_, hb⟩
    obtain ⟨ae, rfl⟩ := ho_.2.2 rfl
    clear cT0 cTf0 cT1 cTf1 cT2 cTf2 cT3 cTf3 cT4 cTf4 cT5 cTf5
    clear q0 H IX
    have T1 := Lib.hid (T0.out.old hb)
    have R1 := Lib.hid (R0.out.old hb)
    clear T0 R0
    clear hb
    have cR0 : W1.cell? ⟨w.heap.size + 1, 0, none⟩ = some (.int .i64 0) := R1.out.cell 0
    have cRf0 := R1.out.frozen 0
    have cR1 : W1.cell? ⟨w.heap.size + 1, 1, none⟩ = some (.int .i64 0) := R1.out.cell 1
    have cRf1 := R1.out.frozen 1
    have cR2 : W1.cell? ⟨w.heap.size + 1, 2, none⟩ = some (.int .i64 0) := R1.out.cell 2
    have cRf2 := R1.out.frozen 2
    have cR3 : W1.cell? ⟨w.heap.size + 1, 3, none⟩ = some (.int .i64 0) := R1.out.cell 3
    have cRf3 := R1.out.frozen 3
    have cR4 : W1.cell? ⟨w.heap.size + 1, 4, none⟩ = some (.int .i64 0) := R1.out.cell 4
    have cRf4 := R1.out.frozen 4
    have cR5 : W1.cell? ⟨w.heap.size + 1, 5, none⟩ = some (.int .i64 0) := R1.out.cell 5
    have cRf5 := R1.out.frozen 5
    have HE := Lib.hid ((((((R1.out.set 0 (.int .i64 0)).set 1 (.int .i64 0)).set 2 (.int .i64 0)).set 3 (.int .i64 0)).set 4 (.int .i64 0)).set 5 (.int .i64 0))
    go_wp2_with fail
    have hl := HE.out.load Tryz.underlying25 rfl (by kernel_rfl)
    refine bodyPost_ret (v := .tuple #[.agg #[.int .i64 0, .int .i64 0, .int .i64 0, .int .i64 0, .int .i64 0, .int .i64 0], .iface 190 ae]) ?_ rfl ⟨out_fail ae, HE.out.1⟩
    rw [results_cell_tmp rfl]
    simp [asAddr, Result.andThen, hl]

set_option maxRecDepth 100000 in
set_option maxHeartbeats 2000000 in
theorem scanHit (i s x y h l u v : Int) (ib qb : Nat) (ids : List Int) (C D : Option Addr) (m cq n2 c2 j : Nat) (w : World) (hm : m ≤ 1048577) (hh0 : -1000000 ≤ h) (hh1 : h ≤ 1000000) (hx : Ex w) (c0 : w.cell? ⟨ib, 0, none⟩ = some (.slice C m cq)) (c1 : w.cell? ⟨qb, 0, none⟩ = some (.slice D n2 c2)) (hr : RdI w w.heap.size C m ids)
    (hj : idx ids i m = j) (hjm : j < m) (hjn : j < n2) (bD oD : Nat) (eD : D = some ⟨bD, oD, none⟩) (p0 : w.cell? ⟨bD, oD + j * 2, none⟩ = some (.int .i64 u)) (p1 : w.cell? ⟨bD, oD + j * 2 + 1, none⟩ = some (.int .i64 v)) :
    Calls Tryz.prog 87 #[.agg #[.int .i64 i, .int .i64 s, .int .i64 x, .int .i64 y, .int .i64 h, .int .i64 l], .pointer (some ⟨ib, 0, none⟩), .pointer (some ⟨qb, 0, none⟩)] w fun e w' => Out (hitO i h u v) e ∧ Below w.heap.size w w' := by
  have hib := World.block_lt_of_cell? _ _ c0
  have hqb := World.block_lt_of_cell? _ _ c1
  subst eD
  have hbD := World.block_lt_of_cell? _ _ p0
  have IX := Lib.hid (fun W (hb : Below w.heap.size w W) => indexI ids i C m cq W hm (hr.next hb))
  rw [hj, if_pos hjm] at IX
  have H := Lib.hid (fun W (hb : Below w.heap.size w W) => hitAt i s x y h l u v W hh0 hh1 (ex_on hx hb))
  have H3 := three_hit i h u v
  have hj0 : (0 : Int) ≤ (j : Int) := Int.natCast_nonneg _
  have hj2 : (j : Int) < (n2 : Int) := by omega
  generalize hitO i h u v = o at *
  clear hr hj hx
  rcases H3 with ⟨a_, b_, d_, f_, g_, k_, rfl⟩ | rfl | rfl
  · have T0 := Lib.hid ((newS 25 #[.int .i64 i, .int .i64 s, .int .i64 x, .int .i64 y, .int .i64 h, .int .i64 l] w).alloc (.cells #[.int .i64 0, .int .i64 0, .int .i64 0, .int .i64 0, .int .i64 0, .int .i64 0] 25))
    have R0 := Lib.hid ((newS 25 #[.int .i64 i, .int .i64 s, .int .i64 x, .int .i64 y, .int .i64 h, .int .i64 l] w).next 25 #[.int .i64 0, .int .i64 0, .int .i64 0, .int .i64 0, .int .i64 0, .int .i64 0])
    rw [World.size_alloc] at R0
    go_enter Tryz.func87, Tryz.ntmps87
    go_upto_region 1 with fail
    generalize (w.alloc (.cells #[.int .i64 i, .int .i64 s, .int .i64 x, .int .i64 y, .int .i64 h, .int .i64 l] 25)).alloc (.cells #[.int .i64 0, .int .i64 0, .int .i64 0, .int .i64 0, .int .i64 0, .int .i64 0] 25) = W0 at *
    have q0 : W0.cell? ⟨ib, 0, none⟩ = some (.slice C m cq) := (T0.out.1.cell hib).trans c0
    have cT0 : W0.cell? ⟨w.heap.size, 0, none⟩ = some (.int .i64 i) := T0.out.cell 0
    have cTf0 := T0.out.frozen 0
    have cT1 : W0.cell? ⟨w.heap.size, 1, none⟩ = some (.int .i64 s) := T0.out.cell 1
    have cTf1 := T0.out.frozen 1
    have cT2 : W0.cell? ⟨w.heap.size, 2, none⟩ = some (.int .i64 x) := T0.out.cell 2
    have cTf2 := T0.out.frozen 2
    have cT3 : W0.cell? ⟨w.heap.size, 3, none⟩ = some (.int .i64 y) := T0.out.cell 3
    have cTf3 := T0.out.frozen 3
    have cT4 : W0.cell? ⟨w.heap.size, 4, none⟩ = some (.int .i64 h) := T0.out.cell 4
    have cTf4 := T0.out.frozen 4
    have cT5 : W0.cell? ⟨w.heap.size, 5, none⟩ = some (.int .i64 l) := T0.out.cell 5
    have cTf5 := T0.out.frozen 5
    go_wp2_with fail
    refine (IX.out W0 T0.out.1).mono ?_
    rintro e w' ⟨rfl, hw'⟩
    subst w'
    clear q0 IX
    clear cT0 cTf0 cT1 cTf1 cT2 cTf2 cT3 cTf3 cT4 cTf4 cT5 cTf5
    have CS := Lib.hid (show ∀ WZ : World, AtS 25 #[.int .i64 i, .int .i64 s, .int .i64 x, .int .i64 y, .int .i64 h, .int .i64 l] w WZ w.heap.size → (World.cell? WZ ⟨w.heap.size, 0, none⟩ = some (.int .i64 i) ∧ World.cell? WZ ⟨w.heap.size, 1, none⟩ = some (.int .i64 s) ∧ World.cell? WZ ⟨w.heap.size, 2, none⟩ = some (.int .i64 x) ∧ World.cell? WZ ⟨w.heap.size, 3, none⟩ = some (.int .i64 y) ∧ World.cell? WZ ⟨w.heap.size, 4, none⟩ = some (.int .i64 h) ∧ World.cell? WZ ⟨w.heap.size, 5, none⟩ = some (.int .i64 l) ∧ World.cell? WZ ⟨qb, 0, none⟩ = some (.slice (some ⟨bD, oD, none⟩) n2 c2) ∧ World.cell? WZ ⟨bD, oD + j * 2, none⟩ = some (.int .i64 u) ∧ World.cell? WZ ⟨bD, oD + j * 2 + 1, none⟩ = some (.int .i64 v)) from fun WZ hz =>
      ⟨hz.cell 0, hz.cell 1, hz.cell 2, hz.cell 3, hz.cell 4, hz.cell 5, (hz.1.cell hqb).trans c1, (hz.1.cell (p := ⟨bD, oD + j * 2, none⟩) hbD).trans p0, (hz.1.cell (p := ⟨bD, oD + j * 2 + 1, none⟩) hbD).trans p1⟩)
    go_upto_region 3 with fail
    have BW := Lib.hid (T0.out.1.drew)
    have HSd := Lib.hid (CS.out W0.drew T0.out.drew)
    refine wp_region_tail (S := fun w' => World.cell? w' ⟨w.heap.size, 0, none⟩ = some (.int .i64 i) ∧ World.cell? w' ⟨w.heap.size, 1, none⟩ = some (.int .i64 s) ∧ World.cell? w' ⟨w.heap.size, 2, none⟩ = some (.int .i64 x) ∧ World.cell? w' ⟨w.heap.size, 3, none⟩ = some (.int .i64 y) ∧ World.cell? w' ⟨w.heap.size, 4, none⟩ = some (.int .i64 h) ∧ World.cell? w' ⟨w.heap.size, 5, none⟩ = some (.int .i64 l) ∧ World.cell? w' ⟨qb, 0, none⟩ = some (.slice (some ⟨bD, oD, none⟩) n2 c2) ∧ World.cell? w' ⟨bD, oD + j * 2, none⟩ = some (.int .i64 u) ∧ World.cell? w' ⟨bD, oD + j * 2 + 1, none⟩ = some (.int .i64 v)) 9 (by kernel_rfl) HSd.out (fun hHeld => ?_)
    try simp only [Act.put, List.getElem_toArray, List.getElem_cons_succ, List.getElem_cons_zero, List.setIfInBounds_toArray, List.set_cons_succ, List.set_cons_zero]
    refine wpAnyE_take (i := 0) (v := ?vq4y0) rfl (by decide +kernel) (fun _ _ _ h => h) (Or.inl ⟨by kernel_rfl, ?hq4y0⟩) (by assumption) ?rq4y0
    case hq4y0 =>
      intro wS hSw
      obtain ⟨h0, h1, h2, h3, h4, h5, h6, h7, h8⟩ := hSw
      go_simp
      try with_reducible rfl
    try simp only [Act.put, List.getElem_toArray, List.getElem_cons_succ, List.getElem_cons_zero, List.setIfInBounds_toArray, List.set_cons_succ, List.set_cons_zero]
    refine wpAnyE_take (i := 1) (v := ?vq4y1) rfl (by decide +kernel) (fun _ _ _ h => h) (Or.inl ⟨by kernel_rfl, ?hq4y1⟩) (by assumption) ?rq4y1
    case hq4y1 =>
      intro wS hSw
      obtain ⟨h0, h1, h2, h3, h4, h5, h6, h7, h8⟩ := hSw
      go_simp
      try with_reducible rfl
    try simp only [Act.put, List.getElem_toArray, List.getElem_cons_succ, List.getElem_cons_zero, List.setIfInBounds_toArray, List.set_cons_succ, List.set_cons_zero]
    refine wpAnyE_take (i := 2) (v := ?vq4y2) rfl (by decide +kernel) (fun _ _ _ h => h) (Or.inl ⟨by kernel_rfl, ?hq4y2⟩) (by assumption) ?rq4y2
    case hq4y2 =>
      intro wS hSw
      obtain ⟨h0, h1, h2, h3, h4, h5, h6, h7, h8⟩ := hSw
      go_simp
      try with_reducible rfl
    try simp only [Act.put, List.getElem_toArray, List.getElem_cons_succ, List.getElem_cons_zero, List.setIfInBounds_toArray, List.set_cons_succ, List.set_cons_zero]
    refine wpAnyE_take (i := 3) (v := ?vq4y3) rfl (by decide +kernel) (fun _ _ _ h => h) (Or.inl ⟨by kernel_rfl, ?hq4y3⟩) (by assumption) ?rq4y3
    case hq4y3 =>
      intro wS hSw
      obtain ⟨h0, h1, h2, h3, h4, h5, h6, h7, h8⟩ := hSw
      go_simp
      try with_reducible rfl
    try simp only [Act.put, List.getElem_toArray, List.getElem_cons_succ, List.getElem_cons_zero, List.setIfInBounds_toArray, List.set_cons_succ, List.set_cons_zero]
    refine wpAnyE_take (i := 4) (v := ?vq4y4) rfl (by decide +kernel) (fun _ _ _ h => h) (Or.inl ⟨by kernel_rfl, ?hq4y4⟩) (by assumption) ?rq4y4
    case hq4y4 =>
      intro wS hSw
      obtain ⟨h0, h1, h2, h3, h4, h5, h6, h7, h8⟩ := hSw
      go_simp
      try with_reducible rfl
    try simp only [Act.put, List.getElem_toArray, List.getElem_cons_succ, List.getElem_cons_zero, List.setIfInBounds_toArray, List.set_cons_succ, List.set_cons_zero]
    refine wpAnyE_ready (rs := [5]) (by kernel_rfl) (by simp) ?_
    refine AllReadyE.cons (i := 5) rfl (by decide) (fun K hK => ?_) AllReadyE.nil
    go_simp
    refine (H.out _ BW.out).mono ?_
    rintro e W1 ⟨ho_, hb⟩
    obtain rfl := ho_.1 _ _ _ _ _ _ rfl
    go_simp
    have T1 := Lib.hid (T0.out.drew.old hb)
    have R1 := Lib.hid (R0.out.drew.old hb)
    clear hb
    refine hK.out _ _ (CS.out W1 T1.out) (fun hHeld => ?_)
    clear hK K
    try simp only [Act.put, List.getElem_toArray, List.getElem_cons_succ, List.getElem_cons_zero, List.setIfInBounds_toArray, List.set_cons_succ, List.set_cons_zero]
    refine wpAnyE_take (i := 6) (v := ?vq4y6) rfl (by decide +kernel) (fun _ _ _ h => h) (Or.inl ⟨by kernel_rfl, ?hq4y6⟩) (by assumption) ?rq4y6
    case hq4y6 =>
      intro wS hSw
      obtain ⟨h0, h1, h2, h3, h4, h5, h6, h7, h8⟩ := hSw
      go_simp
      try with_reducible rfl
    try simp only [Act.put, List.getElem_toArray, List.getElem_cons_succ, List.getElem_cons_zero, List.setIfInBounds_toArray, List.set_cons_succ, List.set_cons_zero]
    refine wpAnyE_take (i := 7) (v := ?vq4y7) rfl (by decide +kernel) (fun _ _ _ h => h) (Or.inl ⟨by kernel_rfl, ?hq4y7⟩) (by assumption) ?rq4y7
    case hq4y7 =>
      intro wS hSw
      obtain ⟨h0, h1, h2, h3, h4, h5, h6, h7, h8⟩ := hSw
      go_simp
      try with_reducible rfl
    try simp only [Act.put, List.getElem_toArray, List.getElem_cons_succ, List.getElem_cons_zero, List.setIfInBounds_toArray, List.set_cons_succ, List.set_cons_zero]
    refine wpAnyE_ready (rs := [8]) (by kernel_rfl) (by simp) ?_
    refine AllReadyE.cons (i := 8) rfl (by decide) (fun K hK => ?_) AllReadyE.nil
    have r0 := R1.out.cell 0
    have rf0 := R1.out.frozen 0
    have r1 := R1.out.cell 1
    have rf1 := R1.out.frozen 1
    have r2 := R1.out.cell 2
    have rf2 := R1.out.frozen 2
    have r3 := R1.out.cell 3
    have rf3 := R1.out.frozen 3
    have r4 := R1.out.cell 4
    have rf4 := R1.out.frozen 4
    have r5 := R1.out.cell 5
    have rf5 := R1.out.frozen 5
    go_simp
    have TE := Lib.hid ((((((T1.out.other (b' := w.heap.size + 1) (by omega) (by omega) 0 (.int .i64 a_)).other (b' := w.heap.size + 1) (by omega) (by omega) 1 (.int .i64 b_)).other (b' := w.heap.size + 1) (by omega) (by omega) 2 (.int .i64 d_)).other (b' := w.heap.size + 1) (by omega) (by omega) 3 (.int .i64 f_)).other (b' := w.heap.size + 1) (by omega) (by omega) 4 (.int .i64 g_)).other (b' := w.heap.size + 1) (by omega) (by omega) 5 (.int .i64 k_))
    have HE := Lib.hid ((((((R1.out.set 0 (.int .i64 a_)).set 1 (.int .i64 b_)).set 2 (.int .i64 d_)).set 3 (.int .i64 f_)).set 4 (.int .i64 g_)).set 5 (.int .i64 k_))
    refine hK.out _ _ (CS.out _ TE.out) (fun hHeld => ?_)
    clear r0 rf0 r1 rf1 r2 rf2 r3 rf3 r4 rf4 r5 rf5
    clear hK K
    try simp only [Act.put, List.getElem_toArray, List.getElem_cons_succ, List.getElem_cons_zero, List.setIfInBounds_toArray, List.set_cons_succ, List.set_cons_zero]
    refine wpAnyE_ready (rs := [9]) (by kernel_rfl) (by simp) ?_
    refine AllReadyE.last (i := 9) rfl rfl (fun K hK => ?_)
    go_simp
    refine hK.out _ _ ?_
    clear hK K
    try simp only [Act.put, List.getElem_toArray, List.getElem_cons_succ, List.getElem_cons_zero, List.setIfInBounds_toArray, List.set_cons_succ, List.set_cons_zero]
    refine wpAnyE_done (by kernel_rfl) ?_ _
    try simp only [List.getElem_toArray, List.getElem_cons_succ, List.getElem_cons_zero, List.setIfInBounds_toArray, List.set_cons_succ, List.set_cons_zero]
    go_wp2_with fail
    have hl := HE.out.load Tryz.underlying25 rfl (by kernel_rfl)
    refine bodyPost_ret (v := .tuple #[.agg #[.int .i64 a_, .int .i64 b_, .int .i64 d_, .int .i64 f_, .int .i64 g_, .int .i64 k_], .nilIface]) ?_ rfl ⟨out_six _ _ _ _ _ _, HE.out.1⟩
    rw [results_cell_tmp rfl]
    simp [asAddr, Result.andThen, hl]
  · have T0 := Lib.hid ((newS 25 #[.int .i64 i, .int .i64 s, .int .i64 x, .int .i64 y, .int .i64 h, .int .i64 l] w).alloc (.cells #[.int .i64 0, .int .i64 0, .int .i64 0, .int .i64 0, .int .i64 0, .int .i64 0] 25))
    have R0 := Lib.hid ((newS 25 #[.int .i64 i, .int .i64 s, .int .i64 x, .int .i64 y, .int .i64 h, .int .i64 l] w).next 25 #[.int .i64 0, .int .i64 0, .int .i64 0, .int .i64 0, .int .i64 0, .int .i64 0])
    rw [World.size_alloc] at R0
    go_enter Tryz.func87, Tryz.ntmps87
    go_upto_region 1 with fail
    generalize (w.alloc (.cells #[.int .i64 i, .int .i64 s, .int .i64 x, .int .i64 y, .int .i64 h, .int .i64 l] 25)).alloc (.cells #[.int .i64 0, .int .i64 0, .int .i64 0, .int .i64 0, .int .i64 0, .int .i64 0] 25) = W0 at *
    have q0 : W0.cell? ⟨ib, 0, none⟩ = some (.slice C m cq) := (T0.out.1.cell hib).trans c0
    have cT0 : W0.cell? ⟨w.heap.size, 0, none⟩ = some (.int .i64 i) := T0.out.cell 0
    have cTf0 := T0.out.frozen 0
    have cT1 : W0.cell? ⟨w.heap.size, 1, none⟩ = some (.int .i64 s) := T0.out.cell 1
    have cTf1 := T0.out.frozen 1
    have cT2 : W0.cell? ⟨w.heap.size, 2, none⟩ = some (.int .i64 x) := T0.out.cell 2
    have cTf2 := T0.out.frozen 2
    have cT3 : W0.cell? ⟨w.heap.size, 3, none⟩ = some (.int .i64 y) := T0.out.cell 3
    have cTf3 := T0.out.frozen 3
    have cT4 : W0.cell? ⟨w.heap.size, 4, none⟩ = some (.int .i64 h) := T0.out.cell 4
    have cTf4 := T0.out.frozen 4
    have cT5 : W0.cell? ⟨w.heap.size, 5, none⟩ = some (.int .i64 l) := T0.out.cell 5
    have cTf5 := T0.out.frozen 5
    go_wp2_with fail
    refine (IX.out W0 T0.out.1).mono ?_
    rintro e w' ⟨rfl, hw'⟩
    subst w'
    clear q0 IX
    clear cT0 cTf0 cT1 cTf1 cT2 cTf2 cT3 cTf3 cT4 cTf4 cT5 cTf5
    have CS := Lib.hid (show ∀ WZ : World, AtS 25 #[.int .i64 i, .int .i64 s, .int .i64 x, .int .i64 y, .int .i64 h, .int .i64 l] w WZ w.heap.size → (World.cell? WZ ⟨w.heap.size, 0, none⟩ = some (.int .i64 i) ∧ World.cell? WZ ⟨w.heap.size, 1, none⟩ = some (.int .i64 s) ∧ World.cell? WZ ⟨w.heap.size, 2, none⟩ = some (.int .i64 x) ∧ World.cell? WZ ⟨w.heap.size, 3, none⟩ = some (.int .i64 y) ∧ World.cell? WZ ⟨w.heap.size, 4, none⟩ = some (.int .i64 h) ∧ World.cell? WZ ⟨w.heap.size, 5, none⟩ = some (.int .i64 l) ∧ World.cell? WZ ⟨qb, 0, none⟩ = some (.slice (some ⟨bD, oD, none⟩) n2 c2) ∧ World.cell? WZ ⟨bD, oD + j * 2, none⟩ = some (.int .i64 u) ∧ World.cell? WZ ⟨bD, oD + j * 2 + 1, none⟩ = some (.int .i64 v)) from fun WZ hz =>
      ⟨hz.cell 0, hz.cell 1, hz.cell 2, hz.cell 3, hz.cell 4, hz.cell 5, (hz.1.cell hqb).trans c1, (hz.1.cell (p := ⟨bD, oD + j * 2, none⟩) hbD).trans p0, (hz.1.cell (p := ⟨bD, oD + j * 2 + 1, none⟩) hbD).trans p1⟩)
    go_upto_region 3 with fail
    have BW := Lib.hid (T0.out.1.drew)
    have HSd := Lib.hid (CS.out W0.drew T0.out.drew)
    refine wp_region_tail (S := fun w' => World.cell? w' ⟨w.heap.size, 0, none⟩ = some (.int .i64 i) ∧ World.cell? w' ⟨w.heap.size, 1, none⟩ = some (.int .i64 s) ∧ World.cell? w' ⟨w.heap.size, 2, none⟩ = some (.int .i64 x) ∧ World.cell? w' ⟨w.heap.size, 3, none⟩ = some (.int .i64 y) ∧ World.cell? w' ⟨w.heap.size, 4, none⟩ = some (.int .i64 h) ∧ World.cell? w' ⟨w.heap.size, 5, none⟩ = some (.int .i64 l) ∧ World.cell? w' ⟨qb, 0, none⟩ = some (.slice (some ⟨bD, oD, none⟩) n2 c2) ∧ World.cell? w' ⟨bD, oD + j * 2, none⟩ = some (.int .i64 u) ∧ World.cell? w' ⟨bD, oD + j * 2 + 1, none⟩ = some (.int .i64 v)) 9 (by kernel_rfl) HSd.out (fun hHeld => ?_)
    try simp only [Act.put, List.getElem_toArray, List.getElem_cons_succ, List.getElem_cons_zero, List.setIfInBounds_toArray, List.set_cons_succ, List.set_cons_zero]
    refine wpAnyE_take (i := 0) (v := ?vq4d0) rfl (by decide +kernel) (fun _ _ _ h => h) (Or.inl ⟨by kernel_rfl, ?hq4d0⟩) (by assumption) ?rq4d0
    case hq4d0 =>
      intro wS hSw
      obtain ⟨h0, h1, h2, h3, h4, h5, h6, h7, h8⟩ := hSw
      go_simp
      try with_reducible rfl
    try simp only [Act.put, List.getElem_toArray, List.getElem_cons_succ, List.getElem_cons_zero, List.setIfInBounds_toArray, List.set_cons_succ, List.set_cons_zero]
    refine wpAnyE_take (i := 1) (v := ?vq4d1) rfl (by decide +kernel) (fun _ _ _ h => h) (Or.inl ⟨by kernel_rfl, ?hq4d1⟩) (by assumption) ?rq4d1
    case hq4d1 =>
      intro wS hSw
      obtain ⟨h0, h1, h2, h3, h4, h5, h6, h7, h8⟩ := hSw
      go_simp
      try with_reducible rfl
    try simp only [Act.put, List.getElem_toArray, List.getElem_cons_succ, List.getElem_cons_zero, List.setIfInBounds_toArray, List.set_cons_succ, List.set_cons_zero]
    refine wpAnyE_take (i := 2) (v := ?vq4d2) rfl (by decide +kernel) (fun _ _ _ h => h) (Or.inl ⟨by kernel_rfl, ?hq4d2⟩) (by assumption) ?rq4d2
    case hq4d2 =>
      intro wS hSw
      obtain ⟨h0, h1, h2, h3, h4, h5, h6, h7, h8⟩ := hSw
      go_simp
      try with_reducible rfl
    try simp only [Act.put, List.getElem_toArray, List.getElem_cons_succ, List.getElem_cons_zero, List.setIfInBounds_toArray, List.set_cons_succ, List.set_cons_zero]
    refine wpAnyE_take (i := 3) (v := ?vq4d3) rfl (by decide +kernel) (fun _ _ _ h => h) (Or.inl ⟨by kernel_rfl, ?hq4d3⟩) (by assumption) ?rq4d3
    case hq4d3 =>
      intro wS hSw
      obtain ⟨h0, h1, h2, h3, h4, h5, h6, h7, h8⟩ := hSw
      go_simp
      try with_reducible rfl
    try simp only [Act.put, List.getElem_toArray, List.getElem_cons_succ, List.getElem_cons_zero, List.setIfInBounds_toArray, List.set_cons_succ, List.set_cons_zero]
    refine wpAnyE_take (i := 4) (v := ?vq4d4) rfl (by decide +kernel) (fun _ _ _ h => h) (Or.inl ⟨by kernel_rfl, ?hq4d4⟩) (by assumption) ?rq4d4
    case hq4d4 =>
      intro wS hSw
      obtain ⟨h0, h1, h2, h3, h4, h5, h6, h7, h8⟩ := hSw
      go_simp
      try with_reducible rfl
    try simp only [Act.put, List.getElem_toArray, List.getElem_cons_succ, List.getElem_cons_zero, List.setIfInBounds_toArray, List.set_cons_succ, List.set_cons_zero]
    refine wpAnyE_ready (rs := [5]) (by kernel_rfl) (by simp) ?_
    refine AllReadyE.cons (i := 5) rfl (by decide) (fun K hK => ?_) AllReadyE.nil
    go_simp
    refine (H.out _ BW.out).mono ?_
    rintro e W1 ⟨ho_, hb⟩
    obtain rfl := ho_.2.1 rfl
    go_simp
    have T1 := Lib.hid (T0.out.drew.old hb)
    have R1 := Lib.hid (R0.out.drew.old hb)
    clear hb
    refine hK.out _ _ (CS.out W1 T1.out) (fun hHeld => ?_)
    clear hK K
    try simp only [Act.put, List.getElem_toArray, List.getElem_cons_succ, List.getElem_cons_zero, List.setIfInBounds_toArray, List.set_cons_succ, List.set_cons_zero]
    refine wpAnyE_take (i := 6) (v := ?vq4d6) rfl (by decide +kernel) (fun _ _ _ h => h) (Or.inl ⟨by kernel_rfl, ?hq4d6⟩) (by assumption) ?rq4d6
    case hq4d6 =>
      intro wS hSw
      obtain ⟨h0, h1, h2, h3, h4, h5, h6, h7, h8⟩ := hSw
      go_simp
      try with_reducible rfl
    try simp only [Act.put, List.getElem_toArray, List.getElem_cons_succ, List.getElem_cons_zero, List.setIfInBounds_toArray, List.set_cons_succ, List.set_cons_zero]
    refine wpAnyE_take (i := 7) (v := ?vq4d7) rfl (by decide +kernel) (fun _ _ _ h => h) (Or.inl ⟨by kernel_rfl, ?hq4d7⟩) (by assumption) ?rq4d7
    case hq4d7 =>
      intro wS hSw
      obtain ⟨h0, h1, h2, h3, h4, h5, h6, h7, h8⟩ := hSw
      go_simp
      try with_reducible rfl
    try simp only [Act.put, List.getElem_toArray, List.getElem_cons_succ, List.getElem_cons_zero, List.setIfInBounds_toArray, List.set_cons_succ, List.set_cons_zero]
    refine wpAnyE_ready (rs := [8]) (by kernel_rfl) (by simp) ?_
    refine AllReadyE.cons (i := 8) rfl (by decide) (fun K hK => ?_) AllReadyE.nil
    have r0 := R1.out.cell 0
    have rf0 := R1.out.frozen 0
    have r1 := R1.out.cell 1
    have rf1 := R1.out.frozen 1
    have r2 := R1.out.cell 2
    have rf2 := R1.out.frozen 2
    have r3 := R1.out.cell 3
    have rf3 := R1.out.frozen 3
    have r4 := R1.out.cell 4
    have rf4 := R1.out.frozen 4
    have r5 := R1.out.cell 5
    have rf5 := R1.out.frozen 5
    go_simp
    have TE := Lib.hid ((((((T1.out.other (b' := w.heap.size + 1) (by omega) (by omega) 0 (.int .i64 0)).other (b' := w.heap.size + 1) (by omega) (by omega) 1 (.int .i64 0)).other (b' := w.heap.size + 1) (by omega) (by omega) 2 (.int .i64 0)).other (b' := w.heap.size + 1) (by omega) (by omega) 3 (.int .i64 0)).other (b' := w.heap.size + 1) (by omega) (by omega) 4 (.int .i64 0)).other (b' := w.heap.size + 1) (by omega) (by omega) 5 (.int .i64 0))
    have HE := Lib.hid ((((((R1.out.set 0 (.int .i64 0)).set 1 (.int .i64 0)).set 2 (.int .i64 0)).set 3 (.int .i64 0)).set 4 (.int .i64 0)).set 5 (.int .i64 0))
    refine hK.out _ _ (CS.out _ TE.out) (fun hHeld => ?_)
    clear r0 rf0 r1 rf1 r2 rf2 r3 rf3 r4 rf4 r5 rf5
    clear hK K
    try simp only [Act.put, List.getElem_toArray, List.getElem_cons_succ, List.getElem_cons_zero, List.setIfInBounds_toArray, List.set_cons_succ, List.set_cons_zero]
    refine wpAnyE_ready (rs := [9]) (by kernel_rfl) (by simp) ?_
    refine AllReadyE.last (i := 9) rfl rfl (fun K hK => ?_)
    go_simp
    refine hK.out _ _ ?_
    clear hK K
    try simp only [Act.put, List.getElem_toArray, List.getElem_cons_succ, List.getElem_cons_zero, List.setIfInBounds_toArray, List.set_cons_succ, List.set_cons_zero]
    refine wpAnyE_done (by kernel_rfl) ?_ _
    try simp only [List.getElem_toArray, List.getElem_cons_succ, List.getElem_cons_zero, List.setIfInBounds_toArray, List.set_cons_succ, List.set_cons_zero]
    go_wp2_with fail
    have hl := HE.out.load Tryz.underlying25 rfl (by kernel_rfl)
    refine bodyPost_ret (v := .tuple #[.agg #[.int .i64 0, .int .i64 0, .int .i64 0, .int .i64 0, .int .i64 0, .int .i64 0], .iface 138 (.agg #[])]) ?_ rfl ⟨out_drop, HE.out.1⟩
    rw [results_cell_tmp rfl]
    simp [asAddr, Result.andThen, hl]
  · have T0 := Lib.hid ((newS 25 #[.int .i64 i, .int .i64 s, .int .i64 x, .int .i64 y, .int .i64 h, .int .i64 l] w).alloc (.cells #[.int .i64 0, .int .i64 0, .int .i64 0, .int .i64 0, .int .i64 0, .int .i64 0] 25))
    have R0 := Lib.hid ((newS 25 #[.int .i64 i, .int .i64 s, .int .i64 x, .int .i64 y, .int .i64 h, .int .i64 l] w).next 25 #[.int .i64 0, .int .i64 0, .int .i64 0, .int .i64 0, .int .i64 0, .int .i64 0])
    rw [World.size_alloc] at R0
    go_enter Tryz.func87, Tryz.ntmps87
    go_upto_region 1 with fail
    generalize (w.alloc (.cells #[.int .i64 i, .int .i64 s, .int .i64 x, .int .i64 y, .int .i64 h, .int .i64 l] 25)).alloc (.cells #[.int .i64 0, .int .i64 0, .int .i64 0, .int .i64 0, .int .i64 0, .int .i64 0] 25) = W0 at *
    have q0 : W0.cell? ⟨ib, 0, none⟩ = some (.slice C m cq) := (T0.out.1.cell hib).trans c0
    have cT0 : W0.cell? ⟨w.heap.size, 0, none⟩ = some (.int .i64 i) := T0.out.cell 0
    have cTf0 := T0.out.frozen 0
    have cT1 : W0.cell? ⟨w.heap.size, 1, none⟩ = some (.int .i64 s) := T0.out.cell 1
    have cTf1 := T0.out.frozen 1
    have cT2 : W0.cell? ⟨w.heap.size, 2, none⟩ = some (.int .i64 x) := T0.out.cell 2
    have cTf2 := T0.out.frozen 2
    have cT3 : W0.cell? ⟨w.heap.size, 3, none⟩ = some (.int .i64 y) := T0.out.cell 3
    have cTf3 := T0.out.frozen 3
    have cT4 : W0.cell? ⟨w.heap.size, 4, none⟩ = some (.int .i64 h) := T0.out.cell 4
    have cTf4 := T0.out.frozen 4
    have cT5 : W0.cell? ⟨w.heap.size, 5, none⟩ = some (.int .i64 l) := T0.out.cell 5
    have cTf5 := T0.out.frozen 5
    go_wp2_with fail
    refine (IX.out W0 T0.out.1).mono ?_
    rintro e w' ⟨rfl, hw'⟩
    subst w'
    clear q0 IX
    clear cT0 cTf0 cT1 cTf1 cT2 cTf2 cT3 cTf3 cT4 cTf4 cT5 cTf5
    have CS := Lib.hid (show ∀ WZ : World, AtS 25 #[.int .i64 i, .int .i64 s, .int .i64 x, .int .i64 y, .int .i64 h, .int .i64 l] w WZ w.heap.size → (World.cell? WZ ⟨w.heap.size, 0, none⟩ = some (.int .i64 i) ∧ World.cell? WZ ⟨w.heap.size, 1, none⟩ = some (.int .i64 s) ∧ World.cell? WZ ⟨w.heap.size, 2, none⟩ = some (.int .i64 x) ∧ World.cell? WZ ⟨w.heap.size, 3, none⟩ = some (.int .i64 y) ∧ World.cell? WZ ⟨w.heap.size, 4, none⟩ = some (.int .i64 h) ∧ World.cell? WZ ⟨w.heap.size, 5, none⟩ = some (.int .i64 l) ∧ World.cell? WZ ⟨qb, 0, none⟩ = some (.slice (some ⟨bD, oD, none⟩) n2 c2) ∧ World.cell? WZ ⟨bD, oD + j * 2, none⟩ = some (.int .i64 u) ∧ World.cell? WZ ⟨bD, oD + j * 2 + 1, none⟩ = some (.int .i64 v)) from fun WZ hz =>
      ⟨hz.cell 0, hz.cell 1, hz.cell 2, hz.cell 3, hz.cell 4, hz.cell 5, (hz.1.cell hqb).trans c1, (hz.1.cell (p := ⟨bD, oD + j * 2, none⟩) hbD).trans p0, (hz.1.cell (p := ⟨bD, oD + j * 2 + 1, none⟩) hbD).trans p1⟩)
    go_upto_region 3 with fail
    have BW := Lib.hid (T0.out.1.drew)
    have HSd := Lib.hid (CS.out W0.drew T0.out.drew)
    refine wp_region_tail (S := fun w' => World.cell? w' ⟨w.heap.size, 0, none⟩ = some (.int .i64 i) ∧ World.cell? w' ⟨w.heap.size, 1, none⟩ = some (.int .i64 s) ∧ World.cell? w' ⟨w.heap.size, 2, none⟩ = some (.int .i64 x) ∧ World.cell? w' ⟨w.heap.size, 3, none⟩ = some (.int .i64 y) ∧ World.cell? w' ⟨w.heap.size, 4, none⟩ = some (.int .i64 h) ∧ World.cell? w' ⟨w.heap.size, 5, none⟩ = some (.int .i64 l) ∧ World.cell? w' ⟨qb, 0, none⟩ = some (.slice (some ⟨bD, oD, none⟩) n2 c2) ∧ World.cell? w' ⟨bD, oD + j * 2, none⟩ = some (.int .i64 u) ∧ World.cell? w' ⟨bD, oD + j * 2 + 1, none⟩ = some (.int .i64 v)) 9 (by kernel_rfl) HSd.out (fun hHeld => ?_)
    try simp only [Act.put, List.getElem_toArray, List.getElem_cons_succ, List.getElem_cons_zero, List.setIfInBounds_toArray, List.set_cons_succ, List.set_cons_zero]
    refine wpAnyE_take (i := 0) (v := ?vq4f0) rfl (by decide +kernel) (fun _ _ _ h => h) (Or.inl ⟨by kernel_rfl, ?hq4f0⟩) (by assumption) ?rq4f0
    case hq4f0 =>
      intro wS hSw
      obtain ⟨h0, h1, h2, h3, h4, h5, h6, h7, h8⟩ := hSw
      go_simp
      try with_reducible rfl
    try simp only [Act.put, List.getElem_toArray, List.getElem_cons_succ, List.getElem_cons_zero, List.setIfInBounds_toArray, List.set_cons_succ, List.set_cons_zero]
    refine wpAnyE_take (i := 1) (v := ?vq4f1) rfl (by decide +kernel) (fun _ _ _ h => h) (Or.inl ⟨by kernel_rfl, ?hq4f1⟩) (by assumption) ?rq4f1
    case hq4f1 =>
      intro wS hSw
      obtain ⟨h0, h1, h2, h3, h4, h5, h6, h7, h8⟩ := hSw
      go_simp
      try with_reducible rfl
    try simp only [Act.put, List.getElem_toArray, List.getElem_cons_succ, List.getElem_cons_zero, List.setIfInBounds_toArray, List.set_cons_succ, List.set_cons_zero]
    refine wpAnyE_take (i := 2) (v := ?vq4f2) rfl (by decide +kernel) (fun _ _ _ h => h) (Or.inl ⟨by kernel_rfl, ?hq4f2⟩) (by assumption) ?rq4f2
    case hq4f2 =>
      intro wS hSw
      obtain ⟨h0, h1, h2, h3, h4, h5, h6, h7, h8⟩ := hSw
      go_simp
      try with_reducible rfl
    try simp only [Act.put, List.getElem_toArray, List.getElem_cons_succ, List.getElem_cons_zero, List.setIfInBounds_toArray, List.set_cons_succ, List.set_cons_zero]
    refine wpAnyE_take (i := 3) (v := ?vq4f3) rfl (by decide +kernel) (fun _ _ _ h => h) (Or.inl ⟨by kernel_rfl, ?hq4f3⟩) (by assumption) ?rq4f3
    case hq4f3 =>
      intro wS hSw
      obtain ⟨h0, h1, h2, h3, h4, h5, h6, h7, h8⟩ := hSw
      go_simp
      try with_reducible rfl
    try simp only [Act.put, List.getElem_toArray, List.getElem_cons_succ, List.getElem_cons_zero, List.setIfInBounds_toArray, List.set_cons_succ, List.set_cons_zero]
    refine wpAnyE_take (i := 4) (v := ?vq4f4) rfl (by decide +kernel) (fun _ _ _ h => h) (Or.inl ⟨by kernel_rfl, ?hq4f4⟩) (by assumption) ?rq4f4
    case hq4f4 =>
      intro wS hSw
      obtain ⟨h0, h1, h2, h3, h4, h5, h6, h7, h8⟩ := hSw
      go_simp
      try with_reducible rfl
    try simp only [Act.put, List.getElem_toArray, List.getElem_cons_succ, List.getElem_cons_zero, List.setIfInBounds_toArray, List.set_cons_succ, List.set_cons_zero]
    refine wpAnyE_ready (rs := [5]) (by kernel_rfl) (by simp) ?_
    refine AllReadyE.cons (i := 5) rfl (by decide) (fun K hK => ?_) AllReadyE.nil
    go_simp
    refine (H.out _ BW.out).mono ?_
    rintro e W1 ⟨ho_, hb⟩
    obtain ⟨ae, rfl⟩ := ho_.2.2 rfl
    go_simp
    have T1 := Lib.hid (T0.out.drew.old hb)
    have R1 := Lib.hid (R0.out.drew.old hb)
    clear hb
    refine hK.out _ _ (CS.out W1 T1.out) (fun hHeld => ?_)
    clear hK K
    try simp only [Act.put, List.getElem_toArray, List.getElem_cons_succ, List.getElem_cons_zero, List.setIfInBounds_toArray, List.set_cons_succ, List.set_cons_zero]
    refine wpAnyE_take (i := 6) (v := ?vq4f6) rfl (by decide +kernel) (fun _ _ _ h => h) (Or.inl ⟨by kernel_rfl, ?hq4f6⟩) (by assumption) ?rq4f6
    case hq4f6 =>
      intro wS hSw
      obtain ⟨h0, h1, h2, h3, h4, h5, h6, h7, h8⟩ := hSw
      go_simp
      try with_reducible rfl
    try simp only [Act.put, List.getElem_toArray, List.getElem_cons_succ, List.getElem_cons_zero, List.setIfInBounds_toArray, List.set_cons_succ, List.set_cons_zero]
    refine wpAnyE_take (i := 7) (v := ?vq4f7) rfl (by decide +kernel) (fun _ _ _ h => h) (Or.inl ⟨by kernel_rfl, ?hq4f7⟩) (by assumption) ?rq4f7
    case hq4f7 =>
      intro wS hSw
      obtain ⟨h0, h1, h2, h3, h4, h5, h6, h7, h8⟩ := hSw
      go_simp
      try with_reducible rfl
    try simp only [Act.put, List.getElem_toArray, List.getElem_cons_succ, List.getElem_cons_zero, List.setIfInBounds_toArray, List.set_cons_succ, List.set_cons_zero]
    refine wpAnyE_ready (rs := [8]) (by kernel_rfl) (by simp) ?_
    refine AllReadyE.cons (i := 8) rfl (by decide) (fun K hK => ?_) AllReadyE.nil
    have r0 := R1.out.cell 0
    have rf0 := R1.out.frozen 0
    have r1 := R1.out.cell 1
    have rf1 := R1.out.frozen 1
    have r2 := R1.out.cell 2
    have rf2 := R1.out.frozen 2
    have r3 := R1.out.cell 3
    have rf3 := R1.out.frozen 3
    have r4 := R1.out.cell 4
    have rf4 := R1.out.frozen 4
    have r5 := R1.out.cell 5
    have rf5 := R1.out.frozen 5
    go_simp
    have TE := Lib.hid ((((((T1.out.other (b' := w.heap.size + 1) (by omega) (by omega) 0 (.int .i64 0)).other (b' := w.heap.size + 1) (by omega) (by omega) 1 (.int .i64 0)).other (b' := w.heap.size + 1) (by omega) (by omega) 2 (.int .i64 0)).other (b' := w.heap.size + 1) (by omega) (by omega) 3 (.int .i64 0)).other (b' := w.heap.size + 1) (by omega) (by omega) 4 (.int .i64 0)).other (b' := w.heap.size + 1) (by omega) (by omega) 5 (.int .i64 0))
    have HE := Lib.hid ((((((R1.out.set 0 (.int .i64 0)).set 1 (.int .i64 0)).set 2 (.int .i64 0)).set 3 (.int .i64 0)).set 4 (.int .i64 0)).set 5 (.int .i64 0))
    refine hK.out _ _ (CS.out _ TE.out) (fun hHeld => ?_)
    clear r0 rf0 r1 rf1 r2 rf2 r3 rf3 r4 rf4 r5 rf5
    clear hK K
    try simp only [Act.put, List.getElem_toArray, List.getElem_cons_succ, List.getElem_cons_zero, List.setIfInBounds_toArray, List.set_cons_succ, List.set_cons_zero]
    refine wpAnyE_ready (rs := [9]) (by kernel_rfl) (by simp) ?_
    refine AllReadyE.last (i := 9) rfl rfl (fun K hK => ?_)
    go_simp
    refine hK.out _ _ ?_
    clear hK K
    try simp only [Act.put, List.getElem_toArray, List.getElem_cons_succ, List.getElem_cons_zero, List.setIfInBounds_toArray, List.set_cons_succ, List.set_cons_zero]
    refine wpAnyE_done (by kernel_rfl) ?_ _
    try simp only [List.getElem_toArray, List.getElem_cons_succ, List.getElem_cons_zero, List.setIfInBounds_toArray, List.set_cons_succ, List.set_cons_zero]
    go_wp2_with fail
    have hl := HE.out.load Tryz.underlying25 rfl (by kernel_rfl)
    refine bodyPost_ret (v := .tuple #[.agg #[.int .i64 0, .int .i64 0, .int .i64 0, .int .i64 0, .int .i64 0, .int .i64 0], .iface 190 ae]) ?_ rfl ⟨out_fail ae, HE.out.1⟩
    rw [results_cell_tmp rfl]
    simp [asAddr, Result.andThen, hl]

end Go.Proofs.YtfigjfckelichaaGreatDoor.trkd
