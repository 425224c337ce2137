/- spec's draws of two velocities; DrawIsValidVelocity. -/
import Derived.Test.YtchhjjiidfacbaaDrawV8
import Derived.Test.YtchhjjiidfacbaaAtS
import Derived.Test.YtchhjjiidfacbaaCode
import Derived.Deep.RegionHeld3
import Derived.Deep.CutRange
import Derived.RegionTactic
import Derived.BigRegion
namespace Go.Proofs.Ytchhjjiidfacbaa.draww8
open Go.RowKit Go.Proofs.Ytchhjjiidfacbaa.code_ Go.Proofs.Ytchhjjiidfacbaa.cur Go.Proofs.Ytchhjjiidfacbaa.atc Go.Proofs.Ytchhjjiidfacbaa.ats Go.Proofs.Ytchhjjiidfacbaa.drawv8

theorem bytes_al {w : World} {A : Option Addr} {n : Nat} (o : Obj) (h : Bytes w w.heap.size A n) : Bytes (w.alloc o) (w.alloc o).heap.size A n := Bytes_below h ((Below.refl _ _).alloc (Nat.le_refl _) o)
theorem results_cells2 {fn : Func} {p q : Tmp} {ty ty' : TypeId} (h : fn.results = #[.cell p ty, .cell q ty']) (tmps : Array Value) (P : Program) (w : World) :
    (results fn tmps).run P w =
      ((asAddr (tmps.getD p undef)).run P w).andThen fun a w₁ => ((loadVar ty a).run P w₁).andThen fun v w₂ => ((asAddr (tmps.getD q undef)).run P w₂).andThen fun b w₃ => ((loadVar ty' b).run P w₃).andThen fun u w₄ => .ok (.tuple #[v, u]) w₄ := by
  simp only [results, h]
  simp [Sem.run_bind, Result.andThen]
def TwoV (w : World) (e : Ending) (w' : World) : Prop := ∃ x y u v, e = .returned (.tuple #[.agg #[.int .i64 x, .int .i64 y], .agg #[.int .i64 u, .int .i64 v]]) ∧ Below w.heap.size w w'
def OneV (w : World) (e : Ending) (w' : World) : Prop := ∃ x y, e = .returned (.agg #[.int .i64 x, .int .i64 y]) ∧ Below w.heap.size w w'
theorem set_ints {w : World} {p m g : Nat} {T : TypeId} {a b : Int} (h : Cur w p m) (hB : Blk T #[.int .i64 a, .int .i64 b] w g) (hne : g ≠ p) (i : Nat) (v : Value) : Cur (w.setCell ⟨g, i, none⟩ v) p m := by
  obtain ⟨A, n, c, k, sd, h1, h2, h3, h4⟩ := h
  refine ⟨A, n, c, k, sd, (Go.Deep.blk_setCell_other w ⟨g, i, none⟩ v p (fun e => hne e.symm)).trans h1, h2, h3, fun hn => ?_⟩
  obtain ⟨b, o, e, hlt, hc⟩ := h4 hn
  have hbg : b ≠ g := by
    rintro rfl
    obtain ⟨u, hu, -, -⟩ := hc 0 hn
    rw [cell_of_row _ _ (o + 0) _ T (0, 0) hB] at hu
    match o, hu with
    | 0, hu => simp at hu
    | 1, hu => simp at hu
    | o + 2, hu => simp at hu
  exact ⟨b, o, e, hlt, fun k hk => by
    obtain ⟨u, hu, h⟩ := hc k hk
    exact ⟨u, (World.cell?_setCell_far w ⟨g, i, none⟩ ⟨b, o + k, none⟩ v (fun e => hbg e.symm)).trans hu, h⟩⟩
theorem quo5 {x : Int} (h : -201 ≤ x ∧ x ≤ 201) : -201 ≤ x.tdiv 5 ∧ x.tdiv 5 ≤ 201 := by
  by_cases hx : 0 ≤ x
  · rw [Int.tdiv_eq_ediv_of_nonneg hx]; omega
  · obtain ⟨k, rfl⟩ : ∃ k, x = -k := ⟨-x, by omega⟩
    rw [Int.neg_tdiv, Int.tdiv_eq_ediv_of_nonneg (by omega)]; omega


set_option maxRecDepth 100000 in
set_option maxHeartbeats 8000000 in
theorem addVelocities (A : Option Addr) (n c : Nat) (w : World) (hn : n ≤ 65536) (h : Bytes w w.heap.size A n) :
    Calls Try.prog 34 #[.slice A n c] w (TwoV w) := by
  have bz := (newS 44 #[.int .i64 0, .int .i64 0] w).alloc (.cells #[.int .i64 0, .int .i64 0] 44)
  have dz := (newS 44 #[.int .i64 0, .int .i64 0] w).next 44 #[.int .i64 0, .int .i64 0]
  rw [World.size_alloc] at dz
  have HB0 := Lib.hid ((bz.alloc (.cells #[.slice A n c, .int .i64 0, .int .u64 0] 63)).1)
  have B0 := Lib.hid (Blk.of_s (bz.alloc (.cells #[.slice A n c, .int .i64 0, .int .u64 0] 63)))
  have D0 := Lib.hid (Blk.of_s (dz.alloc (.cells #[.slice A n c, .int .i64 0, .int .u64 0] 63)))
  have hc := new_cur c (by omega) (bytes_al (.cells #[.int .i64 0, .int .i64 0] 44) (bytes_al (.cells #[.int .i64 0, .int .i64 0] 44) h))
  rw [World.size_alloc, World.size_alloc] at hc
  have HC0 := Lib.hid hc
  clear h hc bz dz
  go_enter Try.func34, Try.ntmps34
  go_wp2_with fail
  generalize ((w.alloc (.cells #[.int .i64 0, .int .i64 0] 44)).alloc (.cells #[.int .i64 0, .int .i64 0] 44)).alloc (.cells #[.slice A n c, .int .i64 0, .int .u64 0] 63) = W0 at *
  generalize hp : w.heap.size + 1 + 1 = p at *
  have HPP := Lib.hid hp
  clear hp
  refine (velocity p 0 W0 HC0.out (by omega)).mono ?_
  rintro e W1 ⟨x, y, rfl, hv, hc1, hg1⟩
  have HB1 := Lib.hid (HB0.out.grown hg1 HB0.out.size (fun g e => by injection e with e; have := HPP.out; omega))
  have B1 := Lib.hid (B0.out.grown hg1 (by have := HPP.out; omega))
  have D1 := Lib.hid (D0.out.grown hg1 (by have := HPP.out; omega))
  clear HB0 B0 D0
  have HC1 := Lib.hid hc1
  clear hv hc1 hg1 HC0
  go_wp2_with fail
  refine (velocity p 20 W1 HC1.out (by omega)).mono ?_
  rintro e W2 ⟨u, v, rfl, hv, hc2, hg2⟩
  have HB2 := Lib.hid (HB1.out.grown hg2 HB1.out.size (fun g e => by injection e with e; have := HPP.out; omega))
  have B2 := Lib.hid (B1.out.grown hg2 (by have := HPP.out; omega))
  have D2 := Lib.hid (D1.out.grown hg2 (by have := HPP.out; omega))
  clear HB1 B1 D1
  clear hv hc2 hg2 HC1
  have bc0 := (B2.out).cell 0 (.int .i64 0) rfl
  have bf0 := (B2.out).frozen 0
  have bc1 := (B2.out).cell 1 (.int .i64 0) rfl
  have bf1 := (B2.out).frozen 1
  have dc0 := (D2.out).cell 0 (.int .i64 0) rfl
  have df0 := (D2.out).frozen 0
  have dc1 := (D2.out).cell 1 (.int .i64 0) rfl
  have df1 := (D2.out).frozen 1
  have ddc0 := (((D2.out.other (b' := w.heap.size) (by omega) 0 (.int .i64 x)).other (b' := w.heap.size) (by omega) 1 (.int .i64 y))).cell 0 (.int .i64 0) rfl
  have ddf0 := (((D2.out.other (b' := w.heap.size) (by omega) 0 (.int .i64 x)).other (b' := w.heap.size) (by omega) 1 (.int .i64 y))).frozen 0
  have ddc1 := (((D2.out.other (b' := w.heap.size) (by omega) 0 (.int .i64 x)).other (b' := w.heap.size) (by omega) 1 (.int .i64 y))).cell 1 (.int .i64 0) rfl
  have ddf1 := (((D2.out.other (b' := w.heap.size) (by omega) 0 (.int .i64 x)).other (b' := w.heap.size) (by omega) 1 (.int .i64 y))).frozen 1
  have HE1 := Lib.hid ((((B2.out.set 0 (.int .i64 x)).set 1 (.int .i64 y)).other (b' := w.heap.size + 1) (by omega) 0 (.int .i64 u)).other (b' := w.heap.size + 1) (by omega) 1 (.int .i64 v))
  have HE2 := Lib.hid ((((D2.out.other (b' := w.heap.size) (by omega) 0 (.int .i64 x)).other (b' := w.heap.size) (by omega) 1 (.int .i64 y)).set 0 (.int .i64 u)).set 1 (.int .i64 v))
  have HBE := Lib.hid (Below.setCell (Below.setCell (Below.setCell (Below.setCell HB2.out (p := ⟨w.heap.size, 0, none⟩) (Nat.le_refl _) (.int .i64 x)) (p := ⟨w.heap.size, 1, none⟩) (Nat.le_refl _) (.int .i64 y)) (p := ⟨w.heap.size + 1, 0, none⟩) (Nat.le_succ _) (.int .i64 u)) (p := ⟨w.heap.size + 1, 1, none⟩) (Nat.le_succ _) (.int .i64 v))
  clear B2 D2 HB2
  go_wp2_with fail
  have hl := HE1.out.load Try.underlying44 rfl (by kernel_rfl)
  have hl2 := HE2.out.load Try.underlying44 rfl (by kernel_rfl)
  refine bodyPost_ret (v := .tuple #[.agg #[.int .i64 x, .int .i64 y], .agg #[.int .i64 u, .int .i64 v]]) ?_ rfl ⟨_, _, _, _, rfl, HBE.out⟩
  rw [results_cells2 rfl]
  simp [asAddr, Result.andThen, hl, hl2]


set_option maxRecDepth 100000 in
set_option maxHeartbeats 8000000 in
theorem fasterThan (A : Option Addr) (n c : Nat) (w : World) (hn : n ≤ 65536) (h : Bytes w w.heap.size A n) :
    Calls Try.prog 31 #[.slice A n c] w (TwoV w) := by
  have bz := (newS 44 #[.int .i64 0, .int .i64 0] w).alloc (.cells #[.int .i64 0, .int .i64 0] 44)
  have dz := (newS 44 #[.int .i64 0, .int .i64 0] w).next 44 #[.int .i64 0, .int .i64 0]
  rw [World.size_alloc] at dz
  have HB0 := Lib.hid ((bz.alloc (.cells #[.slice A n c, .int .i64 0, .int .u64 0] 63)).1)
  have B0 := Lib.hid (Blk.of_s (bz.alloc (.cells #[.slice A n c, .int .i64 0, .int .u64 0] 63)))
  have D0 := Lib.hid (Blk.of_s (dz.alloc (.cells #[.slice A n c, .int .i64 0, .int .u64 0] 63)))
  have hc := new_cur c (by omega) (bytes_al (.cells #[.int .i64 0, .int .i64 0] 44) (bytes_al (.cells #[.int .i64 0, .int .i64 0] 44) h))
  rw [World.size_alloc, World.size_alloc] at hc
  have HC0 := Lib.hid hc
  clear h hc bz dz
  go_enter Try.func31, Try.ntmps31
  go_wp2_with fail
  generalize ((w.alloc (.cells #[.int .i64 0, .int .i64 0] 44)).alloc (.cells #[.int .i64 0, .int .i64 0] 44)).alloc (.cells #[.slice A n c, .int .i64 0, .int .u64 0] 63) = W0 at *
  generalize hp : w.heap.size + 1 + 1 = p at *
  have HPP := Lib.hid hp
  clear hp
  refine (velocity p 0 W0 HC0.out (by omega)).mono ?_
  rintro e W1 ⟨x, y, rfl, hv, hc1, hg1⟩
  have hlt := hc1.lt
  have HL5 := Lib.hid (show p < W1.heap.size from hlt)
  have HB1 := Lib.hid (Below.alloc (HB0.out.grown hg1 HB0.out.size (fun g e => by injection e with e; have := HPP.out; omega)) (by have := HPP.out; omega) (.cells #[.int .i64 x, .int .i64 y] 44))
  have B1 := Lib.hid ((B0.out.grown hg1 (by have := HPP.out; omega)).alloc (.cells #[.int .i64 x, .int .i64 y] 44))
  have D1 := Lib.hid ((D0.out.grown hg1 (by have := HPP.out; omega)).alloc (.cells #[.int .i64 x, .int .i64 y] 44))
  have E1 := Lib.hid (Blk.new 44 #[.int .i64 x, .int .i64 y] W1)
  have HC1 := Lib.hid (Cur.alloc hc1 (.cells #[.int .i64 x, .int .i64 y] 44))
  obtain ⟨⟨x0, x1⟩, y0, y1⟩ := hv
  clear hc1 hg1 B0 D0 HC0 HB0 hlt
  go_wp2_with fail
  generalize W1.alloc (.cells #[.int .i64 x, .int .i64 y] 44) = V1 at *
  generalize W1.heap.size = b5 at *
  refine (one p 20 3 V1 HC1.out (by omega) (by omega) (by omega)).mono ?_
  rintro e V2 ⟨i, rfl, hc2, hg2⟩
  have HB2 := Lib.hid (HB1.out.grown hg2 HB1.out.size (fun g e => by injection e with e; have := HPP.out; omega))
  have B2 := Lib.hid (B1.out.grown hg2 (by have := HPP.out; omega))
  have D2 := Lib.hid (D1.out.grown hg2 (by have := HPP.out; omega))
  have E2 := Lib.hid (E1.out.grown hg2 (by have := HPP.out; have := HL5.out; omega))
  clear HB1 B1 D1 E1
  have HC2 := Lib.hid hc2
  clear hc2 hg2 HC1
  cases i
  · go_upto_region 5 with fail
    have CS := Lib.hid (show ∀ WZ : World, V2.grownBy WZ (some p) → WZ.cell? ⟨b5, 0, none⟩ = some (.int .i64 x) ∧ WZ.cell? ⟨b5, 1, none⟩ = some (.int .i64 y) from fun WZ hz => ⟨(E2.out.grown hz (by have := HPP.out; have := HL5.out; omega)).cell 0 _ rfl, (E2.out.grown hz (by have := HPP.out; have := HL5.out; omega)).cell 1 _ rfl⟩)
    have bc0 := (B2.out).cell 0 (.int .i64 0) rfl
    have bf0 := (B2.out).frozen 0
    have bc1 := (B2.out).cell 1 (.int .i64 0) rfl
    have bf1 := (B2.out).frozen 1
    have hS0 := Lib.hid (And.intro ((((E2.out.other (b' := w.heap.size) (by have := HPP.out; have := HL5.out; omega) 0 (.int .i64 x)).other (b' := w.heap.size) (by have := HPP.out; have := HL5.out; omega) 1 (.int .i64 y)).drew).cell 0 (.int .i64 x) rfl) ((((E2.out.other (b' := w.heap.size) (by have := HPP.out; have := HL5.out; omega) 0 (.int .i64 x)).other (b' := w.heap.size) (by have := HPP.out; have := HL5.out; omega) 1 (.int .i64 y)).drew).cell 1 (.int .i64 y) rfl))
    have HN0 := Lib.hid (show V2.grownBy V2.drew (some p) from ⟨rfl, rfl, rfl, Nat.le_refl _, fun _ _ _ => rfl⟩)
    go_region_held3 (fun w' => w'.cell? ⟨b5, 0, none⟩ = some (.int .i64 x) ∧ w'.cell? ⟨b5, 1, none⟩ = some (.int .i64 y)) (first
      | with_reducible exact CS.out _ HN0.out
      | with_reducible exact CS.out _ (by assumption)
      | (have q := hS0.out; with_reducible exact q)
      | (have q := hS1.out; with_reducible exact q)
      | (have q := hS2.out; with_reducible exact q)
      | (have q := hS3.out; with_reducible exact q)
      | (have q := hS4.out; with_reducible exact q)
      | go_keep) (first
      | (go_at_call 73; (with_reducible refine (velocity p (20 + 2) _ (HC2.out.keep (Below.refl _ _).drew) (by omega)).mono ?_); rintro e w' ⟨u, v, rfl, hvv, hcc, hg⟩
         have hgv : V2.grownBy w' (some p) := grown_trans HN0.out hg
         have KB := Lib.hid (B2.out.grown hgv (by have := HPP.out; omega))
         have KD := Lib.hid (D2.out.grown hgv (by have := HPP.out; omega))
         have KE := Lib.hid (E2.out.grown hgv (by have := HPP.out; have := HL5.out; omega))
         have KH := Lib.hid (HB2.out.grown hgv HB2.out.size (fun g e => by injection e with e; have := HPP.out; omega))
         have hS1 := Lib.hid (And.intro ((((KE.out.other (b' := w.heap.size) (by have := HPP.out; have := HL5.out; omega) 0 (.int .i64 x)).other (b' := w.heap.size) (by have := HPP.out; have := HL5.out; omega) 1 (.int .i64 y))).cell 0 (.int .i64 x) rfl) ((((KE.out.other (b' := w.heap.size) (by have := HPP.out; have := HL5.out; omega) 0 (.int .i64 x)).other (b' := w.heap.size) (by have := HPP.out; have := HL5.out; omega) 1 (.int .i64 y))).cell 1 (.int .i64 y) rfl))
         have hS2 := Lib.hid (And.intro ((((KE.out.other (b' := w.heap.size + 1) (by have := HPP.out; have := HL5.out; omega) 0 (.int .i64 u)).other (b' := w.heap.size + 1) (by have := HPP.out; have := HL5.out; omega) 1 (.int .i64 v))).cell 0 (.int .i64 x) rfl) ((((KE.out.other (b' := w.heap.size + 1) (by have := HPP.out; have := HL5.out; omega) 0 (.int .i64 u)).other (b' := w.heap.size + 1) (by have := HPP.out; have := HL5.out; omega) 1 (.int .i64 v))).cell 1 (.int .i64 y) rfl))
         have hS3 := Lib.hid (And.intro ((((((KE.out.other (b' := w.heap.size) (by have := HPP.out; have := HL5.out; omega) 0 (.int .i64 x)).other (b' := w.heap.size) (by have := HPP.out; have := HL5.out; omega) 1 (.int .i64 y)).other (b' := w.heap.size + 1) (by have := HPP.out; have := HL5.out; omega) 0 (.int .i64 u)).other (b' := w.heap.size + 1) (by have := HPP.out; have := HL5.out; omega) 1 (.int .i64 v))).cell 0 (.int .i64 x) rfl) ((((((KE.out.other (b' := w.heap.size) (by have := HPP.out; have := HL5.out; omega) 0 (.int .i64 x)).other (b' := w.heap.size) (by have := HPP.out; have := HL5.out; omega) 1 (.int .i64 y)).other (b' := w.heap.size + 1) (by have := HPP.out; have := HL5.out; omega) 0 (.int .i64 u)).other (b' := w.heap.size + 1) (by have := HPP.out; have := HL5.out; omega) 1 (.int .i64 v))).cell 1 (.int .i64 y) rfl))
         have hS4 := Lib.hid (And.intro ((((((KE.out.other (b' := w.heap.size + 1) (by have := HPP.out; have := HL5.out; omega) 0 (.int .i64 u)).other (b' := w.heap.size + 1) (by have := HPP.out; have := HL5.out; omega) 1 (.int .i64 v)).other (b' := w.heap.size) (by have := HPP.out; have := HL5.out; omega) 0 (.int .i64 x)).other (b' := w.heap.size) (by have := HPP.out; have := HL5.out; omega) 1 (.int .i64 y))).cell 0 (.int .i64 x) rfl) ((((((KE.out.other (b' := w.heap.size + 1) (by have := HPP.out; have := HL5.out; omega) 0 (.int .i64 u)).other (b' := w.heap.size + 1) (by have := HPP.out; have := HL5.out; omega) 1 (.int .i64 v)).other (b' := w.heap.size) (by have := HPP.out; have := HL5.out; omega) 0 (.int .i64 x)).other (b' := w.heap.size) (by have := HPP.out; have := HL5.out; omega) 1 (.int .i64 y))).cell 1 (.int .i64 y) rfl))
         have bc0 := (KB.out).cell 0 (.int .i64 0) rfl
         have bf0 := (KB.out).frozen 0
         have bc1 := (KB.out).cell 1 (.int .i64 0) rfl
         have bf1 := (KB.out).frozen 1
         have dc0 := (KD.out).cell 0 (.int .i64 0) rfl
         have df0 := (KD.out).frozen 0
         have dc1 := (KD.out).cell 1 (.int .i64 0) rfl
         have df1 := (KD.out).frozen 1
         have ddc0 := (((KD.out.other (b' := w.heap.size) (by omega) 0 (.int .i64 x)).other (b' := w.heap.size) (by omega) 1 (.int .i64 y))).cell 0 (.int .i64 0) rfl
         have ddf0 := (((KD.out.other (b' := w.heap.size) (by omega) 0 (.int .i64 x)).other (b' := w.heap.size) (by omega) 1 (.int .i64 y))).frozen 0
         have ddc1 := (((KD.out.other (b' := w.heap.size) (by omega) 0 (.int .i64 x)).other (b' := w.heap.size) (by omega) 1 (.int .i64 y))).cell 1 (.int .i64 0) rfl
         have ddf1 := (((KD.out.other (b' := w.heap.size) (by omega) 0 (.int .i64 x)).other (b' := w.heap.size) (by omega) 1 (.int .i64 y))).frozen 1
         have bbc0 := (((KB.out.other (b' := w.heap.size + 1) (by omega) 0 (.int .i64 u)).other (b' := w.heap.size + 1) (by omega) 1 (.int .i64 v))).cell 0 (.int .i64 0) rfl
         have bbf0 := (((KB.out.other (b' := w.heap.size + 1) (by omega) 0 (.int .i64 u)).other (b' := w.heap.size + 1) (by omega) 1 (.int .i64 v))).frozen 0
         have bbc1 := (((KB.out.other (b' := w.heap.size + 1) (by omega) 0 (.int .i64 u)).other (b' := w.heap.size + 1) (by omega) 1 (.int .i64 v))).cell 1 (.int .i64 0) rfl
         have bbf1 := (((KB.out.other (b' := w.heap.size + 1) (by omega) 0 (.int .i64 u)).other (b' := w.heap.size + 1) (by omega) 1 (.int .i64 v))).frozen 1
         clear hvv hcc hg)
      | (go_at_call 73; (with_reducible refine (velocity p (20 + 2) _ ((set_ints (set_ints HC2.out B2.out (by have := HPP.out; omega) 0 (.int .i64 x)) (B2.out.set 0 (.int .i64 x)) (by have := HPP.out; omega) 1 (.int .i64 y)).keep (Below.refl _ _).drew) (by omega)).mono ?_); rintro e w' ⟨u, v, rfl, hvv, hcc, hg⟩
         have QB := Lib.hid (((B2.out.set 0 (.int .i64 x)).set 1 (.int .i64 y)).drew.grown hg (by have := HPP.out; omega))
         have QD := Lib.hid (((D2.out.other (b' := w.heap.size) (by omega) 0 (.int .i64 x)).other (b' := w.heap.size) (by omega) 1 (.int .i64 y)).drew.grown hg (by have := HPP.out; omega))
         have QE := Lib.hid (((E2.out.other (b' := w.heap.size) (by have := HPP.out; have := HL5.out; omega) 0 (.int .i64 x)).other (b' := w.heap.size) (by have := HPP.out; have := HL5.out; omega) 1 (.int .i64 y)).drew.grown hg (by have := HPP.out; have := HL5.out; omega))
         have QH := Lib.hid ((Below.setCell (Below.setCell HB2.out (p := ⟨w.heap.size, 0, none⟩) (Nat.le_refl _) (.int .i64 x)) (p := ⟨w.heap.size, 1, none⟩) (Nat.le_refl _) (.int .i64 y)).drew.grown hg (Below.setCell (Below.setCell HB2.out (p := ⟨w.heap.size, 0, none⟩) (Nat.le_refl _) (.int .i64 x)) (p := ⟨w.heap.size, 1, none⟩) (Nat.le_refl _) (.int .i64 y)).drew.size (fun g e => by injection e with e; have := HPP.out; omega))
         have hS1 := Lib.hid (And.intro ((QE.out).cell 0 (.int .i64 x) rfl) ((QE.out).cell 1 (.int .i64 y) rfl))
         have hS2 := Lib.hid (And.intro ((((QE.out.other (b' := w.heap.size + 1) (by have := HPP.out; have := HL5.out; omega) 0 (.int .i64 u)).other (b' := w.heap.size + 1) (by have := HPP.out; have := HL5.out; omega) 1 (.int .i64 v))).cell 0 (.int .i64 x) rfl) ((((QE.out.other (b' := w.heap.size + 1) (by have := HPP.out; have := HL5.out; omega) 0 (.int .i64 u)).other (b' := w.heap.size + 1) (by have := HPP.out; have := HL5.out; omega) 1 (.int .i64 v))).cell 1 (.int .i64 y) rfl))
         have dc0 := (QD.out).cell 0 (.int .i64 0) rfl
         have df0 := (QD.out).frozen 0
         have dc1 := (QD.out).cell 1 (.int .i64 0) rfl
         have df1 := (QD.out).frozen 1
         clear hvv hcc hg))
    all_goals
      go_wp2_with fail
      first
        | (have hl := ((((KB.out.set 0 (.int .i64 x)).set 1 (.int .i64 y)).other (b' := w.heap.size + 1) (by omega) 0 (.int .i64 u)).other (b' := w.heap.size + 1) (by omega) 1 (.int .i64 v)).load Try.underlying44 rfl (by kernel_rfl)
           have hl2 := ((((KD.out.other (b' := w.heap.size) (by omega) 0 (.int .i64 x)).other (b' := w.heap.size) (by omega) 1 (.int .i64 y)).set 0 (.int .i64 u)).set 1 (.int .i64 v)).load Try.underlying44 rfl (by kernel_rfl)
           refine bodyPost_ret (v := .tuple #[.agg #[.int .i64 x, .int .i64 y], .agg #[.int .i64 u, .int .i64 v]]) ?_ rfl ⟨_, _, _, _, rfl, (Below.setCell (Below.setCell (Below.setCell (Below.setCell KH.out (p := ⟨w.heap.size, 0, none⟩) (Nat.le_refl _) (.int .i64 x)) (p := ⟨w.heap.size, 1, none⟩) (Nat.le_refl _) (.int .i64 y)) (p := ⟨w.heap.size + 1, 0, none⟩) (Nat.le_succ _) (.int .i64 u)) (p := ⟨w.heap.size + 1, 1, none⟩) (Nat.le_succ _) (.int .i64 v))⟩
           rw [results_cells2 rfl]
           simp [asAddr, Result.andThen, hl, hl2]
           done)
        | (have hl := ((((KB.out.other (b' := w.heap.size + 1) (by omega) 0 (.int .i64 u)).other (b' := w.heap.size + 1) (by omega) 1 (.int .i64 v)).set 0 (.int .i64 x)).set 1 (.int .i64 y)).load Try.underlying44 rfl (by kernel_rfl)
           have hl2 := ((((KD.out.set 0 (.int .i64 u)).set 1 (.int .i64 v)).other (b' := w.heap.size) (by omega) 0 (.int .i64 x)).other (b' := w.heap.size) (by omega) 1 (.int .i64 y)).load Try.underlying44 rfl (by kernel_rfl)
           refine bodyPost_ret (v := .tuple #[.agg #[.int .i64 x, .int .i64 y], .agg #[.int .i64 u, .int .i64 v]]) ?_ rfl ⟨_, _, _, _, rfl, (Below.setCell (Below.setCell (Below.setCell (Below.setCell KH.out (p := ⟨w.heap.size + 1, 0, none⟩) (Nat.le_succ _) (.int .i64 u)) (p := ⟨w.heap.size + 1, 1, none⟩) (Nat.le_succ _) (.int .i64 v)) (p := ⟨w.heap.size, 0, none⟩) (Nat.le_refl _) (.int .i64 x)) (p := ⟨w.heap.size, 1, none⟩) (Nat.le_refl _) (.int .i64 y))⟩
           rw [results_cells2 rfl]
           simp [asAddr, Result.andThen, hl, hl2]
           done)
        | (have hl := ((QB.out.other (b' := w.heap.size + 1) (by omega) 0 (.int .i64 u)).other (b' := w.heap.size + 1) (by omega) 1 (.int .i64 v)).load Try.underlying44 rfl (by kernel_rfl)
           have hl2 := ((QD.out.set 0 (.int .i64 u)).set 1 (.int .i64 v)).load Try.underlying44 rfl (by kernel_rfl)
           refine bodyPost_ret (v := .tuple #[.agg #[.int .i64 x, .int .i64 y], .agg #[.int .i64 u, .int .i64 v]]) ?_ rfl ⟨_, _, _, _, rfl, (Below.setCell (Below.setCell QH.out (p := ⟨w.heap.size + 1, 0, none⟩) (Nat.le_succ _) (.int .i64 u)) (p := ⟨w.heap.size + 1, 1, none⟩) (Nat.le_succ _) (.int .i64 v))⟩
           rw [results_cells2 rfl]
           simp [asAddr, Result.andThen, hl, hl2]
           done)
  · go_upto_region 4 with fail
    have e1 : IntKind.i64.wrap (-y) = -y := IntWalk.i64_in _ (by omega)
    have ec0 := (E2.out).cell 0 (.int .i64 x) rfl
    have ec1 := (E2.out).cell 1 (.int .i64 y) rfl
    have eec0 := (((E2.out.other (b' := w.heap.size) (by have := HPP.out; have := HL5.out; omega) 0 (.int .i64 x)).other (b' := w.heap.size) (by have := HPP.out; have := HL5.out; omega) 1 (.int .i64 y))).cell 0 (.int .i64 x) rfl
    have eec1 := (((E2.out.other (b' := w.heap.size) (by have := HPP.out; have := HL5.out; omega) 0 (.int .i64 x)).other (b' := w.heap.size) (by have := HPP.out; have := HL5.out; omega) 1 (.int .i64 y))).cell 1 (.int .i64 y) rfl
    have efc0 := (((E2.out.other (b' := w.heap.size + 1) (by have := HPP.out; have := HL5.out; omega) 0 (.int .i64 (-y))).other (b' := w.heap.size + 1) (by have := HPP.out; have := HL5.out; omega) 1 (.int .i64 x))).cell 0 (.int .i64 x) rfl
    have efc1 := (((E2.out.other (b' := w.heap.size + 1) (by have := HPP.out; have := HL5.out; omega) 0 (.int .i64 (-y))).other (b' := w.heap.size + 1) (by have := HPP.out; have := HL5.out; omega) 1 (.int .i64 x))).cell 1 (.int .i64 y) rfl
    have bc0 := (B2.out).cell 0 (.int .i64 0) rfl
    have bf0 := (B2.out).frozen 0
    have bc1 := (B2.out).cell 1 (.int .i64 0) rfl
    have bf1 := (B2.out).frozen 1
    have dc0 := (D2.out).cell 0 (.int .i64 0) rfl
    have df0 := (D2.out).frozen 0
    have dc1 := (D2.out).cell 1 (.int .i64 0) rfl
    have df1 := (D2.out).frozen 1
    have ddc0 := (((D2.out.other (b' := w.heap.size) (by omega) 0 (.int .i64 x)).other (b' := w.heap.size) (by omega) 1 (.int .i64 y))).cell 0 (.int .i64 0) rfl
    have ddf0 := (((D2.out.other (b' := w.heap.size) (by omega) 0 (.int .i64 x)).other (b' := w.heap.size) (by omega) 1 (.int .i64 y))).frozen 0
    have ddc1 := (((D2.out.other (b' := w.heap.size) (by omega) 0 (.int .i64 x)).other (b' := w.heap.size) (by omega) 1 (.int .i64 y))).cell 1 (.int .i64 0) rfl
    have ddf1 := (((D2.out.other (b' := w.heap.size) (by omega) 0 (.int .i64 x)).other (b' := w.heap.size) (by omega) 1 (.int .i64 y))).frozen 1
    have bbc0 := (((B2.out.other (b' := w.heap.size + 1) (by omega) 0 (.int .i64 (-y))).other (b' := w.heap.size + 1) (by omega) 1 (.int .i64 x))).cell 0 (.int .i64 0) rfl
    have bbf0 := (((B2.out.other (b' := w.heap.size + 1) (by omega) 0 (.int .i64 (-y))).other (b' := w.heap.size + 1) (by omega) 1 (.int .i64 x))).frozen 0
    have bbc1 := (((B2.out.other (b' := w.heap.size + 1) (by omega) 0 (.int .i64 (-y))).other (b' := w.heap.size + 1) (by omega) 1 (.int .i64 x))).cell 1 (.int .i64 0) rfl
    have bbf1 := (((B2.out.other (b' := w.heap.size + 1) (by omega) 0 (.int .i64 (-y))).other (b' := w.heap.size + 1) (by omega) 1 (.int .i64 x))).frozen 1
    have HE1 := Lib.hid ((((B2.out.set 0 (.int .i64 x)).set 1 (.int .i64 y)).other (b' := w.heap.size + 1) (by omega) 0 (.int .i64 (-y))).other (b' := w.heap.size + 1) (by omega) 1 (.int .i64 x)).drew
    have HF1 := Lib.hid ((((D2.out.other (b' := w.heap.size) (by omega) 0 (.int .i64 x)).other (b' := w.heap.size) (by omega) 1 (.int .i64 y)).set 0 (.int .i64 (-y))).set 1 (.int .i64 x)).drew
    have HG1 := Lib.hid (Below.setCell (Below.setCell (Below.setCell (Below.setCell HB2.out (p := ⟨w.heap.size, 0, none⟩) (Nat.le_refl _) (.int .i64 x)) (p := ⟨w.heap.size, 1, none⟩) (Nat.le_refl _) (.int .i64 y)) (p := ⟨w.heap.size + 1, 0, none⟩) (Nat.le_succ _) (.int .i64 (-y))) (p := ⟨w.heap.size + 1, 1, none⟩) (Nat.le_succ _) (.int .i64 x)).drew
    have HE3 := Lib.hid ((((B2.out.other (b' := w.heap.size + 1) (by omega) 0 (.int .i64 (-y))).other (b' := w.heap.size + 1) (by omega) 1 (.int .i64 x)).set 0 (.int .i64 x)).set 1 (.int .i64 y)).drew
    have HF3 := Lib.hid ((((D2.out.set 0 (.int .i64 (-y))).set 1 (.int .i64 x)).other (b' := w.heap.size) (by omega) 0 (.int .i64 x)).other (b' := w.heap.size) (by omega) 1 (.int .i64 y)).drew
    have HG3 := Lib.hid (Below.setCell (Below.setCell (Below.setCell (Below.setCell HB2.out (p := ⟨w.heap.size + 1, 0, none⟩) (Nat.le_succ _) (.int .i64 (-y))) (p := ⟨w.heap.size + 1, 1, none⟩) (Nat.le_succ _) (.int .i64 x)) (p := ⟨w.heap.size, 0, none⟩) (Nat.le_refl _) (.int .i64 x)) (p := ⟨w.heap.size, 1, none⟩) (Nat.le_refl _) (.int .i64 y)).drew
    clear B2 D2 E2 HB2 HC2
    go_region
    all_goals
      go_wp2_with fail
      first
        | (have hl := HE1.out.load Try.underlying44 rfl (by kernel_rfl)
           have hl2 := HF1.out.load Try.underlying44 rfl (by kernel_rfl)
           refine bodyPost_ret (v := .tuple #[.agg #[.int .i64 x, .int .i64 y], .agg #[.int .i64 (-y), .int .i64 x]]) ?_ rfl ⟨_, _, _, _, rfl, HG1.out⟩
           rw [results_cells2 rfl]
           simp [asAddr, Result.andThen, hl, hl2]
           done)
        | (have hl := HE3.out.load Try.underlying44 rfl (by kernel_rfl)
           have hl2 := HF3.out.load Try.underlying44 rfl (by kernel_rfl)
           refine bodyPost_ret (v := .tuple #[.agg #[.int .i64 x, .int .i64 y], .agg #[.int .i64 (-y), .int .i64 x]]) ?_ rfl ⟨_, _, _, _, rfl, HG3.out⟩
           rw [results_cells2 rfl]
           simp [asAddr, Result.andThen, hl, hl2]
           done)


set_option maxRecDepth 100000 in
set_option maxHeartbeats 8000000 in
theorem turnOf (A : Option Addr) (n c : Nat) (w : World) (hn : n ≤ 65536) (h : Bytes w w.heap.size A n) :
    Calls Try.prog 28 #[.slice A n c] w (TwoV w) := by
  have bz := (newS 44 #[.int .i64 0, .int .i64 0] w).alloc (.cells #[.int .i64 0, .int .i64 0] 44)
  have dz := (newS 44 #[.int .i64 0, .int .i64 0] w).next 44 #[.int .i64 0, .int .i64 0]
  rw [World.size_alloc] at dz
  have HB0 := Lib.hid ((bz.alloc (.cells #[.slice A n c, .int .i64 0, .int .u64 0] 63)).1)
  have B0 := Lib.hid (Blk.of_s (bz.alloc (.cells #[.slice A n c, .int .i64 0, .int .u64 0] 63)))
  have D0 := Lib.hid (Blk.of_s (dz.alloc (.cells #[.slice A n c, .int .i64 0, .int .u64 0] 63)))
  have hc := new_cur c (by omega) (bytes_al (.cells #[.int .i64 0, .int .i64 0] 44) (bytes_al (.cells #[.int .i64 0, .int .i64 0] 44) h))
  rw [World.size_alloc, World.size_alloc] at hc
  have HC0 := Lib.hid hc
  clear h hc bz dz
  go_enter Try.func28, Try.ntmps28
  go_wp2_with fail
  generalize ((w.alloc (.cells #[.int .i64 0, .int .i64 0] 44)).alloc (.cells #[.int .i64 0, .int .i64 0] 44)).alloc (.cells #[.slice A n c, .int .i64 0, .int .u64 0] 63) = W0 at *
  generalize hp : w.heap.size + 1 + 1 = p at *
  have HPP := Lib.hid hp
  clear hp
  refine (velocity p 0 W0 HC0.out (by omega)).mono ?_
  rintro e W1 ⟨x, y, rfl, hv, hc1, hg1⟩
  have hlt := hc1.lt
  have HL5 := Lib.hid (show p < W1.heap.size from hlt)
  have HB1 := Lib.hid (Below.alloc (HB0.out.grown hg1 HB0.out.size (fun g e => by injection e with e; have := HPP.out; omega)) (by have := HPP.out; omega) (.cells #[.int .i64 x, .int .i64 y] 44))
  have B1 := Lib.hid ((B0.out.grown hg1 (by have := HPP.out; omega)).alloc (.cells #[.int .i64 x, .int .i64 y] 44))
  have D1 := Lib.hid ((D0.out.grown hg1 (by have := HPP.out; omega)).alloc (.cells #[.int .i64 x, .int .i64 y] 44))
  have E1 := Lib.hid (Blk.new 44 #[.int .i64 x, .int .i64 y] W1)
  have HC1 := Lib.hid (Cur.alloc hc1 (.cells #[.int .i64 x, .int .i64 y] 44))
  obtain ⟨⟨x0, x1⟩, y0, y1⟩ := hv
  clear hc1 hg1 B0 D0 HC0 HB0 hlt
  go_wp2_with fail
  generalize W1.alloc (.cells #[.int .i64 x, .int .i64 y] 44) = V1 at *
  generalize W1.heap.size = b5 at *
  refine (pick p 20 6 V1 HC1.out (by omega) (by omega) (by omega)).mono ?_
  rintro e V2 ⟨z, rfl, z0, z1, hc2, hg2⟩
  have HB2 := Lib.hid (HB1.out.grown hg2 HB1.out.size (fun g e => by injection e with e; have := HPP.out; omega))
  have B2 := Lib.hid (B1.out.grown hg2 (by have := HPP.out; omega))
  have D2 := Lib.hid (D1.out.grown hg2 (by have := HPP.out; omega))
  have E2 := Lib.hid (E1.out.grown hg2 (by have := HPP.out; have := HL5.out; omega))
  clear HB1 B1 D1 E1
  have HC2 := Lib.hid hc2
  clear hc2 hg2 HC1
  by_cases h0 : z = 0
  · subst h0
    go_upto_region 5 with fail
    have e1 : IntKind.i64.wrap (-y) = -y := IntWalk.i64_in _ (by omega)
    have e2 : IntKind.i64.wrap (-x) = -x := IntWalk.i64_in _ (by omega)
    have ec0 := (E2.out).cell 0 (.int .i64 x) rfl
    have ec1 := (E2.out).cell 1 (.int .i64 y) rfl
    have eec0 := (((E2.out.other (b' := w.heap.size) (by have := HPP.out; have := HL5.out; omega) 0 (.int .i64 x)).other (b' := w.heap.size) (by have := HPP.out; have := HL5.out; omega) 1 (.int .i64 y))).cell 0 (.int .i64 x) rfl
    have eec1 := (((E2.out.other (b' := w.heap.size) (by have := HPP.out; have := HL5.out; omega) 0 (.int .i64 x)).other (b' := w.heap.size) (by have := HPP.out; have := HL5.out; omega) 1 (.int .i64 y))).cell 1 (.int .i64 y) rfl
    have efc0 := (((E2.out.other (b' := w.heap.size + 1) (by have := HPP.out; have := HL5.out; omega) 0 (.int .i64 (-x))).other (b' := w.heap.size + 1) (by have := HPP.out; have := HL5.out; omega) 1 (.int .i64 (-y)))).cell 0 (.int .i64 x) rfl
    have efc1 := (((E2.out.other (b' := w.heap.size + 1) (by have := HPP.out; have := HL5.out; omega) 0 (.int .i64 (-x))).other (b' := w.heap.size + 1) (by have := HPP.out; have := HL5.out; omega) 1 (.int .i64 (-y)))).cell 1 (.int .i64 y) rfl
    have bc0 := (B2.out).cell 0 (.int .i64 0) rfl
    have bf0 := (B2.out).frozen 0
    have bc1 := (B2.out).cell 1 (.int .i64 0) rfl
    have bf1 := (B2.out).frozen 1
    have dc0 := (D2.out).cell 0 (.int .i64 0) rfl
    have df0 := (D2.out).frozen 0
    have dc1 := (D2.out).cell 1 (.int .i64 0) rfl
    have df1 := (D2.out).frozen 1
    have ddc0 := (((D2.out.other (b' := w.heap.size) (by omega) 0 (.int .i64 x)).other (b' := w.heap.size) (by omega) 1 (.int .i64 y))).cell 0 (.int .i64 0) rfl
    have ddf0 := (((D2.out.other (b' := w.heap.size) (by omega) 0 (.int .i64 x)).other (b' := w.heap.size) (by omega) 1 (.int .i64 y))).frozen 0
    have ddc1 := (((D2.out.other (b' := w.heap.size) (by omega) 0 (.int .i64 x)).other (b' := w.heap.size) (by omega) 1 (.int .i64 y))).cell 1 (.int .i64 0) rfl
    have ddf1 := (((D2.out.other (b' := w.heap.size) (by omega) 0 (.int .i64 x)).other (b' := w.heap.size) (by omega) 1 (.int .i64 y))).frozen 1
    have bbc0 := (((B2.out.other (b' := w.heap.size + 1) (by omega) 0 (.int .i64 (-x))).other (b' := w.heap.size + 1) (by omega) 1 (.int .i64 (-y)))).cell 0 (.int .i64 0) rfl
    have bbf0 := (((B2.out.other (b' := w.heap.size + 1) (by omega) 0 (.int .i64 (-x))).other (b' := w.heap.size + 1) (by omega) 1 (.int .i64 (-y)))).frozen 0
    have bbc1 := (((B2.out.other (b' := w.heap.size + 1) (by omega) 0 (.int .i64 (-x))).other (b' := w.heap.size + 1) (by omega) 1 (.int .i64 (-y)))).cell 1 (.int .i64 0) rfl
    have bbf1 := (((B2.out.other (b' := w.heap.size + 1) (by omega) 0 (.int .i64 (-x))).other (b' := w.heap.size + 1) (by omega) 1 (.int .i64 (-y)))).frozen 1
    have HE1 := Lib.hid ((((B2.out.set 0 (.int .i64 x)).set 1 (.int .i64 y)).other (b' := w.heap.size + 1) (by omega) 0 (.int .i64 (-x))).other (b' := w.heap.size + 1) (by omega) 1 (.int .i64 (-y))).drew
    have HF1 := Lib.hid ((((D2.out.other (b' := w.heap.size) (by omega) 0 (.int .i64 x)).other (b' := w.heap.size) (by omega) 1 (.int .i64 y)).set 0 (.int .i64 (-x))).set 1 (.int .i64 (-y))).drew
    have HG1 := Lib.hid (Below.setCell (Below.setCell (Below.setCell (Below.setCell HB2.out (p := ⟨w.heap.size, 0, none⟩) (Nat.le_refl _) (.int .i64 x)) (p := ⟨w.heap.size, 1, none⟩) (Nat.le_refl _) (.int .i64 y)) (p := ⟨w.heap.size + 1, 0, none⟩) (Nat.le_succ _) (.int .i64 (-x))) (p := ⟨w.heap.size + 1, 1, none⟩) (Nat.le_succ _) (.int .i64 (-y))).drew
    have HE3 := Lib.hid ((((B2.out.other (b' := w.heap.size + 1) (by omega) 0 (.int .i64 (-x))).other (b' := w.heap.size + 1) (by omega) 1 (.int .i64 (-y))).set 0 (.int .i64 x)).set 1 (.int .i64 y)).drew
    have HF3 := Lib.hid ((((D2.out.set 0 (.int .i64 (-x))).set 1 (.int .i64 (-y))).other (b' := w.heap.size) (by omega) 0 (.int .i64 x)).other (b' := w.heap.size) (by omega) 1 (.int .i64 y)).drew
    have HG3 := Lib.hid (Below.setCell (Below.setCell (Below.setCell (Below.setCell HB2.out (p := ⟨w.heap.size + 1, 0, none⟩) (Nat.le_succ _) (.int .i64 (-x))) (p := ⟨w.heap.size + 1, 1, none⟩) (Nat.le_succ _) (.int .i64 (-y))) (p := ⟨w.heap.size, 0, none⟩) (Nat.le_refl _) (.int .i64 x)) (p := ⟨w.heap.size, 1, none⟩) (Nat.le_refl _) (.int .i64 y)).drew
    clear B2 D2 E2 HB2 HC2
    go_region
    all_goals
      go_wp2_with fail
      first
        | (have hl := HE1.out.load Try.underlying44 rfl (by kernel_rfl)
           have hl2 := HF1.out.load Try.underlying44 rfl (by kernel_rfl)
           refine bodyPost_ret (v := .tuple #[.agg #[.int .i64 x, .int .i64 y], .agg #[.int .i64 (-x), .int .i64 (-y)]]) ?_ rfl ⟨_, _, _, _, rfl, HG1.out⟩
           rw [results_cells2 rfl]
           simp [asAddr, Result.andThen, hl, hl2]
           done)
        | (have hl := HE3.out.load Try.underlying44 rfl (by kernel_rfl)
           have hl2 := HF3.out.load Try.underlying44 rfl (by kernel_rfl)
           refine bodyPost_ret (v := .tuple #[.agg #[.int .i64 x, .int .i64 y], .agg #[.int .i64 (-x), .int .i64 (-y)]]) ?_ rfl ⟨_, _, _, _, rfl, HG3.out⟩
           rw [results_cells2 rfl]
           simp [asAddr, Result.andThen, hl, hl2]
           done)
  · have g0 : (z == 0) = false := by simpa using h0
    by_cases h1 : z = 1
    · subst h1
      clear h0 g0
      go_upto_region 7 with fail
      have hqx := quo5 (x := x) ⟨x0, x1⟩
      have hqy := quo5 (x := y) ⟨y0, y1⟩
      generalize hx5 : x.tdiv 5 = x5 at *
      generalize hy5 : y.tdiv 5 = y5 at *
      have e1 : IntKind.i64.wrap x5 = x5 := IntWalk.i64_in _ (by omega)
      have e2 : IntKind.i64.wrap y5 = y5 := IntWalk.i64_in _ (by omega)
      have ec0 := (E2.out).cell 0 (.int .i64 x) rfl
      have ec1 := (E2.out).cell 1 (.int .i64 y) rfl
      have eec0 := (((E2.out.other (b' := w.heap.size) (by have := HPP.out; have := HL5.out; omega) 0 (.int .i64 x)).other (b' := w.heap.size) (by have := HPP.out; have := HL5.out; omega) 1 (.int .i64 y))).cell 0 (.int .i64 x) rfl
      have eec1 := (((E2.out.other (b' := w.heap.size) (by have := HPP.out; have := HL5.out; omega) 0 (.int .i64 x)).other (b' := w.heap.size) (by have := HPP.out; have := HL5.out; omega) 1 (.int .i64 y))).cell 1 (.int .i64 y) rfl
      have efc0 := (((E2.out.other (b' := w.heap.size + 1) (by have := HPP.out; have := HL5.out; omega) 0 (.int .i64 x5)).other (b' := w.heap.size + 1) (by have := HPP.out; have := HL5.out; omega) 1 (.int .i64 y5))).cell 0 (.int .i64 x) rfl
      have efc1 := (((E2.out.other (b' := w.heap.size + 1) (by have := HPP.out; have := HL5.out; omega) 0 (.int .i64 x5)).other (b' := w.heap.size + 1) (by have := HPP.out; have := HL5.out; omega) 1 (.int .i64 y5))).cell 1 (.int .i64 y) rfl
      have bc0 := (B2.out).cell 0 (.int .i64 0) rfl
      have bf0 := (B2.out).frozen 0
      have bc1 := (B2.out).cell 1 (.int .i64 0) rfl
      have bf1 := (B2.out).frozen 1
      have dc0 := (D2.out).cell 0 (.int .i64 0) rfl
      have df0 := (D2.out).frozen 0
      have dc1 := (D2.out).cell 1 (.int .i64 0) rfl
      have df1 := (D2.out).frozen 1
      have ddc0 := (((D2.out.other (b' := w.heap.size) (by omega) 0 (.int .i64 x)).other (b' := w.heap.size) (by omega) 1 (.int .i64 y))).cell 0 (.int .i64 0) rfl
      have ddf0 := (((D2.out.other (b' := w.heap.size) (by omega) 0 (.int .i64 x)).other (b' := w.heap.size) (by omega) 1 (.int .i64 y))).frozen 0
      have ddc1 := (((D2.out.other (b' := w.heap.size) (by omega) 0 (.int .i64 x)).other (b' := w.heap.size) (by omega) 1 (.int .i64 y))).cell 1 (.int .i64 0) rfl
      have ddf1 := (((D2.out.other (b' := w.heap.size) (by omega) 0 (.int .i64 x)).other (b' := w.heap.size) (by omega) 1 (.int .i64 y))).frozen 1
      have bbc0 := (((B2.out.other (b' := w.heap.size + 1) (by omega) 0 (.int .i64 x5)).other (b' := w.heap.size + 1) (by omega) 1 (.int .i64 y5))).cell 0 (.int .i64 0) rfl
      have bbf0 := (((B2.out.other (b' := w.heap.size + 1) (by omega) 0 (.int .i64 x5)).other (b' := w.heap.size + 1) (by omega) 1 (.int .i64 y5))).frozen 0
      have bbc1 := (((B2.out.other (b' := w.heap.size + 1) (by omega) 0 (.int .i64 x5)).other (b' := w.heap.size + 1) (by omega) 1 (.int .i64 y5))).cell 1 (.int .i64 0) rfl
      have bbf1 := (((B2.out.other (b' := w.heap.size + 1) (by omega) 0 (.int .i64 x5)).other (b' := w.heap.size + 1) (by omega) 1 (.int .i64 y5))).frozen 1
      have HE1 := Lib.hid ((((B2.out.set 0 (.int .i64 x)).set 1 (.int .i64 y)).other (b' := w.heap.size + 1) (by omega) 0 (.int .i64 x5)).other (b' := w.heap.size + 1) (by omega) 1 (.int .i64 y5)).drew
      have HF1 := Lib.hid ((((D2.out.other (b' := w.heap.size) (by omega) 0 (.int .i64 x)).other (b' := w.heap.size) (by omega) 1 (.int .i64 y)).set 0 (.int .i64 x5)).set 1 (.int .i64 y5)).drew
      have HG1 := Lib.hid (Below.setCell (Below.setCell (Below.setCell (Below.setCell HB2.out (p := ⟨w.heap.size, 0, none⟩) (Nat.le_refl _) (.int .i64 x)) (p := ⟨w.heap.size, 1, none⟩) (Nat.le_refl _) (.int .i64 y)) (p := ⟨w.heap.size + 1, 0, none⟩) (Nat.le_succ _) (.int .i64 x5)) (p := ⟨w.heap.size + 1, 1, none⟩) (Nat.le_succ _) (.int .i64 y5)).drew
      have HE3 := Lib.hid ((((B2.out.other (b' := w.heap.size + 1) (by omega) 0 (.int .i64 x5)).other (b' := w.heap.size + 1) (by omega) 1 (.int .i64 y5)).set 0 (.int .i64 x)).set 1 (.int .i64 y)).drew
      have HF3 := Lib.hid ((((D2.out.set 0 (.int .i64 x5)).set 1 (.int .i64 y5)).other (b' := w.heap.size) (by omega) 0 (.int .i64 x)).other (b' := w.heap.size) (by omega) 1 (.int .i64 y)).drew
      have HG3 := Lib.hid (Below.setCell (Below.setCell (Below.setCell (Below.setCell HB2.out (p := ⟨w.heap.size + 1, 0, none⟩) (Nat.le_succ _) (.int .i64 x5)) (p := ⟨w.heap.size + 1, 1, none⟩) (Nat.le_succ _) (.int .i64 y5)) (p := ⟨w.heap.size, 0, none⟩) (Nat.le_refl _) (.int .i64 x)) (p := ⟨w.heap.size, 1, none⟩) (Nat.le_refl _) (.int .i64 y)).drew
      clear B2 D2 E2 HB2 HC2
      go_region
      all_goals
        go_wp2_with fail
        first
          | (have hl := HE1.out.load Try.underlying44 rfl (by kernel_rfl)
             have hl2 := HF1.out.load Try.underlying44 rfl (by kernel_rfl)
             refine bodyPost_ret (v := .tuple #[.agg #[.int .i64 x, .int .i64 y], .agg #[.int .i64 x5, .int .i64 y5]]) ?_ rfl ⟨_, _, _, _, rfl, HG1.out⟩
             rw [results_cells2 rfl]
             simp [asAddr, Result.andThen, hl, hl2]
             done)
          | (have hl := HE3.out.load Try.underlying44 rfl (by kernel_rfl)
             have hl2 := HF3.out.load Try.underlying44 rfl (by kernel_rfl)
             refine bodyPost_ret (v := .tuple #[.agg #[.int .i64 x, .int .i64 y], .agg #[.int .i64 x5, .int .i64 y5]]) ?_ rfl ⟨_, _, _, _, rfl, HG3.out⟩
             rw [results_cells2 rfl]
             simp [asAddr, Result.andThen, hl, hl2]
             done)
    · have g1 : (z == 1) = false := by simpa using h1
      clear h0 h1
      go_upto_region 8 with fail
      have CS := Lib.hid (show ∀ WZ : World, V2.grownBy WZ (some p) → WZ.cell? ⟨b5, 0, none⟩ = some (.int .i64 x) ∧ WZ.cell? ⟨b5, 1, none⟩ = some (.int .i64 y) from fun WZ hz => ⟨(E2.out.grown hz (by have := HPP.out; have := HL5.out; omega)).cell 0 _ rfl, (E2.out.grown hz (by have := HPP.out; have := HL5.out; omega)).cell 1 _ rfl⟩)
      have bc0 := (B2.out).cell 0 (.int .i64 0) rfl
      have bf0 := (B2.out).frozen 0
      have bc1 := (B2.out).cell 1 (.int .i64 0) rfl
      have bf1 := (B2.out).frozen 1
      have hS0 := Lib.hid (And.intro ((((E2.out.other (b' := w.heap.size) (by have := HPP.out; have := HL5.out; omega) 0 (.int .i64 x)).other (b' := w.heap.size) (by have := HPP.out; have := HL5.out; omega) 1 (.int .i64 y)).drew).cell 0 (.int .i64 x) rfl) ((((E2.out.other (b' := w.heap.size) (by have := HPP.out; have := HL5.out; omega) 0 (.int .i64 x)).other (b' := w.heap.size) (by have := HPP.out; have := HL5.out; omega) 1 (.int .i64 y)).drew).cell 1 (.int .i64 y) rfl))
      have HN0 := Lib.hid (show V2.grownBy V2.drew (some p) from ⟨rfl, rfl, rfl, Nat.le_refl _, fun _ _ _ => rfl⟩)
      go_region_held3 (fun w' => w'.cell? ⟨b5, 0, none⟩ = some (.int .i64 x) ∧ w'.cell? ⟨b5, 1, none⟩ = some (.int .i64 y)) (first
        | with_reducible exact CS.out _ HN0.out
        | with_reducible exact CS.out _ (by assumption)
        | (have q := hS0.out; with_reducible exact q)
        | (have q := hS1.out; with_reducible exact q)
        | (have q := hS2.out; with_reducible exact q)
        | (have q := hS3.out; with_reducible exact q)
        | (have q := hS4.out; with_reducible exact q)
        | go_keep) (first
        | (go_at_call 73; (with_reducible refine (velocity p (20 + 2) _ (HC2.out.keep (Below.refl _ _).drew) (by omega)).mono ?_); rintro e w' ⟨u, v, rfl, hvv, hcc, hg⟩
           have hgv : V2.grownBy w' (some p) := grown_trans HN0.out hg
           have KB := Lib.hid (B2.out.grown hgv (by have := HPP.out; omega))
           have KD := Lib.hid (D2.out.grown hgv (by have := HPP.out; omega))
           have KE := Lib.hid (E2.out.grown hgv (by have := HPP.out; have := HL5.out; omega))
           have KH := Lib.hid (HB2.out.grown hgv HB2.out.size (fun g e => by injection e with e; have := HPP.out; omega))
           have hS1 := Lib.hid (And.intro ((((KE.out.other (b' := w.heap.size) (by have := HPP.out; have := HL5.out; omega) 0 (.int .i64 x)).other (b' := w.heap.size) (by have := HPP.out; have := HL5.out; omega) 1 (.int .i64 y))).cell 0 (.int .i64 x) rfl) ((((KE.out.other (b' := w.heap.size) (by have := HPP.out; have := HL5.out; omega) 0 (.int .i64 x)).other (b' := w.heap.size) (by have := HPP.out; have := HL5.out; omega) 1 (.int .i64 y))).cell 1 (.int .i64 y) rfl))
           have hS2 := Lib.hid (And.intro ((((KE.out.other (b' := w.heap.size + 1) (by have := HPP.out; have := HL5.out; omega) 0 (.int .i64 u)).other (b' := w.heap.size + 1) (by have := HPP.out; have := HL5.out; omega) 1 (.int .i64 v))).cell 0 (.int .i64 x) rfl) ((((KE.out.other (b' := w.heap.size + 1) (by have := HPP.out; have := HL5.out; omega) 0 (.int .i64 u)).other (b' := w.heap.size + 1) (by have := HPP.out; have := HL5.out; omega) 1 (.int .i64 v))).cell 1 (.int .i64 y) rfl))
           have hS3 := Lib.hid (And.intro ((((((KE.out.other (b' := w.heap.size) (by have := HPP.out; have := HL5.out; omega) 0 (.int .i64 x)).other (b' := w.heap.size) (by have := HPP.out; have := HL5.out; omega) 1 (.int .i64 y)).other (b' := w.heap.size + 1) (by have := HPP.out; have := HL5.out; omega) 0 (.int .i64 u)).other (b' := w.heap.size + 1) (by have := HPP.out; have := HL5.out; omega) 1 (.int .i64 v))).cell 0 (.int .i64 x) rfl) ((((((KE.out.other (b' := w.heap.size) (by have := HPP.out; have := HL5.out; omega) 0 (.int .i64 x)).other (b' := w.heap.size) (by have := HPP.out; have := HL5.out; omega) 1 (.int .i64 y)).other (b' := w.heap.size + 1) (by have := HPP.out; have := HL5.out; omega) 0 (.int .i64 u)).other (b' := w.heap.size + 1) (by have := HPP.out; have := HL5.out; omega) 1 (.int .i64 v))).cell 1 (.int .i64 y) rfl))
           have hS4 := Lib.hid (And.intro ((((((KE.out.other (b' := w.heap.size + 1) (by have := HPP.out; have := HL5.out; omega) 0 (.int .i64 u)).other (b' := w.heap.size + 1) (by have := HPP.out; have := HL5.out; omega) 1 (.int .i64 v)).other (b' := w.heap.size) (by have := HPP.out; have := HL5.out; omega) 0 (.int .i64 x)).other (b' := w.heap.size) (by have := HPP.out; have := HL5.out; omega) 1 (.int .i64 y))).cell 0 (.int .i64 x) rfl) ((((((KE.out.other (b' := w.heap.size + 1) (by have := HPP.out; have := HL5.out; omega) 0 (.int .i64 u)).other (b' := w.heap.size + 1) (by have := HPP.out; have := HL5.out; omega) 1 (.int .i64 v)).other (b' := w.heap.size) (by have := HPP.out; have := HL5.out; omega) 0 (.int .i64 x)).other (b' := w.heap.size) (by have := HPP.out; have := HL5.out; omega) 1 (.int .i64 y))).cell 1 (.int .i64 y) rfl))
           have bc0 := (KB.out).cell 0 (.int .i64 0) rfl
           have bf0 := (KB.out).frozen 0
           have bc1 := (KB.out).cell 1 (.int .i64 0) rfl
           have bf1 := (KB.out).frozen 1
           have dc0 := (KD.out).cell 0 (.int .i64 0) rfl
           have df0 := (KD.out).frozen 0
           have dc1 := (KD.out).cell 1 (.int .i64 0) rfl
           have df1 := (KD.out).frozen 1
           have ddc0 := (((KD.out.other (b' := w.heap.size) (by omega) 0 (.int .i64 x)).other (b' := w.heap.size) (by omega) 1 (.int .i64 y))).cell 0 (.int .i64 0) rfl
           have ddf0 := (((KD.out.other (b' := w.heap.size) (by omega) 0 (.int .i64 x)).other (b' := w.heap.size) (by omega) 1 (.int .i64 y))).frozen 0
           have ddc1 := (((KD.out.other (b' := w.heap.size) (by omega) 0 (.int .i64 x)).other (b' := w.heap.size) (by omega) 1 (.int .i64 y))).cell 1 (.int .i64 0) rfl
           have ddf1 := (((KD.out.other (b' := w.heap.size) (by omega) 0 (.int .i64 x)).other (b' := w.heap.size) (by omega) 1 (.int .i64 y))).frozen 1
           have bbc0 := (((KB.out.other (b' := w.heap.size + 1) (by omega) 0 (.int .i64 u)).other (b' := w.heap.size + 1) (by omega) 1 (.int .i64 v))).cell 0 (.int .i64 0) rfl
           have bbf0 := (((KB.out.other (b' := w.heap.size + 1) (by omega) 0 (.int .i64 u)).other (b' := w.heap.size + 1) (by omega) 1 (.int .i64 v))).frozen 0
           have bbc1 := (((KB.out.other (b' := w.heap.size + 1) (by omega) 0 (.int .i64 u)).other (b' := w.heap.size + 1) (by omega) 1 (.int .i64 v))).cell 1 (.int .i64 0) rfl
           have bbf1 := (((KB.out.other (b' := w.heap.size + 1) (by omega) 0 (.int .i64 u)).other (b' := w.heap.size + 1) (by omega) 1 (.int .i64 v))).frozen 1
           clear hvv hcc hg)
        | (go_at_call 73; (with_reducible refine (velocity p (20 + 2) _ ((set_ints (set_ints HC2.out B2.out (by have := HPP.out; omega) 0 (.int .i64 x)) (B2.out.set 0 (.int .i64 x)) (by have := HPP.out; omega) 1 (.int .i64 y)).keep (Below.refl _ _).drew) (by omega)).mono ?_); rintro e w' ⟨u, v, rfl, hvv, hcc, hg⟩
           have QB := Lib.hid (((B2.out.set 0 (.int .i64 x)).set 1 (.int .i64 y)).drew.grown hg (by have := HPP.out; omega))
           have QD := Lib.hid (((D2.out.other (b' := w.heap.size) (by omega) 0 (.int .i64 x)).other (b' := w.heap.size) (by omega) 1 (.int .i64 y)).drew.grown hg (by have := HPP.out; omega))
           have QE := Lib.hid (((E2.out.other (b' := w.heap.size) (by have := HPP.out; have := HL5.out; omega) 0 (.int .i64 x)).other (b' := w.heap.size) (by have := HPP.out; have := HL5.out; omega) 1 (.int .i64 y)).drew.grown hg (by have := HPP.out; have := HL5.out; omega))
           have QH := Lib.hid ((Below.setCell (Below.setCell HB2.out (p := ⟨w.heap.size, 0, none⟩) (Nat.le_refl _) (.int .i64 x)) (p := ⟨w.heap.size, 1, none⟩) (Nat.le_refl _) (.int .i64 y)).drew.grown hg (Below.setCell (Below.setCell HB2.out (p := ⟨w.heap.size, 0, none⟩) (Nat.le_refl _) (.int .i64 x)) (p := ⟨w.heap.size, 1, none⟩) (Nat.le_refl _) (.int .i64 y)).drew.size (fun g e => by injection e with e; have := HPP.out; omega))
           have hS1 := Lib.hid (And.intro ((QE.out).cell 0 (.int .i64 x) rfl) ((QE.out).cell 1 (.int .i64 y) rfl))
           have hS2 := Lib.hid (And.intro ((((QE.out.other (b' := w.heap.size + 1) (by have := HPP.out; have := HL5.out; omega) 0 (.int .i64 u)).other (b' := w.heap.size + 1) (by have := HPP.out; have := HL5.out; omega) 1 (.int .i64 v))).cell 0 (.int .i64 x) rfl) ((((QE.out.other (b' := w.heap.size + 1) (by have := HPP.out; have := HL5.out; omega) 0 (.int .i64 u)).other (b' := w.heap.size + 1) (by have := HPP.out; have := HL5.out; omega) 1 (.int .i64 v))).cell 1 (.int .i64 y) rfl))
           have dc0 := (QD.out).cell 0 (.int .i64 0) rfl
           have df0 := (QD.out).frozen 0
           have dc1 := (QD.out).cell 1 (.int .i64 0) rfl
           have df1 := (QD.out).frozen 1
           clear hvv hcc hg))
      all_goals
        go_wp2_with fail
        first
          | (have hl := ((((KB.out.set 0 (.int .i64 x)).set 1 (.int .i64 y)).other (b' := w.heap.size + 1) (by omega) 0 (.int .i64 u)).other (b' := w.heap.size + 1) (by omega) 1 (.int .i64 v)).load Try.underlying44 rfl (by kernel_rfl)
             have hl2 := ((((KD.out.other (b' := w.heap.size) (by omega) 0 (.int .i64 x)).other (b' := w.heap.size) (by omega) 1 (.int .i64 y)).set 0 (.int .i64 u)).set 1 (.int .i64 v)).load Try.underlying44 rfl (by kernel_rfl)
             refine bodyPost_ret (v := .tuple #[.agg #[.int .i64 x, .int .i64 y], .agg #[.int .i64 u, .int .i64 v]]) ?_ rfl ⟨_, _, _, _, rfl, (Below.setCell (Below.setCell (Below.setCell (Below.setCell KH.out (p := ⟨w.heap.size, 0, none⟩) (Nat.le_refl _) (.int .i64 x)) (p := ⟨w.heap.size, 1, none⟩) (Nat.le_refl _) (.int .i64 y)) (p := ⟨w.heap.size + 1, 0, none⟩) (Nat.le_succ _) (.int .i64 u)) (p := ⟨w.heap.size + 1, 1, none⟩) (Nat.le_succ _) (.int .i64 v))⟩
             rw [results_cells2 rfl]
             simp [asAddr, Result.andThen, hl, hl2]
             done)
          | (have hl := ((((KB.out.other (b' := w.heap.size + 1) (by omega) 0 (.int .i64 u)).other (b' := w.heap.size + 1) (by omega) 1 (.int .i64 v)).set 0 (.int .i64 x)).set 1 (.int .i64 y)).load Try.underlying44 rfl (by kernel_rfl)
             have hl2 := ((((KD.out.set 0 (.int .i64 u)).set 1 (.int .i64 v)).other (b' := w.heap.size) (by omega) 0 (.int .i64 x)).other (b' := w.heap.size) (by omega) 1 (.int .i64 y)).load Try.underlying44 rfl (by kernel_rfl)
             refine bodyPost_ret (v := .tuple #[.agg #[.int .i64 x, .int .i64 y], .agg #[.int .i64 u, .int .i64 v]]) ?_ rfl ⟨_, _, _, _, rfl, (Below.setCell (Below.setCell (Below.setCell (Below.setCell KH.out (p := ⟨w.heap.size + 1, 0, none⟩) (Nat.le_succ _) (.int .i64 u)) (p := ⟨w.heap.size + 1, 1, none⟩) (Nat.le_succ _) (.int .i64 v)) (p := ⟨w.heap.size, 0, none⟩) (Nat.le_refl _) (.int .i64 x)) (p := ⟨w.heap.size, 1, none⟩) (Nat.le_refl _) (.int .i64 y))⟩
             rw [results_cells2 rfl]
             simp [asAddr, Result.andThen, hl, hl2]
             done)
          | (have hl := ((QB.out.other (b' := w.heap.size + 1) (by omega) 0 (.int .i64 u)).other (b' := w.heap.size + 1) (by omega) 1 (.int .i64 v)).load Try.underlying44 rfl (by kernel_rfl)
             have hl2 := ((QD.out.set 0 (.int .i64 u)).set 1 (.int .i64 v)).load Try.underlying44 rfl (by kernel_rfl)
             refine bodyPost_ret (v := .tuple #[.agg #[.int .i64 x, .int .i64 y], .agg #[.int .i64 u, .int .i64 v]]) ?_ rfl ⟨_, _, _, _, rfl, (Below.setCell (Below.setCell QH.out (p := ⟨w.heap.size + 1, 0, none⟩) (Nat.le_succ _) (.int .i64 u)) (p := ⟨w.heap.size + 1, 1, none⟩) (Nat.le_succ _) (.int .i64 v))⟩
             rw [results_cells2 rfl]
             simp [asAddr, Result.andThen, hl, hl2]
             done)

end Go.Proofs.Ytchhjjiidfacbaa.draww8
