/- spec's DrawPlacesWith. -/
import Derived.Test.YtkmmogdiekillaaDrawQ7
import Derived.Test.YtkmmogdiekillaaPosX
import Derived.Deep.RegionHeld3
import Derived.Deep.CutRange
namespace Go.Proofs.Ytkmmogdiekillaa.drawr7
open Go.RowKit Go.Proofs.Ytkmmogdiekillaa.cur Go.Proofs.Ytkmmogdiekillaa.atc Go.Proofs.Ytkmmogdiekillaa.ats Go.Proofs.Ytkmmogdiekillaa.pos Go.Proofs.Ytkmmogdiekillaa.poss Go.Proofs.Ytkmmogdiekillaa.post Go.Proofs.Ytkmmogdiekillaa.drawp7 Go.Proofs.Ytkmmogdiekillaa.drawq7

theorem at_cellC {T : TypeId} {cs : Array Value} {p : Nat} {w W : World} {b : Nat} (h : AtC T cs p w W b) (i : Nat) (v : Value) (hv : cs[i]? = some v) : W.cell? ⟨b, i, none⟩ = some v := (h.cell i).trans hv
theorem results_cells3 {fn : Func} {p q r : Tmp} {ty ty' ty'' : TypeId} (h : fn.results = #[.cell p ty, .cell q ty', .cell r ty'']) (tmps : Array Value) (P : Program) (w : World) :
    (results fn tmps).run P w =
      ((asAddr (tmps.getD p undef)).run P w).andThen fun a w₁ => ((loadVar ty a).run P w₁).andThen fun v w₂ => ((asAddr (tmps.getD q undef)).run P w₂).andThen fun b w₃ => ((loadVar ty' b).run P w₃).andThen fun u w₄ => ((asAddr (tmps.getD r undef)).run P w₄).andThen fun d w₅ => ((loadVar ty'' d).run P w₅).andThen fun x w₆ => .ok (.tuple #[v, u, x]) w₆ := by
  simp only [results, h]
  simp [Sem.run_bind, Result.andThen]
/-- An old struct, seen from a region's first world on. -/
theorem atc_of_ats {T : TypeId} {cs : Array Value} {w V W : World} {b p : Nat} (h : AtS T cs w V b) (hg : V.grownBy W (some p)) (hne : b ≠ p) (hp : w.heap.size ≤ p) : AtS T cs w W b := at_grown h hg hne hp
def ReportPlaces (w : World) (e : Ending) (w' : World) : Prop := ∃ o a b x y u v, e = .returned (.tuple #[.agg #[.bool o, .int .i64 a, .int .i64 b], .agg #[.int .i64 x, .int .i64 y], .agg #[.int .i64 u, .int .i64 v]]) ∧ Below w.heap.size w w'

set_option maxRecDepth 100000 in
set_option maxHeartbeats 8000000 in
theorem placesWith (A : Option Addr) (n c : Nat) (w : World) (hn : n ≤ 65536) (h : Bytes w w.heap.size A n) :
    Calls Try.prog 38 #[.slice A n c] w (ReportPlaces w) := by
  have B0 := Lib.hid ((((newS 29 #[.bool false, .int .i64 0, .int .i64 0] w).alloc (.cells #[.int .i64 0, .int .i64 0] 25)).alloc (.cells #[.int .i64 0, .int .i64 0] 25)).alloc (.cells #[.slice A n c, .int .i64 0, .int .u64 0] 73))
  have C0 := Lib.hid ((((newS 29 #[.bool false, .int .i64 0, .int .i64 0] w).next 25 #[.int .i64 0, .int .i64 0]).alloc (.cells #[.int .i64 0, .int .i64 0] 25)).alloc (.cells #[.slice A n c, .int .i64 0, .int .u64 0] 73))
  have D0 := Lib.hid ((((newS 29 #[.bool false, .int .i64 0, .int .i64 0] w).alloc (.cells #[.int .i64 0, .int .i64 0] 25)).next 25 #[.int .i64 0, .int .i64 0]).alloc (.cells #[.slice A n c, .int .i64 0, .int .u64 0] 73))
  rw [World.size_alloc] at C0
  rw [World.size_alloc, World.size_alloc] at D0
  have hc := new_cur c (by omega) (bytes_al (.cells #[.int .i64 0, .int .i64 0] 25) (bytes_al (.cells #[.int .i64 0, .int .i64 0] 25) (bytes_al (.cells #[.bool false, .int .i64 0, .int .i64 0] 29) h)))
  rw [World.size_alloc, World.size_alloc, World.size_alloc] at hc
  have HC := Lib.hid hc
  clear h hc
  go_enter Try.func38, Try.ntmps38
  go_wp2_with fail
  generalize (((w.alloc (.cells #[.bool false, .int .i64 0, .int .i64 0] 29)).alloc (.cells #[.int .i64 0, .int .i64 0] 25)).alloc (.cells #[.int .i64 0, .int .i64 0] 25)).alloc (.cells #[.slice A n c, .int .i64 0, .int .u64 0] 73) = W at *
  generalize hp : w.heap.size + 1 + 1 + 1 = p at *
  have HPP := Lib.hid hp
  clear hp
  refine (anyPlace _ 0 W HC.out (by omega)).mono ?_
  rintro e w1 ⟨x, y, rfl, hv, hc1, hg1⟩
  have B1 := Lib.hid (at_grown B0.out hg1 (by have := HPP.out; omega) (by have := HPP.out; omega))
  have C1 := Lib.hid (at_grown C0.out hg1 (by have := HPP.out; omega) (by have := HPP.out; omega))
  have D1 := Lib.hid (at_grown D0.out hg1 (by have := HPP.out; omega) (by have := HPP.out; omega))
  have hlt := hc1.lt
  have E1 := Lib.hid (newC 25 #[.int .i64 x, .int .i64 y] hlt)
  have HC1 := Lib.hid (Cur.alloc hc1 (.cells #[.int .i64 x, .int .i64 y] 25))
  have HBP := Lib.hid (show w1.heap.size ≠ p by omega)
  clear hv hc1 hg1 B0 C0 D0 HC hlt
  have B2 := Lib.hid (B1.out.alloc (.cells #[.int .i64 x, .int .i64 y] 25))
  have C2 := Lib.hid (C1.out.alloc (.cells #[.int .i64 x, .int .i64 y] 25))
  have D2 := Lib.hid (D1.out.alloc (.cells #[.int .i64 x, .int .i64 y] 25))
  clear B1 C1 D1
  go_upto_region 3 with fail
  generalize w1.alloc (.cells #[.int .i64 x, .int .i64 y] 25) = V at *
  have E2 := Lib.hid (show AtC 25 #[.int .i64 x, .int .i64 y] p w1 V w1.heap.size from E1.out)
  have HLP := Lib.hid (show p < w1.heap.size from E1.out.2.2.1)
  clear E1
  generalize w1.heap.size = b6 at *

  have HG0 := Lib.hid (show V.grownBy V.drew (some p) from ⟨rfl, rfl, rfl, Nat.le_refl _, fun _ _ _ => rfl⟩)
  have HG1 := Lib.hid (show V.grownBy (V.alloc (.cells #[.int .i64 0, .int .i64 0] 25)).drew (some p) from ⟨rfl, rfl, rfl, (grown_alloc (w := V) (.cells #[.int .i64 0, .int .i64 0] 25) (some p)).size, (grown_alloc (w := V) (.cells #[.int .i64 0, .int .i64 0] 25) (some p)).block⟩)
  have HPV := Lib.hid HC1.out.lt
  have HN1 := Lib.hid (AtC.drew (newC 25 #[.int .i64 0, .int .i64 0] HPV.out))
  have CS := Lib.hid (show ∀ WZ : World, V.grownBy WZ (some p) → WZ.cell? ⟨b6, 0, none⟩ = some (.int .i64 x) ∧ WZ.cell? ⟨b6, 1, none⟩ = some (.int .i64 y) from fun WZ hz => ⟨at_cellC (E2.out.old hz) 0 _ rfl, at_cellC (E2.out.old hz) 1 _ rfl⟩)
  go_cut [7] from 13 to 23 (fun q wz => ∃ b u v, q = .pointer (some ⟨b, 0, none⟩) ∧ AtC 25 #[.int .i64 u, .int .i64 v] p V wz b ∧ Cur wz p 24)
  case first =>
    go_region_held3 (fun w' => w'.cell? ⟨b6, 0, none⟩ = some (.int .i64 x) ∧ w'.cell? ⟨b6, 1, none⟩ = some (.int .i64 y)) (first
      | exact CS.out _ HG0.out
      | exact CS.out _ HG1.out
      | exact CS.out _ (by assumption)
      | exact CS.out _ (grown_trans (by assumption) (grown_alloc (.cells #[.int .i64 0, .int .i64 0] 25) _))
      | exact CS.out _ (AtC.set (AtC.set hnu 0 _) 1 _).1
      | exact CS.out _ (grown_trans (by assumption) (grown_alloc _ _))
      | go_keep) (first
      | (go_at_call 80; (with_reducible refine (pick p 22 700 _ (by first | assumption | exact Cur.alloc (by assumption) (.cells #[.int .i64 0, .int .i64 0] 25)) (by omega) (by omega) (by omega)).mono ?_); rintro e w' ⟨r2, rfl, -, -, hcb, hg⟩
         have hgv2 : V.grownBy w' (some p) := grown_trans (by first | assumption | exact grown_trans (by assumption) (grown_alloc (.cells #[.int .i64 0, .int .i64 0] 25) _)) hg
         first
           | (have hnu := AtC.old hnu hg; have z0 := at_cellC hnu 0 _ rfl; have z1 := at_cellC hnu 1 _ rfl; have y0 := AtC.frozen hnu 0; have y1 := AtC.frozen hnu 1; clear hg)
           | (have hnu := AtC.old (at_new (T := 25) (cs := #[.int .i64 0, .int .i64 0]) HPV.out (by assumption)) hg; have z0 := at_cellC hnu 0 _ rfl; have z1 := at_cellC hnu 1 _ rfl; have y0 := AtC.frozen hnu 0; have y1 := AtC.frozen hnu 1; clear hg)
           | clear hg)
      | (go_at_call 80; (with_reducible refine (pick p 20 700 _ (by first | exact HC1.out.keep (Below.refl _ _).drew | exact (Cur.alloc HC1.out (.cells #[.int .i64 0, .int .i64 0] 25)).keep (Below.refl _ _).drew) (by omega) (by omega) (by omega)).mono ?_); rintro e w' ⟨r1, rfl, -, -, hca, hg⟩
         have hgv : V.grownBy w' (some p) := grown_trans (by first | exact HG0.out | exact HG1.out) hg
         first
           | (have hnu := AtC.old HN1.out hg; have z0 := at_cellC hnu 0 _ rfl; have z1 := at_cellC hnu 1 _ rfl; have y0 := AtC.frozen hnu 0; have y1 := AtC.frozen hnu 1; clear hg)
           | clear hg))
    all_goals
      go_wp2_with fail
      go_meet
      first
        | exact ⟨_, _, _, rfl, AtC.set (AtC.set hnu 0 _) 1 _, Cur.set (Cur.set hcb hnu.2.2.1) hnu.2.2.1⟩
        | exact ⟨_, _, _, rfl, at_new HPV.out hgv2, Cur.alloc hcb _⟩
  case rest =>
    obtain ⟨b7, u, v, rfl, hF, hcf⟩ := hcut
    have HB3 := Lib.hid (at_grown B2.out hF.1 (by have := HPP.out; omega) (by have := HPP.out; omega)).1
    have B3 := Lib.hid (Blk.of_s (at_grown B2.out hF.1 (by have := HPP.out; omega) (by have := HPP.out; omega)))
    have C3 := Lib.hid (Blk.of_s (at_grown C2.out hF.1 (by have := HPP.out; omega) (by have := HPP.out; omega)))
    have D3 := Lib.hid (Blk.of_s (at_grown D2.out hF.1 (by have := HPP.out; omega) (by have := HPP.out; omega)))
    have E3 := Lib.hid (Blk.of_c (E2.out.old hF.1))
    have F3 := Lib.hid (Blk.of_c hF)
    have h67 : b6 < b7 := Nat.lt_of_lt_of_le E2.out.2.2.2.1 hF.2.1
    have h6 : p < b6 := HLP.out
    have HC3 := Lib.hid hcf
    have H67 := Lib.hid h67
    have H6 := Lib.hid h6
    clear hF hcf B2 C2 D2 E2 HC1 HG0 HG1 HPV HN1 CS h6 h67 HLP HBP
    generalize wc = V3 at *
    go_wp2_with fail
    refine (one _ _ 16 V3 HC3.out (by omega) (by omega) (by omega)).mono ?_
    rintro e V4 ⟨i, rfl, hc4, hg4⟩
    have HB4 := Lib.hid (HB3.out.grown hg4 HB3.out.size (fun g e => by injection e with e; have := HPP.out; omega))
    have B4 := Lib.hid (B3.out.grown hg4 (by have := HPP.out; have := H6.out; have := H67.out; omega))
    have C4 := Lib.hid (C3.out.grown hg4 (by have := HPP.out; have := H6.out; have := H67.out; omega))
    have D4 := Lib.hid (D3.out.grown hg4 (by have := HPP.out; have := H6.out; have := H67.out; omega))
    have E4 := Lib.hid (E3.out.grown hg4 (by have := HPP.out; have := H6.out; have := H67.out; omega))
    have F4 := Lib.hid (F3.out.grown hg4 (by have := HPP.out; have := H6.out; have := H67.out; omega))
    have HC4 := Lib.hid hc4
    clear B3 C3 D3 E3 F3 HB3 HC3
    clear hc4 hg4
    cases i
    · have HG0 := Lib.hid (show V4.grownBy V4.drew (some p) from ⟨rfl, rfl, rfl, Nat.le_refl _, fun _ _ _ => rfl⟩)
      have e0 : V4.drew.cell? ⟨b6, 0, none⟩ = some (.int .i64 x) := E4.out.cell 0 (.int .i64 x) rfl
      have e1 : V4.drew.cell? ⟨b6, 1, none⟩ = some (.int .i64 y) := E4.out.cell 1 (.int .i64 y) rfl
      have e2 : V4.drew.cell? ⟨b7, 0, none⟩ = some (.int .i64 u) := F4.out.cell 0 (.int .i64 u) rfl
      have e3 : V4.drew.cell? ⟨b7, 1, none⟩ = some (.int .i64 v) := F4.out.cell 1 (.int .i64 v) rfl
      go_upto_region 7 with fail
      go_region_held3 (fun w' => w'.cell? ⟨b6, 0, none⟩ = some (.int .i64 x) ∧ w'.cell? ⟨b6, 1, none⟩ = some (.int .i64 y) ∧ w'.cell? ⟨b7, 0, none⟩ = some (.int .i64 u) ∧ w'.cell? ⟨b7, 1, none⟩ = some (.int .i64 v)) (first
        | with_reducible exact ⟨e0, e1, e2, e3⟩
        | with_reducible exact KS0.out
        | with_reducible exact KS1.out
        | with_reducible exact KS2.out
        | with_reducible exact KS3.out
        | go_keep) (first
        | (go_at_call 70; (with_reducible refine (report p 40 _ ((HC4.out.more (by omega)).keep (Below.refl _ _).drew) (by omega)).mono ?_); rintro e w' ⟨o, a, b, rfl, hcb, hg⟩
           have hgv := grown_trans HG0.out hg
           have Bw := B4.out.grown hgv (by have := HPP.out; have := H6.out; have := H67.out; omega)
           have Cw := C4.out.grown hgv (by have := HPP.out; have := H6.out; have := H67.out; omega)
           have Dw := D4.out.grown hgv (by have := HPP.out; have := H6.out; have := H67.out; omega)
           have Ew := E4.out.grown hgv (by have := HPP.out; have := H6.out; have := H67.out; omega)
           have Fw := F4.out.grown hgv (by have := HPP.out; have := H6.out; have := H67.out; omega)
           have KS0 := Lib.hid (And.intro ((Ew).cell 0 (.int .i64 x) rfl) (And.intro ((Ew).cell 1 (.int .i64 y) rfl) (And.intro ((Fw).cell 0 (.int .i64 u) rfl) ((Fw).cell 1 (.int .i64 v) rfl))))
           have KS1 := Lib.hid (And.intro (((((Ew.other (b' := w.heap.size) (by have := HPP.out; have := H6.out; have := H67.out; omega) 0 (.bool o)).other (b' := w.heap.size) (by have := HPP.out; have := H6.out; have := H67.out; omega) 1 (.int .i64 a)).other (b' := w.heap.size) (by have := HPP.out; have := H6.out; have := H67.out; omega) 2 (.int .i64 b))).cell 0 (.int .i64 x) rfl) (And.intro (((((Ew.other (b' := w.heap.size) (by have := HPP.out; have := H6.out; have := H67.out; omega) 0 (.bool o)).other (b' := w.heap.size) (by have := HPP.out; have := H6.out; have := H67.out; omega) 1 (.int .i64 a)).other (b' := w.heap.size) (by have := HPP.out; have := H6.out; have := H67.out; omega) 2 (.int .i64 b))).cell 1 (.int .i64 y) rfl) (And.intro (((((Fw.other (b' := w.heap.size) (by have := HPP.out; have := H6.out; have := H67.out; omega) 0 (.bool o)).other (b' := w.heap.size) (by have := HPP.out; have := H6.out; have := H67.out; omega) 1 (.int .i64 a)).other (b' := w.heap.size) (by have := HPP.out; have := H6.out; have := H67.out; omega) 2 (.int .i64 b))).cell 0 (.int .i64 u) rfl) (((((Fw.other (b' := w.heap.size) (by have := HPP.out; have := H6.out; have := H67.out; omega) 0 (.bool o)).other (b' := w.heap.size) (by have := HPP.out; have := H6.out; have := H67.out; omega) 1 (.int .i64 a)).other (b' := w.heap.size) (by have := HPP.out; have := H6.out; have := H67.out; omega) 2 (.int .i64 b))).cell 1 (.int .i64 v) rfl))))
           have KS2 := Lib.hid (And.intro (((((((Ew.other (b' := w.heap.size) (by have := HPP.out; have := H6.out; have := H67.out; omega) 0 (.bool o)).other (b' := w.heap.size) (by have := HPP.out; have := H6.out; have := H67.out; omega) 1 (.int .i64 a)).other (b' := w.heap.size) (by have := HPP.out; have := H6.out; have := H67.out; omega) 2 (.int .i64 b)).other (b' := w.heap.size + 1) (by have := HPP.out; have := H6.out; have := H67.out; omega) 0 (.int .i64 x)).other (b' := w.heap.size + 1) (by have := HPP.out; have := H6.out; have := H67.out; omega) 1 (.int .i64 y))).cell 0 (.int .i64 x) rfl) (And.intro (((((((Ew.other (b' := w.heap.size) (by have := HPP.out; have := H6.out; have := H67.out; omega) 0 (.bool o)).other (b' := w.heap.size) (by have := HPP.out; have := H6.out; have := H67.out; omega) 1 (.int .i64 a)).other (b' := w.heap.size) (by have := HPP.out; have := H6.out; have := H67.out; omega) 2 (.int .i64 b)).other (b' := w.heap.size + 1) (by have := HPP.out; have := H6.out; have := H67.out; omega) 0 (.int .i64 x)).other (b' := w.heap.size + 1) (by have := HPP.out; have := H6.out; have := H67.out; omega) 1 (.int .i64 y))).cell 1 (.int .i64 y) rfl) (And.intro (((((((Fw.other (b' := w.heap.size) (by have := HPP.out; have := H6.out; have := H67.out; omega) 0 (.bool o)).other (b' := w.heap.size) (by have := HPP.out; have := H6.out; have := H67.out; omega) 1 (.int .i64 a)).other (b' := w.heap.size) (by have := HPP.out; have := H6.out; have := H67.out; omega) 2 (.int .i64 b)).other (b' := w.heap.size + 1) (by have := HPP.out; have := H6.out; have := H67.out; omega) 0 (.int .i64 x)).other (b' := w.heap.size + 1) (by have := HPP.out; have := H6.out; have := H67.out; omega) 1 (.int .i64 y))).cell 0 (.int .i64 u) rfl) (((((((Fw.other (b' := w.heap.size) (by have := HPP.out; have := H6.out; have := H67.out; omega) 0 (.bool o)).other (b' := w.heap.size) (by have := HPP.out; have := H6.out; have := H67.out; omega) 1 (.int .i64 a)).other (b' := w.heap.size) (by have := HPP.out; have := H6.out; have := H67.out; omega) 2 (.int .i64 b)).other (b' := w.heap.size + 1) (by have := HPP.out; have := H6.out; have := H67.out; omega) 0 (.int .i64 x)).other (b' := w.heap.size + 1) (by have := HPP.out; have := H6.out; have := H67.out; omega) 1 (.int .i64 y))).cell 1 (.int .i64 v) rfl))))
           have KS3 := Lib.hid (And.intro (((((((((Ew.other (b' := w.heap.size) (by have := HPP.out; have := H6.out; have := H67.out; omega) 0 (.bool o)).other (b' := w.heap.size) (by have := HPP.out; have := H6.out; have := H67.out; omega) 1 (.int .i64 a)).other (b' := w.heap.size) (by have := HPP.out; have := H6.out; have := H67.out; omega) 2 (.int .i64 b)).other (b' := w.heap.size + 1) (by have := HPP.out; have := H6.out; have := H67.out; omega) 0 (.int .i64 x)).other (b' := w.heap.size + 1) (by have := HPP.out; have := H6.out; have := H67.out; omega) 1 (.int .i64 y)).other (b' := w.heap.size + 1 + 1) (by have := HPP.out; have := H6.out; have := H67.out; omega) 0 (.int .i64 u)).other (b' := w.heap.size + 1 + 1) (by have := HPP.out; have := H6.out; have := H67.out; omega) 1 (.int .i64 v))).cell 0 (.int .i64 x) rfl) (And.intro (((((((((Ew.other (b' := w.heap.size) (by have := HPP.out; have := H6.out; have := H67.out; omega) 0 (.bool o)).other (b' := w.heap.size) (by have := HPP.out; have := H6.out; have := H67.out; omega) 1 (.int .i64 a)).other (b' := w.heap.size) (by have := HPP.out; have := H6.out; have := H67.out; omega) 2 (.int .i64 b)).other (b' := w.heap.size + 1) (by have := HPP.out; have := H6.out; have := H67.out; omega) 0 (.int .i64 x)).other (b' := w.heap.size + 1) (by have := HPP.out; have := H6.out; have := H67.out; omega) 1 (.int .i64 y)).other (b' := w.heap.size + 1 + 1) (by have := HPP.out; have := H6.out; have := H67.out; omega) 0 (.int .i64 u)).other (b' := w.heap.size + 1 + 1) (by have := HPP.out; have := H6.out; have := H67.out; omega) 1 (.int .i64 v))).cell 1 (.int .i64 y) rfl) (And.intro (((((((((Fw.other (b' := w.heap.size) (by have := HPP.out; have := H6.out; have := H67.out; omega) 0 (.bool o)).other (b' := w.heap.size) (by have := HPP.out; have := H6.out; have := H67.out; omega) 1 (.int .i64 a)).other (b' := w.heap.size) (by have := HPP.out; have := H6.out; have := H67.out; omega) 2 (.int .i64 b)).other (b' := w.heap.size + 1) (by have := HPP.out; have := H6.out; have := H67.out; omega) 0 (.int .i64 x)).other (b' := w.heap.size + 1) (by have := HPP.out; have := H6.out; have := H67.out; omega) 1 (.int .i64 y)).other (b' := w.heap.size + 1 + 1) (by have := HPP.out; have := H6.out; have := H67.out; omega) 0 (.int .i64 u)).other (b' := w.heap.size + 1 + 1) (by have := HPP.out; have := H6.out; have := H67.out; omega) 1 (.int .i64 v))).cell 0 (.int .i64 u) rfl) (((((((((Fw.other (b' := w.heap.size) (by have := HPP.out; have := H6.out; have := H67.out; omega) 0 (.bool o)).other (b' := w.heap.size) (by have := HPP.out; have := H6.out; have := H67.out; omega) 1 (.int .i64 a)).other (b' := w.heap.size) (by have := HPP.out; have := H6.out; have := H67.out; omega) 2 (.int .i64 b)).other (b' := w.heap.size + 1) (by have := HPP.out; have := H6.out; have := H67.out; omega) 0 (.int .i64 x)).other (b' := w.heap.size + 1) (by have := HPP.out; have := H6.out; have := H67.out; omega) 1 (.int .i64 y)).other (b' := w.heap.size + 1 + 1) (by have := HPP.out; have := H6.out; have := H67.out; omega) 0 (.int .i64 u)).other (b' := w.heap.size + 1 + 1) (by have := HPP.out; have := H6.out; have := H67.out; omega) 1 (.int .i64 v))).cell 1 (.int .i64 v) rfl))))
           have bc0 := (Bw).cell 0 (.bool false) rfl
           have bf0 := (Bw).frozen 0
           have bc1 := (Bw).cell 1 (.int .i64 0) rfl
           have bf1 := (Bw).frozen 1
           have bc2 := (Bw).cell 2 (.int .i64 0) rfl
           have bf2 := (Bw).frozen 2
           have cc0 := ((((Cw.other (b' := w.heap.size) (by have := HPP.out; have := H6.out; have := H67.out; omega) 0 (.bool o)).other (b' := w.heap.size) (by have := HPP.out; have := H6.out; have := H67.out; omega) 1 (.int .i64 a)).other (b' := w.heap.size) (by have := HPP.out; have := H6.out; have := H67.out; omega) 2 (.int .i64 b))).cell 0 (.int .i64 0) rfl
           have cf0 := ((((Cw.other (b' := w.heap.size) (by have := HPP.out; have := H6.out; have := H67.out; omega) 0 (.bool o)).other (b' := w.heap.size) (by have := HPP.out; have := H6.out; have := H67.out; omega) 1 (.int .i64 a)).other (b' := w.heap.size) (by have := HPP.out; have := H6.out; have := H67.out; omega) 2 (.int .i64 b))).frozen 0
           have cc1 := ((((Cw.other (b' := w.heap.size) (by have := HPP.out; have := H6.out; have := H67.out; omega) 0 (.bool o)).other (b' := w.heap.size) (by have := HPP.out; have := H6.out; have := H67.out; omega) 1 (.int .i64 a)).other (b' := w.heap.size) (by have := HPP.out; have := H6.out; have := H67.out; omega) 2 (.int .i64 b))).cell 1 (.int .i64 0) rfl
           have cf1 := ((((Cw.other (b' := w.heap.size) (by have := HPP.out; have := H6.out; have := H67.out; omega) 0 (.bool o)).other (b' := w.heap.size) (by have := HPP.out; have := H6.out; have := H67.out; omega) 1 (.int .i64 a)).other (b' := w.heap.size) (by have := HPP.out; have := H6.out; have := H67.out; omega) 2 (.int .i64 b))).frozen 1
           have dc0 := ((((((Dw.other (b' := w.heap.size) (by have := HPP.out; have := H6.out; have := H67.out; omega) 0 (.bool o)).other (b' := w.heap.size) (by have := HPP.out; have := H6.out; have := H67.out; omega) 1 (.int .i64 a)).other (b' := w.heap.size) (by have := HPP.out; have := H6.out; have := H67.out; omega) 2 (.int .i64 b)).other (b' := w.heap.size + 1) (by have := HPP.out; have := H6.out; have := H67.out; omega) 0 (.int .i64 x)).other (b' := w.heap.size + 1) (by have := HPP.out; have := H6.out; have := H67.out; omega) 1 (.int .i64 y))).cell 0 (.int .i64 0) rfl
           have df0 := ((((((Dw.other (b' := w.heap.size) (by have := HPP.out; have := H6.out; have := H67.out; omega) 0 (.bool o)).other (b' := w.heap.size) (by have := HPP.out; have := H6.out; have := H67.out; omega) 1 (.int .i64 a)).other (b' := w.heap.size) (by have := HPP.out; have := H6.out; have := H67.out; omega) 2 (.int .i64 b)).other (b' := w.heap.size + 1) (by have := HPP.out; have := H6.out; have := H67.out; omega) 0 (.int .i64 x)).other (b' := w.heap.size + 1) (by have := HPP.out; have := H6.out; have := H67.out; omega) 1 (.int .i64 y))).frozen 0
           have dc1 := ((((((Dw.other (b' := w.heap.size) (by have := HPP.out; have := H6.out; have := H67.out; omega) 0 (.bool o)).other (b' := w.heap.size) (by have := HPP.out; have := H6.out; have := H67.out; omega) 1 (.int .i64 a)).other (b' := w.heap.size) (by have := HPP.out; have := H6.out; have := H67.out; omega) 2 (.int .i64 b)).other (b' := w.heap.size + 1) (by have := HPP.out; have := H6.out; have := H67.out; omega) 0 (.int .i64 x)).other (b' := w.heap.size + 1) (by have := HPP.out; have := H6.out; have := H67.out; omega) 1 (.int .i64 y))).cell 1 (.int .i64 0) rfl
           have df1 := ((((((Dw.other (b' := w.heap.size) (by have := HPP.out; have := H6.out; have := H67.out; omega) 0 (.bool o)).other (b' := w.heap.size) (by have := HPP.out; have := H6.out; have := H67.out; omega) 1 (.int .i64 a)).other (b' := w.heap.size) (by have := HPP.out; have := H6.out; have := H67.out; omega) 2 (.int .i64 b)).other (b' := w.heap.size + 1) (by have := HPP.out; have := H6.out; have := H67.out; omega) 0 (.int .i64 x)).other (b' := w.heap.size + 1) (by have := HPP.out; have := H6.out; have := H67.out; omega) 1 (.int .i64 y))).frozen 1
           have HE1 := Lib.hid ((((((((Bw.set 0 (.bool o)).set 1 (.int .i64 a)).set 2 (.int .i64 b)).other (b' := w.heap.size + 1) (by have := HPP.out; have := H6.out; have := H67.out; omega) 0 (.int .i64 x)).other (b' := w.heap.size + 1) (by have := HPP.out; have := H6.out; have := H67.out; omega) 1 (.int .i64 y)).other (b' := w.heap.size + 1 + 1) (by have := HPP.out; have := H6.out; have := H67.out; omega) 0 (.int .i64 u)).other (b' := w.heap.size + 1 + 1) (by have := HPP.out; have := H6.out; have := H67.out; omega) 1 (.int .i64 v)))
           have HE2 := Lib.hid ((((((((Cw.other (b' := w.heap.size) (by have := HPP.out; have := H6.out; have := H67.out; omega) 0 (.bool o)).other (b' := w.heap.size) (by have := HPP.out; have := H6.out; have := H67.out; omega) 1 (.int .i64 a)).other (b' := w.heap.size) (by have := HPP.out; have := H6.out; have := H67.out; omega) 2 (.int .i64 b)).set 0 (.int .i64 x)).set 1 (.int .i64 y)).other (b' := w.heap.size + 1 + 1) (by have := HPP.out; have := H6.out; have := H67.out; omega) 0 (.int .i64 u)).other (b' := w.heap.size + 1 + 1) (by have := HPP.out; have := H6.out; have := H67.out; omega) 1 (.int .i64 v)))
           have HE3 := Lib.hid ((((((((Dw.other (b' := w.heap.size) (by have := HPP.out; have := H6.out; have := H67.out; omega) 0 (.bool o)).other (b' := w.heap.size) (by have := HPP.out; have := H6.out; have := H67.out; omega) 1 (.int .i64 a)).other (b' := w.heap.size) (by have := HPP.out; have := H6.out; have := H67.out; omega) 2 (.int .i64 b)).other (b' := w.heap.size + 1) (by have := HPP.out; have := H6.out; have := H67.out; omega) 0 (.int .i64 x)).other (b' := w.heap.size + 1) (by have := HPP.out; have := H6.out; have := H67.out; omega) 1 (.int .i64 y)).set 0 (.int .i64 u)).set 1 (.int .i64 v)))
           have HBE := Lib.hid ((((((((HB4.out.grown hgv HB4.out.size (fun g e => by injection e with e; have := HPP.out; omega)).setCell (p := ⟨w.heap.size, 0, none⟩) (by show w.heap.size ≤ w.heap.size; omega) (.bool o)).setCell (p := ⟨w.heap.size, 1, none⟩) (by show w.heap.size ≤ w.heap.size; omega) (.int .i64 a)).setCell (p := ⟨w.heap.size, 2, none⟩) (by show w.heap.size ≤ w.heap.size; omega) (.int .i64 b)).setCell (p := ⟨w.heap.size + 1, 0, none⟩) (by show w.heap.size ≤ w.heap.size + 1; omega) (.int .i64 x)).setCell (p := ⟨w.heap.size + 1, 1, none⟩) (by show w.heap.size ≤ w.heap.size + 1; omega) (.int .i64 y)).setCell (p := ⟨w.heap.size + 1 + 1, 0, none⟩) (by show w.heap.size ≤ w.heap.size + 1 + 1; omega) (.int .i64 u)).setCell (p := ⟨w.heap.size + 1 + 1, 1, none⟩) (by show w.heap.size ≤ w.heap.size + 1 + 1; omega) (.int .i64 v))
           clear hcb hg hgv Bw Cw Dw Ew Fw))
      all_goals
        go_wp2_with fail
        have hl := HE1.out.load Try.underlying29 rfl (by kernel_rfl)
        have hl2 := HE2.out.load Try.underlying25 rfl (by kernel_rfl)
        have hl3 := HE3.out.load Try.underlying25 rfl (by kernel_rfl)
        refine bodyPost_ret (v := .tuple #[.agg #[.bool o, .int .i64 a, .int .i64 b], .agg #[.int .i64 x, .int .i64 y], .agg #[.int .i64 u, .int .i64 v]]) ?_ rfl ⟨_, _, _, _, _, _, _, rfl, HBE.out⟩
        rw [results_cells3 rfl]
        simp [asAddr, Result.andThen, hl, hl2, hl3]
    · have ee_0 := E4.out.cell 0 (.int .i64 x) rfl
      have eef_0 := E4.out.frozen 0
      have ee_1 := E4.out.cell 1 (.int .i64 y) rfl
      have eef_1 := E4.out.frozen 1
      have hle := HB4.out.size
      go_upto_region 6 with fail
      have hcz := Cur.set (Cur.set HC4.out H6.out (i := 0) (v := .int .i64 0)) H6.out (i := 1) (v := .int .i64 0)
      have B5 := Lib.hid ((B4.out.other (b' := b6) (by have := HPP.out; have := H6.out; have := H67.out; omega) 0 (.int .i64 0)).other (b' := b6) (by have := HPP.out; have := H6.out; have := H67.out; omega) 1 (.int .i64 0))
      have C5 := Lib.hid ((C4.out.other (b' := b6) (by have := HPP.out; have := H6.out; have := H67.out; omega) 0 (.int .i64 0)).other (b' := b6) (by have := HPP.out; have := H6.out; have := H67.out; omega) 1 (.int .i64 0))
      have D5 := Lib.hid ((D4.out.other (b' := b6) (by have := HPP.out; have := H6.out; have := H67.out; omega) 0 (.int .i64 0)).other (b' := b6) (by have := HPP.out; have := H6.out; have := H67.out; omega) 1 (.int .i64 0))
      have E5 := Lib.hid ((E4.out.set 0 (.int .i64 0)).set 1 (.int .i64 0))
      have F5 := Lib.hid ((F4.out.other (b' := b6) (by have := HPP.out; have := H6.out; have := H67.out; omega) 0 (.int .i64 0)).other (b' := b6) (by have := HPP.out; have := H6.out; have := H67.out; omega) 1 (.int .i64 0))
      have HB5 := Lib.hid ((HB4.out.setCell (p := ⟨b6, 0, none⟩) (by have := HPP.out; have := H6.out; show w.heap.size ≤ b6; omega) (.int .i64 0)).setCell (p := ⟨b6, 1, none⟩) (by have := HPP.out; have := H6.out; show w.heap.size ≤ b6; omega) (.int .i64 0))
      have HC5 := Lib.hid hcz
      clear hcz ee_0 ee_1 eef_0 eef_1 B4 C4 D4 E4 F4 HB4 HC4
      generalize (V4.setCell ⟨b6, 0, none⟩ (.int .i64 0)).setCell ⟨b6, 1, none⟩ (.int .i64 0) = V5 at *
      go_wp2_with fail
      refine (among_new 1999 9899 p _ 3 [1999, 2000, 9899] _ V5 HC5.out (by omega) (by omega) (by omega) rfl rfl (by decide)).mono ?_
      rintro e V6 ⟨r1, rfl, -, -, hc6, hg6⟩
      have HB6 := Lib.hid (HB5.out.grown hg6 HB5.out.size (fun g e => by injection e with e; have := HPP.out; omega))
      have B6 := Lib.hid (B5.out.grown hg6 (by have := HPP.out; have := H6.out; have := H67.out; omega))
      have C6 := Lib.hid (C5.out.grown hg6 (by have := HPP.out; have := H6.out; have := H67.out; omega))
      have D6 := Lib.hid (D5.out.grown hg6 (by have := HPP.out; have := H6.out; have := H67.out; omega))
      have E6 := Lib.hid (E5.out.grown hg6 (by have := HPP.out; have := H6.out; have := H67.out; omega))
      have F6 := Lib.hid (F5.out.grown hg6 (by have := HPP.out; have := H6.out; have := H67.out; omega))
      have HC6 := Lib.hid hc6
      clear B5 C5 D5 E5 F5 HB5 HC5
      clear hc6 hg6
      go_wp2_with fail
      refine (among_new 1900 9899 p _ 3 [1999, 1900, 9899] _ V6 HC6.out (by omega) (by omega) (by omega) rfl rfl (by decide)).mono ?_
      rintro e V7 ⟨r2, rfl, -, -, hc7, hg7⟩
      have HB7 := Lib.hid (HB6.out.grown hg7 HB6.out.size (fun g e => by injection e with e; have := HPP.out; omega))
      have B7 := Lib.hid (B6.out.grown hg7 (by have := HPP.out; have := H6.out; have := H67.out; omega))
      have C7 := Lib.hid (C6.out.grown hg7 (by have := HPP.out; have := H6.out; have := H67.out; omega))
      have D7 := Lib.hid (D6.out.grown hg7 (by have := HPP.out; have := H6.out; have := H67.out; omega))
      have E7 := Lib.hid (E6.out.grown hg7 (by have := HPP.out; have := H6.out; have := H67.out; omega))
      have F7 := Lib.hid (F6.out.grown hg7 (by have := HPP.out; have := H6.out; have := H67.out; omega))
      have HC7 := Lib.hid hc7
      clear B6 C6 D6 E6 F6 HB6 HC6
      clear hc7 hg7
      have ff_0 := F7.out.cell 0 (.int .i64 u) rfl
      have fff_0 := F7.out.frozen 0
      have ff_1 := F7.out.cell 1 (.int .i64 v) rfl
      have fff_1 := F7.out.frozen 1
      have hcz := Cur.set (Cur.set HC7.out (Nat.lt_trans H6.out H67.out) (i := 0) (v := .int .i64 r1)) (Nat.lt_trans H6.out H67.out) (i := 1) (v := .int .i64 r2)
      have B8 := Lib.hid ((B7.out.other (b' := b7) (by have := HPP.out; have := H6.out; have := H67.out; omega) 0 (.int .i64 r1)).other (b' := b7) (by have := HPP.out; have := H6.out; have := H67.out; omega) 1 (.int .i64 r2))
      have C8 := Lib.hid ((C7.out.other (b' := b7) (by have := HPP.out; have := H6.out; have := H67.out; omega) 0 (.int .i64 r1)).other (b' := b7) (by have := HPP.out; have := H6.out; have := H67.out; omega) 1 (.int .i64 r2))
      have D8 := Lib.hid ((D7.out.other (b' := b7) (by have := HPP.out; have := H6.out; have := H67.out; omega) 0 (.int .i64 r1)).other (b' := b7) (by have := HPP.out; have := H6.out; have := H67.out; omega) 1 (.int .i64 r2))
      have E8 := Lib.hid ((E7.out.other (b' := b7) (by have := HPP.out; have := H6.out; have := H67.out; omega) 0 (.int .i64 r1)).other (b' := b7) (by have := HPP.out; have := H6.out; have := H67.out; omega) 1 (.int .i64 r2))
      have F8 := Lib.hid ((F7.out.set 0 (.int .i64 r1)).set 1 (.int .i64 r2))
      have HB8 := Lib.hid ((HB7.out.setCell (p := ⟨b7, 0, none⟩) (by have := HPP.out; have := H6.out; have := H67.out; show w.heap.size ≤ b7; omega) (.int .i64 r1)).setCell (p := ⟨b7, 1, none⟩) (by have := HPP.out; have := H6.out; have := H67.out; show w.heap.size ≤ b7; omega) (.int .i64 r2))
      have HC8 := Lib.hid hcz
      clear hcz B7 C7 D7 E7 F7 HB7 HC7
      go_upto_region 7 with fail
      clear ff_0 ff_1 fff_0 fff_1
      generalize (V7.setCell ⟨b7, 0, none⟩ (.int .i64 r1)).setCell ⟨b7, 1, none⟩ (.int .i64 r2) = V8 at *
      have HG0 := Lib.hid (show V8.grownBy V8.drew (some p) from ⟨rfl, rfl, rfl, Nat.le_refl _, fun _ _ _ => rfl⟩)
      have e0 : V8.drew.cell? ⟨b6, 0, none⟩ = some (.int .i64 0) := E8.out.cell 0 (.int .i64 0) rfl
      have e1 : V8.drew.cell? ⟨b6, 1, none⟩ = some (.int .i64 0) := E8.out.cell 1 (.int .i64 0) rfl
      have e2 : V8.drew.cell? ⟨b7, 0, none⟩ = some (.int .i64 r1) := F8.out.cell 0 (.int .i64 r1) rfl
      have e3 : V8.drew.cell? ⟨b7, 1, none⟩ = some (.int .i64 r2) := F8.out.cell 1 (.int .i64 r2) rfl
      go_region_held3 (fun w' => w'.cell? ⟨b6, 0, none⟩ = some (.int .i64 0) ∧ w'.cell? ⟨b6, 1, none⟩ = some (.int .i64 0) ∧ w'.cell? ⟨b7, 0, none⟩ = some (.int .i64 r1) ∧ w'.cell? ⟨b7, 1, none⟩ = some (.int .i64 r2)) (first
        | with_reducible exact ⟨e0, e1, e2, e3⟩
        | with_reducible exact KS0.out
        | with_reducible exact KS1.out
        | with_reducible exact KS2.out
        | with_reducible exact KS3.out
        | go_keep) (first
        | (go_at_call 70; (with_reducible refine (report p 40 _ ((HC8.out.more (by omega)).keep (Below.refl _ _).drew) (by omega)).mono ?_); rintro e w' ⟨o, a, b, rfl, hcb, hg⟩
           have hgv := grown_trans HG0.out hg
           have Bw := B8.out.grown hgv (by have := HPP.out; have := H6.out; have := H67.out; omega)
           have Cw := C8.out.grown hgv (by have := HPP.out; have := H6.out; have := H67.out; omega)
           have Dw := D8.out.grown hgv (by have := HPP.out; have := H6.out; have := H67.out; omega)
           have Ew := E8.out.grown hgv (by have := HPP.out; have := H6.out; have := H67.out; omega)
           have Fw := F8.out.grown hgv (by have := HPP.out; have := H6.out; have := H67.out; omega)
           have KS0 := Lib.hid (And.intro ((Ew).cell 0 (.int .i64 0) rfl) (And.intro ((Ew).cell 1 (.int .i64 0) rfl) (And.intro ((Fw).cell 0 (.int .i64 r1) rfl) ((Fw).cell 1 (.int .i64 r2) rfl))))
           have KS1 := Lib.hid (And.intro (((((Ew.other (b' := w.heap.size) (by have := HPP.out; have := H6.out; have := H67.out; omega) 0 (.bool o)).other (b' := w.heap.size) (by have := HPP.out; have := H6.out; have := H67.out; omega) 1 (.int .i64 a)).other (b' := w.heap.size) (by have := HPP.out; have := H6.out; have := H67.out; omega) 2 (.int .i64 b))).cell 0 (.int .i64 0) rfl) (And.intro (((((Ew.other (b' := w.heap.size) (by have := HPP.out; have := H6.out; have := H67.out; omega) 0 (.bool o)).other (b' := w.heap.size) (by have := HPP.out; have := H6.out; have := H67.out; omega) 1 (.int .i64 a)).other (b' := w.heap.size) (by have := HPP.out; have := H6.out; have := H67.out; omega) 2 (.int .i64 b))).cell 1 (.int .i64 0) rfl) (And.intro (((((Fw.other (b' := w.heap.size) (by have := HPP.out; have := H6.out; have := H67.out; omega) 0 (.bool o)).other (b' := w.heap.size) (by have := HPP.out; have := H6.out; have := H67.out; omega) 1 (.int .i64 a)).other (b' := w.heap.size) (by have := HPP.out; have := H6.out; have := H67.out; omega) 2 (.int .i64 b))).cell 0 (.int .i64 r1) rfl) (((((Fw.other (b' := w.heap.size) (by have := HPP.out; have := H6.out; have := H67.out; omega) 0 (.bool o)).other (b' := w.heap.size) (by have := HPP.out; have := H6.out; have := H67.out; omega) 1 (.int .i64 a)).other (b' := w.heap.size) (by have := HPP.out; have := H6.out; have := H67.out; omega) 2 (.int .i64 b))).cell 1 (.int .i64 r2) rfl))))
           have KS2 := Lib.hid (And.intro (((((((Ew.other (b' := w.heap.size) (by have := HPP.out; have := H6.out; have := H67.out; omega) 0 (.bool o)).other (b' := w.heap.size) (by have := HPP.out; have := H6.out; have := H67.out; omega) 1 (.int .i64 a)).other (b' := w.heap.size) (by have := HPP.out; have := H6.out; have := H67.out; omega) 2 (.int .i64 b)).other (b' := w.heap.size + 1) (by have := HPP.out; have := H6.out; have := H67.out; omega) 0 (.int .i64 0)).other (b' := w.heap.size + 1) (by have := HPP.out; have := H6.out; have := H67.out; omega) 1 (.int .i64 0))).cell 0 (.int .i64 0) rfl) (And.intro (((((((Ew.other (b' := w.heap.size) (by have := HPP.out; have := H6.out; have := H67.out; omega) 0 (.bool o)).other (b' := w.heap.size) (by have := HPP.out; have := H6.out; have := H67.out; omega) 1 (.int .i64 a)).other (b' := w.heap.size) (by have := HPP.out; have := H6.out; have := H67.out; omega) 2 (.int .i64 b)).other (b' := w.heap.size + 1) (by have := HPP.out; have := H6.out; have := H67.out; omega) 0 (.int .i64 0)).other (b' := w.heap.size + 1) (by have := HPP.out; have := H6.out; have := H67.out; omega) 1 (.int .i64 0))).cell 1 (.int .i64 0) rfl) (And.intro (((((((Fw.other (b' := w.heap.size) (by have := HPP.out; have := H6.out; have := H67.out; omega) 0 (.bool o)).other (b' := w.heap.size) (by have := HPP.out; have := H6.out; have := H67.out; omega) 1 (.int .i64 a)).other (b' := w.heap.size) (by have := HPP.out; have := H6.out; have := H67.out; omega) 2 (.int .i64 b)).other (b' := w.heap.size + 1) (by have := HPP.out; have := H6.out; have := H67.out; omega) 0 (.int .i64 0)).other (b' := w.heap.size + 1) (by have := HPP.out; have := H6.out; have := H67.out; omega) 1 (.int .i64 0))).cell 0 (.int .i64 r1) rfl) (((((((Fw.other (b' := w.heap.size) (by have := HPP.out; have := H6.out; have := H67.out; omega) 0 (.bool o)).other (b' := w.heap.size) (by have := HPP.out; have := H6.out; have := H67.out; omega) 1 (.int .i64 a)).other (b' := w.heap.size) (by have := HPP.out; have := H6.out; have := H67.out; omega) 2 (.int .i64 b)).other (b' := w.heap.size + 1) (by have := HPP.out; have := H6.out; have := H67.out; omega) 0 (.int .i64 0)).other (b' := w.heap.size + 1) (by have := HPP.out; have := H6.out; have := H67.out; omega) 1 (.int .i64 0))).cell 1 (.int .i64 r2) rfl))))
           have KS3 := Lib.hid (And.intro (((((((((Ew.other (b' := w.heap.size) (by have := HPP.out; have := H6.out; have := H67.out; omega) 0 (.bool o)).other (b' := w.heap.size) (by have := HPP.out; have := H6.out; have := H67.out; omega) 1 (.int .i64 a)).other (b' := w.heap.size) (by have := HPP.out; have := H6.out; have := H67.out; omega) 2 (.int .i64 b)).other (b' := w.heap.size + 1) (by have := HPP.out; have := H6.out; have := H67.out; omega) 0 (.int .i64 0)).other (b' := w.heap.size + 1) (by have := HPP.out; have := H6.out; have := H67.out; omega) 1 (.int .i64 0)).other (b' := w.heap.size + 1 + 1) (by have := HPP.out; have := H6.out; have := H67.out; omega) 0 (.int .i64 r1)).other (b' := w.heap.size + 1 + 1) (by have := HPP.out; have := H6.out; have := H67.out; omega) 1 (.int .i64 r2))).cell 0 (.int .i64 0) rfl) (And.intro (((((((((Ew.other (b' := w.heap.size) (by have := HPP.out; have := H6.out; have := H67.out; omega) 0 (.bool o)).other (b' := w.heap.size) (by have := HPP.out; have := H6.out; have := H67.out; omega) 1 (.int .i64 a)).other (b' := w.heap.size) (by have := HPP.out; have := H6.out; have := H67.out; omega) 2 (.int .i64 b)).other (b' := w.heap.size + 1) (by have := HPP.out; have := H6.out; have := H67.out; omega) 0 (.int .i64 0)).other (b' := w.heap.size + 1) (by have := HPP.out; have := H6.out; have := H67.out; omega) 1 (.int .i64 0)).other (b' := w.heap.size + 1 + 1) (by have := HPP.out; have := H6.out; have := H67.out; omega) 0 (.int .i64 r1)).other (b' := w.heap.size + 1 + 1) (by have := HPP.out; have := H6.out; have := H67.out; omega) 1 (.int .i64 r2))).cell 1 (.int .i64 0) rfl) (And.intro (((((((((Fw.other (b' := w.heap.size) (by have := HPP.out; have := H6.out; have := H67.out; omega) 0 (.bool o)).other (b' := w.heap.size) (by have := HPP.out; have := H6.out; have := H67.out; omega) 1 (.int .i64 a)).other (b' := w.heap.size) (by have := HPP.out; have := H6.out; have := H67.out; omega) 2 (.int .i64 b)).other (b' := w.heap.size + 1) (by have := HPP.out; have := H6.out; have := H67.out; omega) 0 (.int .i64 0)).other (b' := w.heap.size + 1) (by have := HPP.out; have := H6.out; have := H67.out; omega) 1 (.int .i64 0)).other (b' := w.heap.size + 1 + 1) (by have := HPP.out; have := H6.out; have := H67.out; omega) 0 (.int .i64 r1)).other (b' := w.heap.size + 1 + 1) (by have := HPP.out; have := H6.out; have := H67.out; omega) 1 (.int .i64 r2))).cell 0 (.int .i64 r1) rfl) (((((((((Fw.other (b' := w.heap.size) (by have := HPP.out; have := H6.out; have := H67.out; omega) 0 (.bool o)).other (b' := w.heap.size) (by have := HPP.out; have := H6.out; have := H67.out; omega) 1 (.int .i64 a)).other (b' := w.heap.size) (by have := HPP.out; have := H6.out; have := H67.out; omega) 2 (.int .i64 b)).other (b' := w.heap.size + 1) (by have := HPP.out; have := H6.out; have := H67.out; omega) 0 (.int .i64 0)).other (b' := w.heap.size + 1) (by have := HPP.out; have := H6.out; have := H67.out; omega) 1 (.int .i64 0)).other (b' := w.heap.size + 1 + 1) (by have := HPP.out; have := H6.out; have := H67.out; omega) 0 (.int .i64 r1)).other (b' := w.heap.size + 1 + 1) (by have := HPP.out; have := H6.out; have := H67.out; omega) 1 (.int .i64 r2))).cell 1 (.int .i64 r2) rfl))))
           have bc0 := (Bw).cell 0 (.bool false) rfl
           have bf0 := (Bw).frozen 0
           have bc1 := (Bw).cell 1 (.int .i64 0) rfl
           have bf1 := (Bw).frozen 1
           have bc2 := (Bw).cell 2 (.int .i64 0) rfl
           have bf2 := (Bw).frozen 2
           have cc0 := ((((Cw.other (b' := w.heap.size) (by have := HPP.out; have := H6.out; have := H67.out; omega) 0 (.bool o)).other (b' := w.heap.size) (by have := HPP.out; have := H6.out; have := H67.out; omega) 1 (.int .i64 a)).other (b' := w.heap.size) (by have := HPP.out; have := H6.out; have := H67.out; omega) 2 (.int .i64 b))).cell 0 (.int .i64 0) rfl
           have cf0 := ((((Cw.other (b' := w.heap.size) (by have := HPP.out; have := H6.out; have := H67.out; omega) 0 (.bool o)).other (b' := w.heap.size) (by have := HPP.out; have := H6.out; have := H67.out; omega) 1 (.int .i64 a)).other (b' := w.heap.size) (by have := HPP.out; have := H6.out; have := H67.out; omega) 2 (.int .i64 b))).frozen 0
           have cc1 := ((((Cw.other (b' := w.heap.size) (by have := HPP.out; have := H6.out; have := H67.out; omega) 0 (.bool o)).other (b' := w.heap.size) (by have := HPP.out; have := H6.out; have := H67.out; omega) 1 (.int .i64 a)).other (b' := w.heap.size) (by have := HPP.out; have := H6.out; have := H67.out; omega) 2 (.int .i64 b))).cell 1 (.int .i64 0) rfl
           have cf1 := ((((Cw.other (b' := w.heap.size) (by have := HPP.out; have := H6.out; have := H67.out; omega) 0 (.bool o)).other (b' := w.heap.size) (by have := HPP.out; have := H6.out; have := H67.out; omega) 1 (.int .i64 a)).other (b' := w.heap.size) (by have := HPP.out; have := H6.out; have := H67.out; omega) 2 (.int .i64 b))).frozen 1
           have dc0 := ((((((Dw.other (b' := w.heap.size) (by have := HPP.out; have := H6.out; have := H67.out; omega) 0 (.bool o)).other (b' := w.heap.size) (by have := HPP.out; have := H6.out; have := H67.out; omega) 1 (.int .i64 a)).other (b' := w.heap.size) (by have := HPP.out; have := H6.out; have := H67.out; omega) 2 (.int .i64 b)).other (b' := w.heap.size + 1) (by have := HPP.out; have := H6.out; have := H67.out; omega) 0 (.int .i64 0)).other (b' := w.heap.size + 1) (by have := HPP.out; have := H6.out; have := H67.out; omega) 1 (.int .i64 0))).cell 0 (.int .i64 0) rfl
           have df0 := ((((((Dw.other (b' := w.heap.size) (by have := HPP.out; have := H6.out; have := H67.out; omega) 0 (.bool o)).other (b' := w.heap.size) (by have := HPP.out; have := H6.out; have := H67.out; omega) 1 (.int .i64 a)).other (b' := w.heap.size) (by have := HPP.out; have := H6.out; have := H67.out; omega) 2 (.int .i64 b)).other (b' := w.heap.size + 1) (by have := HPP.out; have := H6.out; have := H67.out; omega) 0 (.int .i64 0)).other (b' := w.heap.size + 1) (by have := HPP.out; have := H6.out; have := H67.out; omega) 1 (.int .i64 0))).frozen 0
           have dc1 := ((((((Dw.other (b' := w.heap.size) (by have := HPP.out; have := H6.out; have := H67.out; omega) 0 (.bool o)).other (b' := w.heap.size) (by have := HPP.out; have := H6.out; have := H67.out; omega) 1 (.int .i64 a)).other (b' := w.heap.size) (by have := HPP.out; have := H6.out; have := H67.out; omega) 2 (.int .i64 b)).other (b' := w.heap.size + 1) (by have := HPP.out; have := H6.out; have := H67.out; omega) 0 (.int .i64 0)).other (b' := w.heap.size + 1) (by have := HPP.out; have := H6.out; have := H67.out; omega) 1 (.int .i64 0))).cell 1 (.int .i64 0) rfl
           have df1 := ((((((Dw.other (b' := w.heap.size) (by have := HPP.out; have := H6.out; have := H67.out; omega) 0 (.bool o)).other (b' := w.heap.size) (by have := HPP.out; have := H6.out; have := H67.out; omega) 1 (.int .i64 a)).other (b' := w.heap.size) (by have := HPP.out; have := H6.out; have := H67.out; omega) 2 (.int .i64 b)).other (b' := w.heap.size + 1) (by have := HPP.out; have := H6.out; have := H67.out; omega) 0 (.int .i64 0)).other (b' := w.heap.size + 1) (by have := HPP.out; have := H6.out; have := H67.out; omega) 1 (.int .i64 0))).frozen 1
           have HE1 := Lib.hid ((((((((Bw.set 0 (.bool o)).set 1 (.int .i64 a)).set 2 (.int .i64 b)).other (b' := w.heap.size + 1) (by have := HPP.out; have := H6.out; have := H67.out; omega) 0 (.int .i64 0)).other (b' := w.heap.size + 1) (by have := HPP.out; have := H6.out; have := H67.out; omega) 1 (.int .i64 0)).other (b' := w.heap.size + 1 + 1) (by have := HPP.out; have := H6.out; have := H67.out; omega) 0 (.int .i64 r1)).other (b' := w.heap.size + 1 + 1) (by have := HPP.out; have := H6.out; have := H67.out; omega) 1 (.int .i64 r2)))
           have HE2 := Lib.hid ((((((((Cw.other (b' := w.heap.size) (by have := HPP.out; have := H6.out; have := H67.out; omega) 0 (.bool o)).other (b' := w.heap.size) (by have := HPP.out; have := H6.out; have := H67.out; omega) 1 (.int .i64 a)).other (b' := w.heap.size) (by have := HPP.out; have := H6.out; have := H67.out; omega) 2 (.int .i64 b)).set 0 (.int .i64 0)).set 1 (.int .i64 0)).other (b' := w.heap.size + 1 + 1) (by have := HPP.out; have := H6.out; have := H67.out; omega) 0 (.int .i64 r1)).other (b' := w.heap.size + 1 + 1) (by have := HPP.out; have := H6.out; have := H67.out; omega) 1 (.int .i64 r2)))
           have HE3 := Lib.hid ((((((((Dw.other (b' := w.heap.size) (by have := HPP.out; have := H6.out; have := H67.out; omega) 0 (.bool o)).other (b' := w.heap.size) (by have := HPP.out; have := H6.out; have := H67.out; omega) 1 (.int .i64 a)).other (b' := w.heap.size) (by have := HPP.out; have := H6.out; have := H67.out; omega) 2 (.int .i64 b)).other (b' := w.heap.size + 1) (by have := HPP.out; have := H6.out; have := H67.out; omega) 0 (.int .i64 0)).other (b' := w.heap.size + 1) (by have := HPP.out; have := H6.out; have := H67.out; omega) 1 (.int .i64 0)).set 0 (.int .i64 r1)).set 1 (.int .i64 r2)))
           have HBE := Lib.hid ((((((((HB8.out.grown hgv HB8.out.size (fun g e => by injection e with e; have := HPP.out; omega)).setCell (p := ⟨w.heap.size, 0, none⟩) (by show w.heap.size ≤ w.heap.size; omega) (.bool o)).setCell (p := ⟨w.heap.size, 1, none⟩) (by show w.heap.size ≤ w.heap.size; omega) (.int .i64 a)).setCell (p := ⟨w.heap.size, 2, none⟩) (by show w.heap.size ≤ w.heap.size; omega) (.int .i64 b)).setCell (p := ⟨w.heap.size + 1, 0, none⟩) (by show w.heap.size ≤ w.heap.size + 1; omega) (.int .i64 0)).setCell (p := ⟨w.heap.size + 1, 1, none⟩) (by show w.heap.size ≤ w.heap.size + 1; omega) (.int .i64 0)).setCell (p := ⟨w.heap.size + 1 + 1, 0, none⟩) (by show w.heap.size ≤ w.heap.size + 1 + 1; omega) (.int .i64 r1)).setCell (p := ⟨w.heap.size + 1 + 1, 1, none⟩) (by show w.heap.size ≤ w.heap.size + 1 + 1; omega) (.int .i64 r2))
           clear hcb hg hgv Bw Cw Dw Ew Fw))
      all_goals
        go_wp2_with fail
        have hl := HE1.out.load Try.underlying29 rfl (by kernel_rfl)
        have hl2 := HE2.out.load Try.underlying25 rfl (by kernel_rfl)
        have hl3 := HE3.out.load Try.underlying25 rfl (by kernel_rfl)
        refine bodyPost_ret (v := .tuple #[.agg #[.bool o, .int .i64 a, .int .i64 b], .agg #[.int .i64 0, .int .i64 0], .agg #[.int .i64 r1, .int .i64 r2]]) ?_ rfl ⟨_, _, _, _, _, _, _, rfl, HBE.out⟩
        rw [results_cells3 rfl]
        simp [asAddr, Result.andThen, hl, hl2, hl3]
end Go.Proofs.Ytkmmogdiekillaa.drawr7
