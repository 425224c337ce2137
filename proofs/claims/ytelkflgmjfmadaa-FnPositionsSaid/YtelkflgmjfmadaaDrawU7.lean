/- spec's DrawDecodeMoved. -/
import Derived.Test.YtelkflgmjfmadaaDrawS7
namespace Go.Proofs.Ytelkflgmjfmadaa.drawu7
open Go.RowKit Go.Proofs.Ytelkflgmjfmadaa.cur Go.Proofs.Ytelkflgmjfmadaa.atc Go.Proofs.Ytelkflgmjfmadaa.ats Go.Proofs.Ytelkflgmjfmadaa.pos Go.Proofs.Ytelkflgmjfmadaa.poss Go.Proofs.Ytelkflgmjfmadaa.post Go.Proofs.Ytelkflgmjfmadaa.drawp7 Go.Proofs.Ytelkflgmjfmadaa.drawq7 Go.Proofs.Ytelkflgmjfmadaa.drawr7 Go.Proofs.Ytelkflgmjfmadaa.draws7

def MovedQ (w : World) (e : Ending) (w' : World) : Prop := ∃ o a b o' a' b' d, e = .returned (.tuple #[.agg #[.bool o, .int .i64 a, .int .i64 b], .agg #[.bool o', .int .i64 a', .int .i64 b'], .int .i64 d]) ∧ (-1 ≤ d ∧ d ≤ 4) ∧ Below w.heap.size w w'
theorem results_cct {fn : Func} {p q r : Tmp} {ty ty' : TypeId} (h : fn.results = #[.cell p ty, .cell q ty', .tmp r]) (tmps : Array Value) (P : Program) (w : World) :
    (results fn tmps).run P w = ((asAddr (tmps.getD p undef)).run P w).andThen fun a w₁ => ((loadVar ty a).run P w₁).andThen fun v w₂ => ((asAddr (tmps.getD q undef)).run P w₂).andThen fun b w₃ => ((loadVar ty' b).run P w₃).andThen fun u w₄ => .ok (.tuple #[v, u, tmps.getD r undef]) w₄ := by
  simp only [results, h]
  simp [Sem.run_bind, Result.andThen]

set_option maxRecDepth 100000 in
set_option maxHeartbeats 8000000 in
theorem decodeMoved (A : Option Addr) (n c : Nat) (w : World) (hn : n ≤ 65536) (h : Bytes w w.heap.size A n) :
    Calls Try.prog 15 #[.slice A n c] w (MovedQ w) := by
  have bz := (newS 29 #[.bool false, .int .i64 0, .int .i64 0] w).alloc (.cells #[.bool false, .int .i64 0, .int .i64 0] 29)
  have dz := (newS 29 #[.bool false, .int .i64 0, .int .i64 0] w).next 29 #[.bool false, .int .i64 0, .int .i64 0]
  rw [World.size_alloc] at dz
  have HB0 := Lib.hid ((bz.alloc (.cells #[.slice A n c, .int .i64 0, .int .u64 0] 77)).1)
  have B0 := Lib.hid (Blk.of_s (bz.alloc (.cells #[.slice A n c, .int .i64 0, .int .u64 0] 77)))
  have D0 := Lib.hid (Blk.of_s (dz.alloc (.cells #[.slice A n c, .int .i64 0, .int .u64 0] 77)))
  have hc := new_cur c (by omega) (bytes_al (.cells #[.bool false, .int .i64 0, .int .i64 0] 29) (bytes_al (.cells #[.bool false, .int .i64 0, .int .i64 0] 29) h))
  rw [World.size_alloc, World.size_alloc] at hc
  have HC0 := Lib.hid hc
  clear h hc bz dz
  go_enter Try.func15, Try.ntmps15
  go_wp2_with fail
  generalize ((w.alloc (.cells #[.bool false, .int .i64 0, .int .i64 0] 29)).alloc (.cells #[.bool false, .int .i64 0, .int .i64 0] 29)).alloc (.cells #[.slice A n c, .int .i64 0, .int .u64 0] 77) = W at *
  generalize hp : w.heap.size + 1 + 1 = p at *
  have HPP := Lib.hid hp
  clear hp
  refine (pair p 0 W HC0.out (by omega)).mono ?_
  rintro e w1 ⟨o, a, b, o', a', b', rfl, hc1, hg1⟩
  have hlt := hc1.lt
  have HL6 := Lib.hid (show p < w1.heap.size from hlt)
  have HB1 := Lib.hid (Below.alloc (Below.alloc (HB0.out.grown hg1 HB0.out.size (fun g e => by injection e with e; have := HPP.out; omega)) (by have := HPP.out; omega) (.cells #[.bool o, .int .i64 a, .int .i64 b] 29)) (by rw [World.size_alloc]; have := HPP.out; omega) (.cells #[.bool o', .int .i64 a', .int .i64 b'] 29))
  have B1 := Lib.hid (((B0.out.grown hg1 (by have := HPP.out; omega)).alloc (.cells #[.bool o, .int .i64 a, .int .i64 b] 29)).alloc (.cells #[.bool o', .int .i64 a', .int .i64 b'] 29))
  have D1 := Lib.hid (((D0.out.grown hg1 (by have := HPP.out; omega)).alloc (.cells #[.bool o, .int .i64 a, .int .i64 b] 29)).alloc (.cells #[.bool o', .int .i64 a', .int .i64 b'] 29))
  have E1 := Lib.hid ((Blk.new 29 #[.bool o, .int .i64 a, .int .i64 b] w1).alloc (.cells #[.bool o', .int .i64 a', .int .i64 b'] 29))
  have G1 := Lib.hid (Blk.new 29 #[.bool o', .int .i64 a', .int .i64 b'] (w1.alloc (.cells #[.bool o, .int .i64 a, .int .i64 b] 29)))
  rw [World.size_alloc] at G1
  have HC1 := Lib.hid (Cur.alloc (Cur.alloc hc1 (.cells #[.bool o, .int .i64 a, .int .i64 b] 29)) (.cells #[.bool o', .int .i64 a', .int .i64 b'] 29))
  have HZ1 := Lib.hid (show w1.heap.size + 1 + 1 = ((w1.alloc (.cells #[.bool o, .int .i64 a, .int .i64 b] 29)).alloc (.cells #[.bool o', .int .i64 a', .int .i64 b'] 29)).heap.size by rw [World.size_alloc, World.size_alloc])
  clear hc1 hg1 B0 D0 HC0 HB0 hlt
  go_upto_region 3 with fail
  generalize (w1.alloc (.cells #[.bool o, .int .i64 a, .int .i64 b] 29)).alloc (.cells #[.bool o', .int .i64 a', .int .i64 b'] 29) = V1 at *
  generalize w1.heap.size = b6 at *
  have CS := Lib.hid (show ∀ WZ : World, V1.grownBy WZ (some p) → WZ.cell? ⟨b6, 0, none⟩ = some (.bool o) ∧ WZ.cell? ⟨b6, 1, none⟩ = some (.int .i64 a) ∧ WZ.cell? ⟨b6, 2, none⟩ = some (.int .i64 b) ∧ WZ.cell? ⟨b6 + 1, 0, none⟩ = some (.bool o') ∧ WZ.cell? ⟨b6 + 1, 1, none⟩ = some (.int .i64 a') ∧ WZ.cell? ⟨b6 + 1, 2, none⟩ = some (.int .i64 b') from fun WZ hz => And.intro ((E1.out.grown hz (by have := HL6.out; omega)).cell 0 (.bool o) rfl) (And.intro ((E1.out.grown hz (by have := HL6.out; omega)).cell 1 (.int .i64 a) rfl) (And.intro ((E1.out.grown hz (by have := HL6.out; omega)).cell 2 (.int .i64 b) rfl) (And.intro ((G1.out.grown hz (by have := HL6.out; omega)).cell 0 (.bool o') rfl) (And.intro ((G1.out.grown hz (by have := HL6.out; omega)).cell 1 (.int .i64 a') rfl) ((G1.out.grown hz (by have := HL6.out; omega)).cell 2 (.int .i64 b') rfl))))))
  have HN0 := Lib.hid (show V1.grownBy V1.drew (some p) from ⟨rfl, rfl, rfl, Nat.le_refl _, fun _ _ _ => rfl⟩)
  have HN1 := Lib.hid (show V1.grownBy (V1.alloc (.cells #[.int .i64 0, .int .i64 1, .int .i64 2, .int .i64 3, .int .i64 3, .int .i64 4, .int .i64 (-1)] 3)).drew (some p) from grown_trans (grown_alloc (.cells #[.int .i64 0, .int .i64 1, .int .i64 2, .int .i64 3, .int .i64 3, .int .i64 4, .int .i64 (-1)] 3) (some p)) ⟨rfl, rfl, rfl, Nat.le_refl _, fun _ _ _ => rfl⟩)
  have AMC := Lib.hid (among (-1) 4 p (0 + 80) V1.heap.size 0 7 7 [0, 1, 2, 3, 3, 4, -1] (V1.alloc (.cells #[.int .i64 0, .int .i64 1, .int .i64 2, .int .i64 3, .int .i64 3, .int .i64 4, .int .i64 (-1)] 3)).drew ((Cur.alloc HC1.out (.cells #[.int .i64 0, .int .i64 1, .int .i64 2, .int .i64 3, .int .i64 3, .int .i64 4, .int .i64 (-1)] 3)).keep (Below.refl _ _).drew) (by omega) (by omega) (by omega) rfl (by decide) (by have := HL6.out; have := HZ1.out; omega) (fun j x hx => by
    have hb := Blk.drew (Blk.new 3 #[.int .i64 0, .int .i64 1, .int .i64 2, .int .i64 3, .int .i64 3, .int .i64 4, .int .i64 (-1)] V1)
    rw [Nat.zero_add]
    refine hb.cell j _ ?_
    match j, hx with
    | 0, hx => simpa using hx
    | 1, hx => simpa using hx
    | 2, hx => simpa using hx
    | 3, hx => simpa using hx
    | 4, hx => simpa using hx
    | 5, hx => simpa using hx
    | 6, hx => simpa using hx
    | j + 7, hx => simp at hx))
  go_region_held3 (fun w' => w'.cell? ⟨b6, 0, none⟩ = some (.bool o) ∧ w'.cell? ⟨b6, 1, none⟩ = some (.int .i64 a) ∧ w'.cell? ⟨b6, 2, none⟩ = some (.int .i64 b) ∧ w'.cell? ⟨b6 + 1, 0, none⟩ = some (.bool o') ∧ w'.cell? ⟨b6 + 1, 1, none⟩ = some (.int .i64 a') ∧ w'.cell? ⟨b6 + 1, 2, none⟩ = some (.int .i64 b')) (first
    | with_reducible exact CS.out _ HN0.out
    | with_reducible exact CS.out _ HN1.out
    | with_reducible exact CS.out _ (by assumption)
    | (have q := hS1.out; with_reducible exact q)
    | (have q := hS2.out; with_reducible exact q)
    | go_keep) (first
    | (go_at_call 59; (with_reducible refine AMC.out.mono ?_); rintro e w' ⟨d, rfl, dl0, dl1, hcc, hg⟩
       have hgv : V1.grownBy w' (some p) := grown_trans HN1.out hg
       have KB := Lib.hid (B1.out.grown hgv (by have := HPP.out; omega))
       have KD := Lib.hid (D1.out.grown hgv (by have := HPP.out; omega))
       have KE := Lib.hid (E1.out.grown hgv (by have := HL6.out; omega))
       have KG := Lib.hid (G1.out.grown hgv (by have := HL6.out; omega))
       have KH := Lib.hid (HB1.out.grown hgv HB1.out.size (fun g e => by injection e with e; have := HPP.out; omega))
       have hS1 := Lib.hid (And.intro ((Blk.other (Blk.other (Blk.other (KE.out) (b' := w.heap.size) (by have := HPP.out; have := HL6.out; omega) 0 (.bool o)) (b' := w.heap.size) (by have := HPP.out; have := HL6.out; omega) 1 (.int .i64 a)) (b' := w.heap.size) (by have := HPP.out; have := HL6.out; omega) 2 (.int .i64 b)).cell 0 (.bool o) rfl) (And.intro ((Blk.other (Blk.other (Blk.other (KE.out) (b' := w.heap.size) (by have := HPP.out; have := HL6.out; omega) 0 (.bool o)) (b' := w.heap.size) (by have := HPP.out; have := HL6.out; omega) 1 (.int .i64 a)) (b' := w.heap.size) (by have := HPP.out; have := HL6.out; omega) 2 (.int .i64 b)).cell 1 (.int .i64 a) rfl) (And.intro ((Blk.other (Blk.other (Blk.other (KE.out) (b' := w.heap.size) (by have := HPP.out; have := HL6.out; omega) 0 (.bool o)) (b' := w.heap.size) (by have := HPP.out; have := HL6.out; omega) 1 (.int .i64 a)) (b' := w.heap.size) (by have := HPP.out; have := HL6.out; omega) 2 (.int .i64 b)).cell 2 (.int .i64 b) rfl) (And.intro ((Blk.other (Blk.other (Blk.other (KG.out) (b' := w.heap.size) (by have := HPP.out; have := HL6.out; omega) 0 (.bool o)) (b' := w.heap.size) (by have := HPP.out; have := HL6.out; omega) 1 (.int .i64 a)) (b' := w.heap.size) (by have := HPP.out; have := HL6.out; omega) 2 (.int .i64 b)).cell 0 (.bool o') rfl) (And.intro ((Blk.other (Blk.other (Blk.other (KG.out) (b' := w.heap.size) (by have := HPP.out; have := HL6.out; omega) 0 (.bool o)) (b' := w.heap.size) (by have := HPP.out; have := HL6.out; omega) 1 (.int .i64 a)) (b' := w.heap.size) (by have := HPP.out; have := HL6.out; omega) 2 (.int .i64 b)).cell 1 (.int .i64 a') rfl) ((Blk.other (Blk.other (Blk.other (KG.out) (b' := w.heap.size) (by have := HPP.out; have := HL6.out; omega) 0 (.bool o)) (b' := w.heap.size) (by have := HPP.out; have := HL6.out; omega) 1 (.int .i64 a)) (b' := w.heap.size) (by have := HPP.out; have := HL6.out; omega) 2 (.int .i64 b)).cell 2 (.int .i64 b') rfl))))))
       have hS2 := Lib.hid (And.intro ((Blk.other (Blk.other (Blk.other (Blk.other (Blk.other (Blk.other (KE.out) (b' := w.heap.size) (by have := HPP.out; have := HL6.out; omega) 0 (.bool o)) (b' := w.heap.size) (by have := HPP.out; have := HL6.out; omega) 1 (.int .i64 a)) (b' := w.heap.size) (by have := HPP.out; have := HL6.out; omega) 2 (.int .i64 b)) (b' := w.heap.size + 1) (by have := HPP.out; have := HL6.out; omega) 0 (.bool o')) (b' := w.heap.size + 1) (by have := HPP.out; have := HL6.out; omega) 1 (.int .i64 a')) (b' := w.heap.size + 1) (by have := HPP.out; have := HL6.out; omega) 2 (.int .i64 b')).cell 0 (.bool o) rfl) (And.intro ((Blk.other (Blk.other (Blk.other (Blk.other (Blk.other (Blk.other (KE.out) (b' := w.heap.size) (by have := HPP.out; have := HL6.out; omega) 0 (.bool o)) (b' := w.heap.size) (by have := HPP.out; have := HL6.out; omega) 1 (.int .i64 a)) (b' := w.heap.size) (by have := HPP.out; have := HL6.out; omega) 2 (.int .i64 b)) (b' := w.heap.size + 1) (by have := HPP.out; have := HL6.out; omega) 0 (.bool o')) (b' := w.heap.size + 1) (by have := HPP.out; have := HL6.out; omega) 1 (.int .i64 a')) (b' := w.heap.size + 1) (by have := HPP.out; have := HL6.out; omega) 2 (.int .i64 b')).cell 1 (.int .i64 a) rfl) (And.intro ((Blk.other (Blk.other (Blk.other (Blk.other (Blk.other (Blk.other (KE.out) (b' := w.heap.size) (by have := HPP.out; have := HL6.out; omega) 0 (.bool o)) (b' := w.heap.size) (by have := HPP.out; have := HL6.out; omega) 1 (.int .i64 a)) (b' := w.heap.size) (by have := HPP.out; have := HL6.out; omega) 2 (.int .i64 b)) (b' := w.heap.size + 1) (by have := HPP.out; have := HL6.out; omega) 0 (.bool o')) (b' := w.heap.size + 1) (by have := HPP.out; have := HL6.out; omega) 1 (.int .i64 a')) (b' := w.heap.size + 1) (by have := HPP.out; have := HL6.out; omega) 2 (.int .i64 b')).cell 2 (.int .i64 b) rfl) (And.intro ((Blk.other (Blk.other (Blk.other (Blk.other (Blk.other (Blk.other (KG.out) (b' := w.heap.size) (by have := HPP.out; have := HL6.out; omega) 0 (.bool o)) (b' := w.heap.size) (by have := HPP.out; have := HL6.out; omega) 1 (.int .i64 a)) (b' := w.heap.size) (by have := HPP.out; have := HL6.out; omega) 2 (.int .i64 b)) (b' := w.heap.size + 1) (by have := HPP.out; have := HL6.out; omega) 0 (.bool o')) (b' := w.heap.size + 1) (by have := HPP.out; have := HL6.out; omega) 1 (.int .i64 a')) (b' := w.heap.size + 1) (by have := HPP.out; have := HL6.out; omega) 2 (.int .i64 b')).cell 0 (.bool o') rfl) (And.intro ((Blk.other (Blk.other (Blk.other (Blk.other (Blk.other (Blk.other (KG.out) (b' := w.heap.size) (by have := HPP.out; have := HL6.out; omega) 0 (.bool o)) (b' := w.heap.size) (by have := HPP.out; have := HL6.out; omega) 1 (.int .i64 a)) (b' := w.heap.size) (by have := HPP.out; have := HL6.out; omega) 2 (.int .i64 b)) (b' := w.heap.size + 1) (by have := HPP.out; have := HL6.out; omega) 0 (.bool o')) (b' := w.heap.size + 1) (by have := HPP.out; have := HL6.out; omega) 1 (.int .i64 a')) (b' := w.heap.size + 1) (by have := HPP.out; have := HL6.out; omega) 2 (.int .i64 b')).cell 1 (.int .i64 a') rfl) ((Blk.other (Blk.other (Blk.other (Blk.other (Blk.other (Blk.other (KG.out) (b' := w.heap.size) (by have := HPP.out; have := HL6.out; omega) 0 (.bool o)) (b' := w.heap.size) (by have := HPP.out; have := HL6.out; omega) 1 (.int .i64 a)) (b' := w.heap.size) (by have := HPP.out; have := HL6.out; omega) 2 (.int .i64 b)) (b' := w.heap.size + 1) (by have := HPP.out; have := HL6.out; omega) 0 (.bool o')) (b' := w.heap.size + 1) (by have := HPP.out; have := HL6.out; omega) 1 (.int .i64 a')) (b' := w.heap.size + 1) (by have := HPP.out; have := HL6.out; omega) 2 (.int .i64 b')).cell 2 (.int .i64 b') rfl))))))
       have b0 := (KB.out).cell 0 (.bool false) rfl
       have bf0 := (KB.out).frozen 0
       have b1 := (KB.out).cell 1 (.int .i64 0) rfl
       have bf1 := (KB.out).frozen 1
       have b2 := (KB.out).cell 2 (.int .i64 0) rfl
       have bf2 := (KB.out).frozen 2
       have d0 := (KD.out).cell 0 (.bool false) rfl
       have df0 := (KD.out).frozen 0
       have d1 := (KD.out).cell 1 (.int .i64 0) rfl
       have df1 := (KD.out).frozen 1
       have d2 := (KD.out).cell 2 (.int .i64 0) rfl
       have df2 := (KD.out).frozen 2
       have dd0 := (Blk.other (Blk.other (Blk.other (KD.out) (b' := w.heap.size) (by have := HPP.out; have := HL6.out; omega) 0 (.bool o)) (b' := w.heap.size) (by have := HPP.out; have := HL6.out; omega) 1 (.int .i64 a)) (b' := w.heap.size) (by have := HPP.out; have := HL6.out; omega) 2 (.int .i64 b)).cell 0 (.bool false) rfl
       have ddf0 := (Blk.other (Blk.other (Blk.other (KD.out) (b' := w.heap.size) (by have := HPP.out; have := HL6.out; omega) 0 (.bool o)) (b' := w.heap.size) (by have := HPP.out; have := HL6.out; omega) 1 (.int .i64 a)) (b' := w.heap.size) (by have := HPP.out; have := HL6.out; omega) 2 (.int .i64 b)).frozen 0
       have dd1 := (Blk.other (Blk.other (Blk.other (KD.out) (b' := w.heap.size) (by have := HPP.out; have := HL6.out; omega) 0 (.bool o)) (b' := w.heap.size) (by have := HPP.out; have := HL6.out; omega) 1 (.int .i64 a)) (b' := w.heap.size) (by have := HPP.out; have := HL6.out; omega) 2 (.int .i64 b)).cell 1 (.int .i64 0) rfl
       have ddf1 := (Blk.other (Blk.other (Blk.other (KD.out) (b' := w.heap.size) (by have := HPP.out; have := HL6.out; omega) 0 (.bool o)) (b' := w.heap.size) (by have := HPP.out; have := HL6.out; omega) 1 (.int .i64 a)) (b' := w.heap.size) (by have := HPP.out; have := HL6.out; omega) 2 (.int .i64 b)).frozen 1
       have dd2 := (Blk.other (Blk.other (Blk.other (KD.out) (b' := w.heap.size) (by have := HPP.out; have := HL6.out; omega) 0 (.bool o)) (b' := w.heap.size) (by have := HPP.out; have := HL6.out; omega) 1 (.int .i64 a)) (b' := w.heap.size) (by have := HPP.out; have := HL6.out; omega) 2 (.int .i64 b)).cell 2 (.int .i64 0) rfl
       have ddf2 := (Blk.other (Blk.other (Blk.other (KD.out) (b' := w.heap.size) (by have := HPP.out; have := HL6.out; omega) 0 (.bool o)) (b' := w.heap.size) (by have := HPP.out; have := HL6.out; omega) 1 (.int .i64 a)) (b' := w.heap.size) (by have := HPP.out; have := HL6.out; omega) 2 (.int .i64 b)).frozen 2
       clear hcc hg))
  all_goals (
    have HB9 := Lib.hid (Below.setCell (Below.setCell (Below.setCell (Below.setCell (Below.setCell (Below.setCell (KH.out) (p := ⟨w.heap.size, 0, none⟩) (by first | exact Nat.le_refl _ | exact Nat.le_succ _) (.bool o)) (p := ⟨w.heap.size, 1, none⟩) (by first | exact Nat.le_refl _ | exact Nat.le_succ _) (.int .i64 a)) (p := ⟨w.heap.size, 2, none⟩) (by first | exact Nat.le_refl _ | exact Nat.le_succ _) (.int .i64 b)) (p := ⟨w.heap.size + 1, 0, none⟩) (by first | exact Nat.le_refl _ | exact Nat.le_succ _) (.bool o')) (p := ⟨w.heap.size + 1, 1, none⟩) (by first | exact Nat.le_refl _ | exact Nat.le_succ _) (.int .i64 a')) (p := ⟨w.heap.size + 1, 2, none⟩) (by first | exact Nat.le_refl _ | exact Nat.le_succ _) (.int .i64 b'))
    have R2 := Blk.other (Blk.other (Blk.other (Blk.set (Blk.set (Blk.set (KB.out) 0 (.bool o)) 1 (.int .i64 a)) 2 (.int .i64 b)) (b' := w.heap.size + 1) (by have := HPP.out; have := HL6.out; omega) 0 (.bool o')) (b' := w.heap.size + 1) (by have := HPP.out; have := HL6.out; omega) 1 (.int .i64 a')) (b' := w.heap.size + 1) (by have := HPP.out; have := HL6.out; omega) 2 (.int .i64 b')
    have R3 := Blk.set (Blk.set (Blk.set (Blk.other (Blk.other (Blk.other (KD.out) (b' := w.heap.size) (by have := HPP.out; have := HL6.out; omega) 0 (.bool o)) (b' := w.heap.size) (by have := HPP.out; have := HL6.out; omega) 1 (.int .i64 a)) (b' := w.heap.size) (by have := HPP.out; have := HL6.out; omega) 2 (.int .i64 b)) 0 (.bool o')) 1 (.int .i64 a')) 2 (.int .i64 b')
    go_wp2_with fail
    have hl := Blk.load R2 Try.underlying29 rfl (by kernel_rfl)
    have hm := Blk.load R3 Try.underlying29 rfl (by kernel_rfl)
    refine bodyPost_ret (v := .tuple #[.agg #[.bool o, .int .i64 a, .int .i64 b], .agg #[.bool o', .int .i64 a', .int .i64 b'], .int .i64 d]) ?_ rfl ⟨o, a, b, o', a', b', d, rfl, ⟨dl0, dl1⟩, HB9.out⟩
    rw [results_cct rfl]
    simp [asAddr, Result.andThen, hl, hm])
end Go.Proofs.Ytelkflgmjfmadaa.drawu7
