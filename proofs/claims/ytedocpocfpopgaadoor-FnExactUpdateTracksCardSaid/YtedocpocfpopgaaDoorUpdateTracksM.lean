/- For every slice of tracks, every slice of places and all other arguments the law FnExactUpdateTracks returns true: impl.UpdateTracks and spec.UpdateTracks return the same list and true, or both an empty slice and false; the arguments are left as they were, the results share no memory. No condition. -/
import Derived.Test.YtedocpocfpopgaaDoorAsgB
import Derived.Test.YtedocpocfpopgaaDoorAsgA
import Derived.Defers
import Derived.Lib.QuietBelow
import Derived.Laws.MakeOwn
import Derived.OwnWalk
import Derived.Test.YtedocpocfpopgaaDoorTailH
import Derived.Test.YtedocpocfpopgaaDoorAsgC
import Derived.Test.YtedocpocfpopgaaDoorTrkG
import Derived.Test.YtedocpocfpopgaaDoorTrkZ
import Derived.Test.YtedocpocfpopgaaDoorAsgU
import Derived.Test.YtedocpocfpopgaaDoorRws
import Derived.Test.YtedocpocfpopgaaDoorTrkX
import Derived.Test.YtedocpocfpopgaaDoorCards
import Derived.Test.YtedocpocfpopgaaDoorTie
import Derived.Test.YtedocpocfpopgaaDoorErL
import Derived.Test.YtedocpocfpopgaaDoorIntC
import Derived.Test.YtedocpocfpopgaaDoorLstO
import Derived.Test.YtedocpocfpopgaaDoorTrkE
import Derived.WalkKit
import Derived.ProofKit
import Derived.OpenShut
import Derived.ShutString
import Derived.ChangeOld
import Derived.Below
import Derived.Lib.SmallJoins
import Derived.Deep.RegionHeld3
import Derived.Deep.CutRange
import Derived.Stop.LaidErr
import Derived.Deep.DeepHandedRow
import Derived.Lib.LaidTab
import Derived.OpenVars

/- UpdateTracks in plain mathematics (no program in it). -/
namespace Go.Proofs.YtedocpocfpopgaaDoor.asgk
open Go.Proofs.YtedocpocfpopgaaDoor.in_ Go.Proofs.YtedocpocfpopgaaDoor.lst Go.Proofs.YtedocpocfpopgaaDoor.pos Go.Proofs.YtedocpocfpopgaaDoor.trk Go.Proofs.YtedocpocfpopgaaDoor.trkm Go.Proofs.YtedocpocfpopgaaDoor.asg Go.Proofs.YtedocpocfpopgaaDoor.asgb

/-- The Ids of the first i tracks that have a pair, and the places of their plots. -/
def idT (zs xs : List Int) : Nat → List Int
  | 0 => []
  | i + 1 => idT zs xs i ++ (if xs.getD i 0 < 0 then [] else [fld 6 zs i 0])
def plL (ps xs : List Int) : Nat → List Int
  | 0 => []
  | i + 1 => plL ps xs i ++ (if xs.getD i 0 < 0 then [] else [fld 2 ps (xs.getD i 0).toNat 0, fld 2 ps (xs.getD i 0).toNat 1])
theorem idT_le (zs xs : List Int) (i : Nat) : (idT zs xs i).length ≤ i := by
  induction i with
  | zero => exact Nat.le_refl _
  | succ i ih => rw [idT, List.length_append]; split <;> simp <;> omega
theorem plL_length (zs ps xs : List Int) (i : Nat) : (plL ps xs i).length = (idT zs xs i).length * 2 := by
  induction i with
  | zero => rfl
  | succ i ih => rw [plL, idT, List.length_append, List.length_append, ih]; split <;> simp <;> omega
theorem hit_no {zs ps xs : List Int} {i : Nat} (h : xs.getD i 0 = -1) : idT zs xs (i + 1) = idT zs xs i ∧ plL ps xs (i + 1) = plL ps xs i := by
  rw [idT, plL, h, if_pos (by omega), if_pos (by omega)]; exact ⟨List.append_nil _, List.append_nil _⟩
theorem hit_yes {zs ps xs : List Int} {i k : Nat} (h : xs.getD i 0 = (k : Int)) : idT zs xs (i + 1) = idT zs xs i ++ [fld 6 zs i 0] ∧ plL ps xs (i + 1) = plL ps xs i ++ [fld 2 ps k 0, fld 2 ps k 1] := by
  rw [idT, plL, h, if_neg (by omega), if_neg (by omega), Int.toNat_natCast]; exact ⟨rfl, rfl⟩
/-- New tracks at the free plots, as long as one can start. -/
def upT (ps : List Int) : List Int → List Int → Nat → List Int × Nat
  | [], zs, n => (zs, n)
  | k :: t, zs, n => if stB zs n (fld 2 ps k.toNat 0) (fld 2 ps k.toNat 1) then upT ps t (stR zs n (fld 2 ps k.toNat 0) (fld 2 ps k.toNat 1)) (n + 1) else (zs, n)
theorem up_yes {ps zs t : List Int} {n k : Nat} (h : stB zs n (fld 2 ps k 0) (fld 2 ps k 1) = true) : upT ps ((k : Int) :: t) zs n = upT ps t (stR zs n (fld 2 ps k 0) (fld 2 ps k 1)) (n + 1) := by
  rw [upT, Int.toNat_natCast, if_pos h]
theorem up_no {ps zs t : List Int} {n k : Nat} (h : stB zs n (fld 2 ps k 0) (fld 2 ps k 1) = false) : upT ps ((k : Int) :: t) zs n = (zs, n) := by
  rw [upT, Int.toNat_natCast, if_neg (by rw [h]; exact Bool.false_ne_true)]
theorem upT_in {ps : List Int} : ∀ (t zs : List Int) (n : Nat), zs.length = n * 6 → n ≤ 6 → (upT ps t zs n).1.length = (upT ps t zs n).2 * 6 ∧ (upT ps t zs n).2 ≤ 6 := by
  intro t
  induction t with
  | nil => intro zs n h1 h2; exact ⟨h1, h2⟩
  | cons k t ih =>
    intro zs n h1 h2
    rw [upT]
    split
    · rename_i h
      refine ih _ _ ?_ (tvB_yes h).2
      unfold stR
      rw [List.length_append, h1, six_length]; omega
    · exact ⟨h1, h2⟩
/-- UpdateTracks: what BestAssignment gives, the hits, whether it goes, the list, how many. -/
def upQ (zs : List Int) (n : Nat) (ps : List Int) (m : Nat) (g : Int) : Nat := (idT zs (beV zs n ps m g) n).length
def upB (zs : List Int) (n : Nat) (ps : List Int) (m : Nat) (g : Int) : Bool :=
  akB zs n ps m g && scB zs n (idT zs (beV zs n ps m g) n) (upQ zs n ps m g) (plL ps (beV zs n ps m g) n) (upQ zs n ps m g)
def upP (zs : List Int) (n : Nat) (ps : List Int) (m : Nat) (g : Int) : List Int × Nat :=
  upT ps (unT (beV zs n ps m g) m) (scL zs n (idT zs (beV zs n ps m g) n) (upQ zs n ps m g) (plL ps (beV zs n ps m g) n) (upQ zs n ps m g)) (scN zs n (idT zs (beV zs n ps m g) n) (upQ zs n ps m g) (plL ps (beV zs n ps m g) n) (upQ zs n ps m g))
def upL (zs : List Int) (n : Nat) (ps : List Int) (m : Nat) (g : Int) : List Int := if upB zs n ps m g then (upP zs n ps m g).1 else []
def upN (zs : List Int) (n : Nat) (ps : List Int) (m : Nat) (g : Int) : Nat := if upB zs n ps m g then (upP zs n ps m g).2 else 0
theorem u_yes {zs ps : List Int} {n m : Nat} {g : Int} (h : upB zs n ps m g = true) : upL zs n ps m g = (upP zs n ps m g).1 ∧ upN zs n ps m g = (upP zs n ps m g).2 := by unfold upL upN; rw [h]; exact ⟨rfl, rfl⟩
theorem u_no {zs ps : List Int} {n m : Nat} {g : Int} (h : upB zs n ps m g = false) : upL zs n ps m g = [] ∧ upN zs n ps m g = 0 := by unfold upL upN; rw [h]; exact ⟨rfl, rfl⟩
theorem u_ask {zs ps : List Int} {n m : Nat} {g : Int} (h : akB zs n ps m g = false) : upB zs n ps m g = false := by unfold upB; rw [h]; rfl
theorem up_ok {zs ps : List Int} {n m : Nat} {g : Int} (h : upB zs n ps m g = true) : (upL zs n ps m g).length = upN zs n ps m g * 6 ∧ upN zs n ps m g ≤ 6 := by
  rw [(u_yes h).1, (u_yes h).2]
  have h1 : akB zs n ps m g = true := by unfold upB at h; rw [Bool.and_eq_true] at h; exact h.1
  have hn := (tvB_yes (akB_yes h1).1).2
  unfold upP
  refine upT_in _ _ _ (scL_length ..) ?_
  exact Nat.le_trans (scN_le ..) hn
theorem upL_length (zs : List Int) (n : Nat) (ps : List Int) (m : Nat) (g : Int) : (upL zs n ps m g).length = upN zs n ps m g * 6 := by
  cases h : upB zs n ps m g
  · rw [(u_no h).1, (u_no h).2]; rfl
  · exact (up_ok h).1
theorem upN_le (zs : List Int) (n : Nat) (ps : List Int) (m : Nat) (g : Int) : upN zs n ps m g ≤ 6 := by
  cases h : upB zs n ps m g
  · rw [(u_no h).2]; exact Nat.zero_le _
  · exact (up_ok h).2
/-- Free plots are plots. -/
theorem un_at {P : List Int} : ∀ {m j : Nat} {x : Int}, (unT P m)[j]? = some x → ∃ k : Nat, x = (k : Int) ∧ k < m := by
  intro m
  induction m with
  | zero => intro j x h; simp [unT] at h
  | succ m ih =>
    intro j x h
    rw [unT] at h
    rcases Nat.lt_or_ge j (unT P m).length with h1 | h1
    · rw [List.getElem?_append_left h1] at h
      obtain ⟨k, e, hk⟩ := ih h
      exact ⟨k, e, by omega⟩
    · rw [List.getElem?_append_right h1] at h
      split at h
      · simp at h
      · cases hj : j - (unT P m).length with
        | zero => rw [hj] at h; simp at h; exact ⟨m, h.symm, by omega⟩
        | succ q => rw [hj] at h; simp at h
end Go.Proofs.YtedocpocfpopgaaDoor.asgk

/- The search of impl.BestAssignment in memory: what it holds (Sr), the chain of its choices (Ch); countFree, cheapestBehind with its deferred closure. -/
namespace Go.Proofs.YtedocpocfpopgaaDoor.asge
open Go.RowKit Go.Proofs.YtedocpocfpopgaaDoor.ints Go.Proofs.YtedocpocfpopgaaDoor.lst Go.Proofs.YtedocpocfpopgaaDoor.in_ Go.Proofs.YtedocpocfpopgaaDoor.ats Go.Proofs.YtedocpocfpopgaaDoor.pos Go.Proofs.YtedocpocfpopgaaDoor.trk Go.Proofs.YtedocpocfpopgaaDoor.trkm Go.Proofs.YtedocpocfpopgaaDoor.trke Go.Proofs.YtedocpocfpopgaaDoor.intc Go.Proofs.YtedocpocfpopgaaDoor.asg Go.Proofs.YtedocpocfpopgaaDoor.asgb

/-- The cells of taken: which plots are in P. -/
def tkC (P : List Int) (m : Nat) : Array Value := ((List.range m).map fun k => Value.bool (P.contains ((k : Nat) : Int))).toArray
theorem tk_size (P : List Int) (m : Nat) : (tkC P m).size = m := by simp [tkC]
theorem tk_at {P : List Int} {m k : Nat} (h : k < m) : (tkC P m)[k]? = some (.bool (P.contains ((k : Nat) : Int))) := by simp [tkC, h]
theorem has_snoc (P : List Int) (x : Int) (k : Nat) : (P ++ [x]).contains ((k : Nat) : Int) = (P.contains ((k : Nat) : Int) || decide (x = (k : Int))) := by
  rw [Bool.eq_iff_iff]
  simp only [List.contains_iff_mem, List.mem_append, List.mem_singleton, Bool.or_eq_true, decide_eq_true_eq]
  constructor <;> (rintro (h | h); exact Or.inl h; exact Or.inr h.symm)
theorem tk_none (P : List Int) (m : Nat) : tkC (P ++ [-1]) m = tkC P m := by
  unfold tkC
  congr 1
  refine List.map_congr_left fun k _ => ?_
  rw [has_snoc, decide_eq_false (by omega), Bool.or_false]
theorem tk_set {P : List Int} {m k : Nat} (h : k < m) : (tkC P m).setIfInBounds k (.bool true) = tkC (P ++ [(k : Int)]) m := by
  refine Array.ext_getElem? fun j => ?_
  rw [Array.getElem?_setIfInBounds]
  by_cases hj : k = j
  · subst hj
    rw [if_pos rfl, if_pos (by rw [tk_size]; exact h), tk_at h, has_snoc, decide_eq_true rfl, Bool.or_true]
  · rw [if_neg hj]
    by_cases hm : j < m
    · rw [tk_at hm, tk_at hm, has_snoc, decide_eq_false (by omega), Bool.or_false]
    · rw [Array.getElem?_eq_none (by rw [tk_size]; omega), Array.getElem?_eq_none (by rw [tk_size]; omega)]
theorem tk_back {P : List Int} {m k : Nat} (h : k < m) (hc : P.contains (k : Int) = false) : (tkC (P ++ [(k : Int)]) m).setIfInBounds k (.bool false) = tkC P m := by
  refine Array.ext_getElem? fun j => ?_
  rw [Array.getElem?_setIfInBounds]
  by_cases hj : k = j
  · subst hj
    rw [if_pos rfl, if_pos (by rw [tk_size]; exact h), tk_at h, hc]
  · rw [if_neg hj]
    by_cases hm : j < m
    · rw [tk_at hm, tk_at hm, has_snoc, decide_eq_false (by omega), Bool.or_false]
    · rw [Array.getElem?_eq_none (by rw [tk_size]; omega), Array.getElem?_eq_none (by rw [tk_size]; omega)]
/-- What the search at sb holds in w, when the plots in P are taken. -/
structure Sr (sb tb n c m cq : Nat) (A C : Option Addr) (g : Int) (zs ps : List Int) (w : World) (P : List Int) : Prop where
  s : tb < sb ∧ sb < w.heap.size
  f0 : w.cell? ⟨sb, 0, none⟩ = some (.slice A n c)
  f1 : w.cell? ⟨sb, 1, none⟩ = some (.slice C m cq)
  f2 : w.cell? ⟨sb, 2, none⟩ = some (.int .i64 g)
  f3 : w.cell? ⟨sb, 3, none⟩ = some (.slice (some ⟨tb, 0, none⟩) m m)
  t : w.heap[tb]? = some (.cells (tkC P m) 4 (0, 0))
  z : RdZ 6 w tb A n zs
  p : RdZ 2 w tb C m ps
section
variable {sb tb n c m cq : Nat} {A C : Option Addr} {g : Int} {zs ps : List Int} {w w' : World} {P : List Int}
theorem Sr.next (h : Sr sb tb n c m cq A C g zs ps w P) (hb : Below w.heap.size w w') : Sr sb tb n c m cq A C g zs ps w' P :=
  ⟨⟨h.s.1, Nat.lt_of_lt_of_le h.s.2 hb.size⟩, (hb.cell (p := ⟨sb, 0, none⟩) h.s.2).trans h.f0, (hb.cell (p := ⟨sb, 1, none⟩) h.s.2).trans h.f1, (hb.cell (p := ⟨sb, 2, none⟩) h.s.2).trans h.f2, (hb.cell (p := ⟨sb, 3, none⟩) h.s.2).trans h.f3,
    (hb.block tb (by have := h.s; omega)).trans h.t, h.z.below hb (by have := h.s; omega), h.p.below hb (by have := h.s; omega)⟩
theorem Sr.none (h : Sr sb tb n c m cq A C g zs ps w P) : Sr sb tb n c m cq A C g zs ps w (P ++ [-1]) := ⟨h.s, h.f0, h.f1, h.f2, h.f3, by rw [tk_none]; exact h.t, h.z, h.p⟩
theorem low (o : Nat) (u : Value) : Below tb w (w.setCell ⟨tb, o, Option.none⟩ u) := (Below.refl tb w).setCell (p := ⟨tb, o, Option.none⟩) (Nat.le_refl _) u
theorem Sr.put (h : Sr sb tb n c m cq A C g zs ps w P) {k : Nat} (hk : k < m) : Sr sb tb n c m cq A C g zs ps (w.setCell ⟨tb, k, Option.none⟩ (.bool true)) (P ++ [(k : Int)]) := by
  have hs : ∀ j, (w.setCell ⟨tb, k, Option.none⟩ (.bool true)).cell? ⟨sb, j, Option.none⟩ = w.cell? ⟨sb, j, Option.none⟩ := fun j =>
    World.cell?_setCell_other _ _ _ _ (by intro e; have := h.s; simp only [Addr.mk.injEq] at e; omega)
  exact ⟨⟨h.s.1, by simpa [World.setCell] using h.s.2⟩, (hs 0).trans h.f0, (hs 1).trans h.f1, (hs 2).trans h.f2, (hs 3).trans h.f3,
    by rw [heap_setCell_same _ tb k _ _ _ h.t, tk_set hk], h.z.below (low k _) (Nat.le_refl _), h.p.below (low k _) (Nat.le_refl _)⟩
theorem Sr.cell (h : Sr sb tb n c m cq A C g zs ps w P) {k : Nat} (hk : k < m) : w.cell? ⟨tb, k, Option.none⟩ = some (.bool (P.contains (k : Int))) :=
  (cell_of_row _ _ k _ _ (0, 0) h.t).trans (tk_at hk)
theorem Sr.frozen (h : Sr sb tb n c m cq A C g zs ps w P) (k : Nat) : w.frozen? ⟨tb, k, Option.none⟩ = false := by simp [World.frozen?, h.t]
/-- The plot is free again: of what was there nothing has turned. -/
theorem Sr.back (h : Sr sb tb n c m cq A C g zs ps w P) {k : Nat} (hk : k < m) (hc : P.contains (k : Int) = false) {w1 w2 : World} (h1 : Below w.heap.size w w1) (hb : Below w1.heap.size (w1.setCell ⟨tb, k, Option.none⟩ (.bool true)) w2) :
    Below w.heap.size w (w2.setCell ⟨tb, k, Option.none⟩ (.bool false)) := by
  have ht1 : w1.heap[tb]? = some (.cells (tkC P m) 4 (0, 0)) := (h1.block tb (by have := h.s; omega)).trans h.t
  have ht2 : w2.heap[tb]? = some (.cells (tkC (P ++ [(k : Int)]) m) 4 (0, 0)) := by
    rw [hb.block tb (by have := h.s; have := h1.size; omega), heap_setCell_same _ tb k _ _ _ ht1, tk_set hk]
  have hz1 : (w1.setCell ⟨tb, k, Option.none⟩ (.bool true)).heap.size = w1.heap.size := by simp [World.setCell]
  have hz2 : (w2.setCell ⟨tb, k, Option.none⟩ (.bool false)).heap.size = w2.heap.size := by simp [World.setCell]
  have hsz := hb.size
  have hs1 := h1.size
  refine ⟨hb.os.trans h1.os, hb.tape.trans h1.tape, hb.output.trans h1.output, by omega, fun j hj => ?_⟩
  by_cases e : j = tb
  · subst e
    rw [heap_setCell_same _ j k _ _ _ ht2, tk_back hk hc, h.t]
  · rw [Below.heap_setCell _ _ _ _ e, hb.block j (by omega), Below.heap_setCell _ _ _ _ e, h1.block j hj]
end
/-- A chain of choices, in blocks from B on. -/
def Ch (B : Nat) (w : World) : Value → List Int → Prop
  | v, [] => v = .pointer none
  | v, x :: t => ∃ b v', v = .pointer (some ⟨b, 0, none⟩) ∧ B ≤ b ∧ w.heap[b]? = some (.cells #[.int .i64 x, v'] 123 (0, 0)) ∧ Ch B w v' t
theorem blk_lt {w : World} {b : Nat} {ob : Obj} (h : w.heap[b]? = some ob) : b < w.heap.size := by
  rcases Nat.lt_or_ge b w.heap.size with h1 | h1
  · exact h1
  · rw [Array.getElem?_eq_none h1] at h; cases h
theorem Ch.next {B : Nat} {w w' : World} (hb : Below w.heap.size w w') : ∀ {xs : List Int} {v : Value}, Ch B w v xs → Ch B w' v xs
  | [], _, h => h
  | _ :: _, _, ⟨b, v', e, hB, hh, ht⟩ => ⟨b, v', e, hB, (hb.block b (blk_lt hh)).trans hh, Ch.next hb ht⟩
theorem Ch.base {B B' : Nat} {w : World} (hB : B' ≤ B) : ∀ {xs : List Int} {v : Value}, Ch B w v xs → Ch B' w v xs
  | [], _, h => h
  | _ :: _, _, ⟨b, v', e, hb, hh, ht⟩ => ⟨b, v', e, Nat.le_trans hB hb, hh, Ch.base hB ht⟩
theorem Ch.kept {B tb k : Nat} {w : World} {u : Value} (hB : tb < B) : ∀ {xs : List Int} {v : Value}, Ch B w v xs → Ch B (w.setCell ⟨tb, k, Option.none⟩ u) v xs
  | [], _, h => h
  | _ :: _, _, ⟨b, v', e, hb, hh, ht⟩ => ⟨b, v', e, hb, (Below.heap_setCell _ _ _ _ (show b ≠ tb by omega)).trans hh, Ch.kept hB ht⟩
theorem Ch.cons {B : Nat} {w : World} {xs : List Int} {v : Value} (h : Ch B w v xs) (hB : B ≤ w.heap.size) (x : Int) : Ch B (w.alloc (.cells #[.int .i64 x, v] 123)) (.pointer (some ⟨w.heap.size, 0, none⟩)) (x :: xs) :=
  ⟨w.heap.size, v, rfl, hB, heap_alloc_new w _, Ch.next ((Below.refl _ _).alloc (Nat.le_refl _) _) h⟩
theorem Ch.ptr {B : Nat} {w : World} {xs : List Int} {v : Value} (h : Ch B w v xs) : ∃ a, v = .pointer a := by
  cases xs with
  | nil => exact ⟨none, h⟩
  | cons x t => obtain ⟨b, v', e, _⟩ := h; exact ⟨_, e⟩

theorem countFree {sb tb n c m cq : Nat} {A C : Option Addr} {g : Int} {zs ps : List Int} {P : List Int} (w : World) (hm : m ≤ 5) (h : Sr sb tb n c m cq A C g zs ps w P) :
    Calls Tryd.prog 104 #[.pointer (some ⟨sb, 0, none⟩)] w fun e w' => e = .returned (.int .i64 ((frT P m : Nat) : Int)) ∧ w = w' := by
  have HS := Lib.hid h
  have f3 := h.f3
  have HY := Lib.hid (fun k h => fr_yes (P := P) (k := k) h)
  have HN := Lib.hid (fun k h => fr_no (P := P) (k := k) h)
  clear h
  go_enter Tryd.func104, Tryd.ntmps104
  go_wp2_with fail
  go_loop [3, 11] (fun s i => ∃ k : Nat, k ≤ m ∧ i = .int .i64 k ∧ s = .int .i64 ((frT P k : Nat) : Int)) (fun _ i => m - (intOf i).toNat)
  case atStart => exact ⟨0, Nat.zero_le _, rfl, rfl⟩
  case round =>
    obtain ⟨k, hk, rfl, rfl⟩ := hrel
    by_cases hlt : k < m
    · have c0 := HS.out.cell hlt
      have hlt2 : (k : Int) < (m : Int) := by omega
      have hle := frT_le P k
      have HYk := Lib.hid (HY.out k)
      have HNk := Lib.hid (HN.out k)
      cases hc : P.contains (k : Int)
      · have HT := Lib.hid (HNk.out hc)
        rw [hc] at c0
        clear hc HYk HNk
        generalize frT P k = q at *
        have e1 : IntKind.i64.wrap ((q : Int) + 1) = (q : Int) + 1 := IntWalk.i64_in _ (by omega)
        go_wp2_with fail
        go_round
        case rel => exact ⟨k + 1, by omega, by go_num, by rw [HT.out]; go_num⟩
        case measure => simp [intOf]; omega
      · have HT := Lib.hid (HYk.out hc)
        rw [hc] at c0
        clear hc HYk HNk
        go_wp2_with fail
        go_round
        case rel => exact ⟨k + 1, by omega, by go_num, by rw [HT.out]⟩
        case measure => simp [intOf]; omega
    · obtain rfl : k = m := by omega
      go_wp2_with fail
      go_ret
      exact ⟨rfl, rfl⟩

/-- The deferred closure. -/
theorem freed {sb tb n c m cq : Nat} {A C : Option Addr} {g : Int} {zs ps : List Int} {P : List Int} (pb kb k : Nat) (u : FrameMode) (w : World) (hk : k < m) (hp : w.cell? ⟨pb, 0, none⟩ = some (.pointer (some ⟨sb, 0, none⟩))) (hq : w.cell? ⟨kb, 0, none⟩ = some (.int .i64 (k : Int))) (h : Sr sb tb n c m cq A C g zs ps w P) :
    CallsD Tryd.prog 117 #[.pointer (some ⟨pb, 0, none⟩), .pointer (some ⟨kb, 0, none⟩)] u w fun e u' w' => u' = u ∧ (e = .returned (.tuple #[]) ∧ w' = (w.setCell ⟨tb, k, none⟩ (.bool false)).drew) := by
  have f3 := h.f3
  have c0 := h.cell hk
  have z0 := h.frozen k
  have hk2 : (k : Int) < (m : Int) := by omega
  have hk0 : (0 : Int) ≤ (k : Int) := Int.natCast_nonneg _
  clear h
  go_enter_d Tryd.func117, Tryd.ntmps117
  go_wp2_with fail
  go_region
  go_wp2_with fail
  go_end0
  first | exact ⟨rfl, rfl⟩ | exact ⟨rfl, rfl, rfl⟩ | skip

set_option maxRecDepth 100000 in
theorem behind {sb tb n c m cq : Nat} {A C : Option Addr} {g : Int} {zs ps : List Int} {P xs : List Int} {X : Int} (k : Nat) (ih : ∀ W, Sr sb tb n c m cq A C g zs ps W (P ++ [(k : Int)]) → Calls Tryd.prog 83 #[.pointer (some ⟨sb, 0, none⟩), .int .i64 ((P.length : Int) + 1)] W fun e w' => ∃ v, e = .returned (.tuple #[v, .int .i64 X]) ∧ Ch W.heap.size w' v xs ∧ Below W.heap.size W w')
    (w : World) (hk : k < m) (hc : P.contains (k : Int) = false) (hl : P.length ≤ 6) (h : Sr sb tb n c m cq A C g zs ps w P) :
    Calls Tryd.prog 106 #[.pointer (some ⟨sb, 0, none⟩), .int .i64 (P.length : Int), .int .i64 (k : Int)] w fun e w' => ∃ v, e = .returned (.tuple #[v, .int .i64 X]) ∧ Ch w.heap.size w' v xs ∧ Below w.heap.size w w' := by
  have hmf : ∀ (fn : Fn) (first cap : Array Value) (w : World), (Instr.makeFunc fn first cap).run Tryd.prog w = .ok (.func fn first cap) w := fun _ _ _ _ => rfl
  have S0 := Lib.hid ((newS 142 #[.pointer (some ⟨sb, 0, none⟩)] w).alloc (.cells #[.int .i64 (k : Int)] 3))
  have S1 := Lib.hid ((newS 142 #[.pointer (some ⟨sb, 0, none⟩)] w).next 3 #[.int .i64 (k : Int)])
  rw [World.size_alloc] at S1
  have HS := Lib.hid h
  have IH := Lib.hid ih
  have HC := Lib.hid hc
  have hk2 : (k : Int) < (m : Int) := by omega
  have hk0 : (0 : Int) ≤ (k : Int) := Int.natCast_nonneg _
  have e1 : IntKind.i64.wrap ((P.length : Int) + 1) = (P.length : Int) + 1 := IntWalk.i64_in _ (by omega)
  generalize hPL : (P.length : Int) = pl at *
  clear h ih hc hPL hl
  go_enter_defers Tryd.func106, Tryd.ntmps106
  go_upto_region 1 with fail
  generalize (w.alloc (.cells #[.pointer (some ⟨sb, 0, none⟩)] 142)).alloc (.cells #[.int .i64 (k : Int)] 3) = W1 at *
  have H1 := Lib.hid (HS.out.next S0.out.1)
  have p0 : W1.cell? ⟨w.heap.size, 0, none⟩ = some (.pointer (some ⟨sb, 0, none⟩)) := S0.out.cell 0
  have q0 : W1.cell? ⟨w.heap.size + 1, 0, none⟩ = some (.int .i64 (k : Int)) := S1.out.cell 0
  have f3 := H1.out.f3
  have c0 := H1.out.cell hk
  have z0 := H1.out.frozen k
  go_region
  have hz1 : (W1.setCell ⟨tb, k, none⟩ (.bool true)).drew.heap.size = W1.heap.size := by simp [World.setCell, World.drew]
  have HP := Lib.hid ((H1.out.put hk).next (Below.refl _ _).drew)
  have HBK := Lib.hid (fun (W3 : World) (hb : Below (W1.setCell ⟨tb, k, none⟩ (.bool true)).drew.heap.size (W1.setCell ⟨tb, k, none⟩ (.bool true)).drew W3) => HS.out.back hk HC.out S0.out.1 ((Below.refl _ _).drew.trans (hz1 ▸ hb)))
  have hts := HS.out.s
  have p1 : (W1.setCell ⟨tb, k, none⟩ (.bool true)).drew.cell? ⟨w.heap.size, 0, none⟩ = some (.pointer (some ⟨sb, 0, none⟩)) := (World.cell?_setCell_other W1 ⟨tb, k, none⟩ ⟨w.heap.size, 0, none⟩ _ (by intro e; simp only [Addr.mk.injEq] at e; omega)).trans p0
  have q1 : (W1.setCell ⟨tb, k, none⟩ (.bool true)).drew.cell? ⟨w.heap.size + 1, 0, none⟩ = some (.int .i64 (k : Int)) := (World.cell?_setCell_other W1 ⟨tb, k, none⟩ ⟨w.heap.size + 1, 0, none⟩ _ (by intro e; simp only [Addr.mk.injEq] at e; omega)).trans q0
  have HL0 := Lib.hid S0.out.2.2.1
  have HL1 := Lib.hid S1.out.2.2.1
  have HZ1 := Lib.hid hz1
  have HSZ := Lib.hid S0.out.1.size
  clear p0 q0 f3 c0 z0 hz1 H1 S0 S1
  generalize (W1.setCell ⟨tb, k, none⟩ (.bool true)).drew = W2 at *
  go_wp2_with fail
  refine (IH.out W2 HP.out).mono ?_
  rintro e W3 ⟨v, rfl, hch, hb⟩
  have hl0 := HL0.out
  have hl1 := HL1.out
  have hz1 := HZ1.out
  have p2 := (hb.cell (p := ⟨w.heap.size, 0, none⟩) (show w.heap.size < W2.heap.size by omega)).trans p1
  have q2 := (hb.cell (p := ⟨w.heap.size + 1, 0, none⟩) (show w.heap.size + 1 < W2.heap.size by omega)).trans q1
  have P2 := Lib.hid p2
  have Q2 := Lib.hid q2
  have HF := Lib.hid (HBK.out W3 hb)
  have HSR := Lib.hid (HP.out.next hb)
  have HCH := Lib.hid (hch.base (show w.heap.size ≤ W2.heap.size by have := HSZ.out; omega))
  obtain ⟨a, rfl⟩ := Ch.ptr hch
  clear hb hch p1 q1 p2 q2 HP HBK IH hl0 hl1 hz1 hts
  go_wp2_with fail
  refine leaves_cons (f := 117) (args := #[.pointer (some ⟨w.heap.size, 0, none⟩), .pointer (some ⟨w.heap.size + 1, 0, none⟩)]) (by simp) (by simp [go_sem]) ?_
  refine (freed w.heap.size (w.heap.size + 1) k .returning W3 hk P2.out Q2.out HSR.out).mono ?_
  rintro e u' w'' ⟨rfl, rfl, rfl⟩
  have htb := HS.out.s
  exact ⟨_, results_tmp2 rfl _ _ _, _, rfl, Ch.next (Below.refl _ _).drew (HCH.out.kept (show tb < w.heap.size by omega)), HF.out.drew⟩
end Go.Proofs.YtedocpocfpopgaaDoor.asge

/- impl's cheapestFrom. -/
namespace Go.Proofs.YtedocpocfpopgaaDoor.asgh
open Go.RowKit Go.Proofs.YtedocpocfpopgaaDoor.ints Go.Proofs.YtedocpocfpopgaaDoor.lst Go.Proofs.YtedocpocfpopgaaDoor.in_ Go.Proofs.YtedocpocfpopgaaDoor.ats Go.Proofs.YtedocpocfpopgaaDoor.pos Go.Proofs.YtedocpocfpopgaaDoor.trk Go.Proofs.YtedocpocfpopgaaDoor.trkm Go.Proofs.YtedocpocfpopgaaDoor.trke Go.Proofs.YtedocpocfpopgaaDoor.intc Go.Proofs.YtedocpocfpopgaaDoor.asg Go.Proofs.YtedocpocfpopgaaDoor.asgb Go.Proofs.YtedocpocfpopgaaDoor.asge

theorem to_below {P : Program} {f : FuncId} {args : Array Value} {w : World} {v : Value} (h : Calls P f args w fun e w' => e = .returned v ∧ w = w') : Calls P f args w fun e w' => e = .returned v ∧ Below w.heap.size w w' :=
  h.mono fun _ _ ⟨a, b⟩ => ⟨a, b ▸ Below.refl _ _⟩
theorem to_below2 {P : Program} {f : FuncId} {args : Array Value} {w : World} {v : Value} (h : Calls P f args w fun e w' => e = .returned v ∧ w' = w) : Calls P f args w fun e w' => e = .returned v ∧ Below w.heap.size w w' :=
  h.mono fun _ _ ⟨a, b⟩ => ⟨a, b ▸ Below.refl _ _⟩
theorem len_snoc (P : List Int) (x : Int) : (((P ++ [x]).length : Nat) : Int) = (P.length : Int) + 1 := by simp
/-- The last track has been given its plot. -/
theorem last {sb tb n c m cq : Nat} {A C : Option Addr} {g : Int} {zs ps : List Int} (hq : akB zs n ps m g = true) (P : List Int) (w : World) (hl : P.length = n) (h : Sr sb tb n c m cq A C g zs ps w P) :
    Calls Tryd.prog 83 #[.pointer (some ⟨sb, 0, none⟩), .int .i64 (P.length : Int)] w fun e w' => ∃ v, e = .returned (.tuple #[v, .int .i64 (bst (pst zs ps) g m 0 P).2]) ∧ Ch w.heap.size w' v (bst (pst zs ps) g m 0 P).1 ∧ Below w.heap.size w w' := by
  have hg := (akB_yes hq).2.2.2
  have hm := (akB_yes hq).2.2.1
  have HR := Lib.hid (show (bst (pst zs ps) g m 0 P).2 = (frT P m : Int) * (g + 1) ∧ (bst (pst zs ps) g m 0 P).1 = [] from ⟨Int.mul_comm _ _, rfl⟩)
  have hin := mul_in hg (frT_le P m)
  have TC := Lib.hid (fun d0 os => Calls.regrown_of (to_below (countFree (Sort.grow (redrawn w d0) os) hm (h.next (below_regrown w d0 os)))))
  have TU := Lib.hid (fun w d0 os => Calls.regrown_of (to_below2 (asga.unpairedCost ((frT P m : Nat) : Int) g (Sort.grow (redrawn w d0) os) (by rw [Int.mul_comm]; omega) hg)))
  have f0 := h.f0
  have f2 := h.f2
  have g1 : ((P.length : Int) == (n : Int)) = true := by rw [hl]; simp
  generalize hPL : (P.length : Int) = pl at *
  generalize (bst (pst zs ps) g m 0 P) = R at *
  generalize ((frT P m : Nat) : Int) * (g + 1) = u at *
  generalize ((frT P m : Nat) : Int) = fr at *
  have HB := Lib.hid (Below.refl w.heap.size w)
  clear h hl hPL hq hin
  go_enter Tryd.func83, Tryd.ntmps83
  go_wp2_with fail
  have f0' := fun d0 os => cell_regrown f0 d0 os
  have f2' := fun d0 os => cell_regrown f2 d0 os
  clear f0 f2
  refine wp_region_quiet_below (by kernel_rfl) (by kernel_rfl) ?_
  repeat (
    with_reducible refine wpQuiet_step (fun K hK => ?_)
    go_simp
    first
      | (refine hK _ ?_; clear hK K)
      | (apply Exists.intro
         refine ⟨fun _ => ?_, hK _ ?_⟩
         (first
           | (go_at_call 104; with_reducible exact TC.out _ _)
           | (go_at_call 103; with_reducible exact TU.out _ _ _))
         clear hK K))
  with_reducible refine wpQuiet_nil ?_
  intro _ hw'
  obtain ⟨⟨dq, osq⟩, hw''⟩ := hw'
  subst hw''
  have hbl := (below_regrown w dq osq)
  clear f0' f2'
  generalize Sort.grow (redrawn w dq) osq = w3 at *
  go_wp2_with fail
  go_ret2
  exact ⟨.pointer none, by rw [HR.out.1]; rfl, by rw [HR.out.2]; rfl, hbl⟩

set_option maxRecDepth 100000 in
set_option maxHeartbeats 4000000 in
theorem cheapest {sb tb n c m cq : Nat} {A C : Option Addr} {g : Int} {zs ps : List Int} (hq : akB zs n ps m g = true) : ∀ (r : Nat) (P : List Int) (w : World), P.length + r = n → Sr sb tb n c m cq A C g zs ps w P →
    Calls Tryd.prog 83 #[.pointer (some ⟨sb, 0, none⟩), .int .i64 (P.length : Int)] w fun e w' => ∃ v, e = .returned (.tuple #[v, .int .i64 (bst (pst zs ps) g m r P).2]) ∧ Ch w.heap.size w' v (bst (pst zs ps) g m r P).1 ∧ Below w.heap.size w w' := by
  intro r
  induction r with
  | zero => intro P w hl h; exact last hq P w hl h
  | succ r ih =>
    intro P w hl h
    have hg := (akB_yes hq).2.2.2
    have hm := (akB_yes hq).2.2.1
    have hn6 := (tvB_yes (akB_yes hq).1).2
    have hi : P.length < n := by omega
    have hr6 : r ≤ 6 := by omega
    have IH1 := Lib.hid (fun (W : World) (h : Sr sb tb n c m cq A C g zs ps W P) => show Calls Tryd.prog 83 #[.pointer (some ⟨sb, 0, none⟩), .int .i64 ((P.length : Int) + 1)] W (fun e w' => ∃ v, e = .returned (.tuple #[v, .int .i64 (bst (pst zs ps) g m r (P ++ [-1])).2]) ∧ Ch W.heap.size w' v (bst (pst zs ps) g m r (P ++ [-1])).1 ∧ Below W.heap.size W w') from by
      have := ih (P ++ [-1]) W (by rw [List.length_append]; show P.length + 1 + r = n; omega) h.none
      rwa [len_snoc] at this)
    have IH2 := Lib.hid (fun (k : Nat) (W : World) (h : Sr sb tb n c m cq A C g zs ps W (P ++ [(k : Int)])) => show Calls Tryd.prog 83 #[.pointer (some ⟨sb, 0, none⟩), .int .i64 ((P.length : Int) + 1)] W (fun e w' => ∃ v, e = .returned (.tuple #[v, .int .i64 (bst (pst zs ps) g m r (P ++ [(k : Int)])).2]) ∧ Ch W.heap.size w' v (bst (pst zs ps) g m r (P ++ [(k : Int)])).1 ∧ Below W.heap.size W w') from by
      have := ih (P ++ [(k : Int)]) W (by rw [List.length_append]; show P.length + 1 + r = n; omega) h
      rwa [len_snoc] at this)
    have HBH := Lib.hid (fun (k : Nat) (hk : k < m) (hc : P.contains (k : Int) = false) (W : World) (h : Sr sb tb n c m cq A C g zs ps W P) => behind k (IH2.out k) W hk hc (by omega) h)
    have HIN := Lib.hid (fun (Q : List Int) => bst_in (m := m) (pst_nonneg zs ps) hg r Q)
    have HTD := Lib.hid (fun (k : Nat) (hk : k < m) => show 0 ≤ pst zs ps P.length k ∧ pst zs ps P.length k ≤ 19798 from asga.ds_pst zs ps P.length k ▸ asga.ds_in (ak_track hq hi) (ak_plot hq hk))
    have HT := Lib.hid (fun (k : Nat) (hk : k < m) (W : World) (d0 : Nat) (os : Array Obj) => Calls.regrown_of (show Calls Tryd.prog 105 #[.agg #[.int .i64 (fld 6 zs P.length 0), .int .i64 (fld 6 zs P.length 1), .int .i64 (fld 6 zs P.length 2), .int .i64 (fld 6 zs P.length 3), .int .i64 (fld 6 zs P.length 4), .int .i64 (fld 6 zs P.length 5)], .agg #[.int .i64 (fld 2 ps k 0), .int .i64 (fld 2 ps k 1)]] (Sort.grow (redrawn W d0) os) (fun e w' => e = .returned (.int .i64 (pst zs ps P.length k)) ∧ Below (Sort.grow (redrawn W d0) os).heap.size (Sort.grow (redrawn W d0) os) w') from asga.trackDistance (fld 6 zs P.length 0) (fld 6 zs P.length 1) (fld 6 zs P.length 2) (fld 6 zs P.length 3) (fld 6 zs P.length 4) (fld 6 zs P.length 5) (fld 2 ps k 0) (fld 2 ps k 1) (ak_track hq hi) (ak_plot hq hk) (Sort.grow (redrawn W d0) os)))
    obtain ⟨S, hS⟩ : ∃ S : Nat → List Int × Int, S = stp P (pst zs ps P.length) g (fun k => (bst (pst zs ps) g m r (P ++ [(k : Int)]))) (-1 :: (bst (pst zs ps) g m r (P ++ [-1])).1, (bst (pst zs ps) g m r (P ++ [-1])).2 + (g + 1)) := ⟨_, rfl⟩
    have HEND := (show (bst (pst zs ps) g m (r + 1) P) = S m by rw [hS]; rfl)
    have H0 := Lib.hid (show (S 0).1 = -1 :: (bst (pst zs ps) g m r (P ++ [-1])).1 ∧ (S 0).2 = (bst (pst zs ps) g m r (P ++ [-1])).2 + (g + 1) by rw [hS]; exact ⟨rfl, rfl⟩)
    have HSK := Lib.hid (fun (k : Nat) (h : P.contains (k : Int) = true ∨ g < pst zs ps P.length k) => show S (k + 1) = S k by rw [hS]; exact stp_skip h)
    have HTK := Lib.hid (fun (k : Nat) (h1 : P.contains (k : Int) = false) (h2 : pst zs ps P.length k ≤ g) (h3 : (bst (pst zs ps) g m r (P ++ [(k : Int)])).2 + pst zs ps P.length k < (S k).2) => show (S (k + 1)).1 = (k : Int) :: (bst (pst zs ps) g m r (P ++ [(k : Int)])).1 ∧ (S (k + 1)).2 = (bst (pst zs ps) g m r (P ++ [(k : Int)])).2 + pst zs ps P.length k by
      have := stp_take (q := fun k : Nat => (bst (pst zs ps) g m r (P ++ [(k : Int)]))) (a := (-1 :: (bst (pst zs ps) g m r (P ++ [-1])).1, (bst (pst zs ps) g m r (P ++ [-1])).2 + (g + 1))) h1 (show ¬ g < pst zs ps P.length k by omega) (by rw [← hS]; exact h3)
      rw [hS, this]; exact ⟨rfl, rfl⟩)
    have HKP := Lib.hid (fun (k : Nat) (h1 : P.contains (k : Int) = false) (h2 : pst zs ps P.length k ≤ g) (h3 : (S k).2 ≤ (bst (pst zs ps) g m r (P ++ [(k : Int)])).2 + pst zs ps P.length k) => show S (k + 1) = S k by
      have := stp_keep (q := fun k : Nat => (bst (pst zs ps) g m r (P ++ [(k : Int)]))) (a := (-1 :: (bst (pst zs ps) g m r (P ++ [-1])).1, (bst (pst zs ps) g m r (P ++ [-1])).2 + (g + 1))) h1 (show ¬ g < pst zs ps P.length k by omega) (by rw [← hS]; show ¬ (bst (pst zs ps) g m r (P ++ [(k : Int)])).2 + pst zs ps P.length k < (S k).2; omega)
      rw [hS]; exact this)
    rw [HEND]
    have HS := Lib.hid h
    have hin := HIN.out (P ++ [-1])
    have f0 := h.f0
    have HU := Lib.hid (fun W => show Calls Tryd.prog 103 #[.int .i64 1, .int .i64 g] W (fun e w' => e = .returned (.int .i64 (g + 1)) ∧ w' = W) from by
      have := asga.unpairedCost 1 g W (by omega) hg
      rwa [Int.one_mul] at this)
    have g1 : ((P.length : Int) == (n : Int)) = false := beq_eq_false_iff_ne.mpr (by omega)
    have e1 : IntKind.i64.wrap ((P.length : Int) + 1) = (P.length : Int) + 1 := IntWalk.i64_in _ (by omega)
    have e2 : IntKind.i64.wrap ((bst (pst zs ps) g m r (P ++ [-1])).2 + (g + 1)) = (bst (pst zs ps) g m r (P ++ [-1])).2 + (g + 1) := IntWalk.i64_in _ (by omega)
    have hpl0 : (0 : Int) ≤ (P.length : Int) := Int.natCast_nonneg _
    have hpln : (P.length : Int) < (n : Int) := by omega
    have HIP := Lib.hid hi
    clear h ih hq hl hS HEND IH2 hi
    generalize (bst (pst zs ps) g m r (P ++ [-1])) = R1 at *
    obtain ⟨xs1, c1⟩ := R1
    go_enter Tryd.func83, Tryd.ntmps83
    go_wp2_with fail
    refine (IH1.out w HS.out).mono ?_
    rintro e W1 ⟨v, rfl, hch, hb⟩
    obtain ⟨a1, rfl⟩ := Ch.ptr hch
    have HB1 := Lib.hid hb
    have HC1 := Lib.hid ((hch.cons hb.size (-1)))
    have HB2 := Lib.hid (hb.alloc hb.size (.cells #[.int .i64 (-1), .pointer a1] 123))
    have hsb := HS.out.s.2
    have f2 : W1.cell? ⟨sb, 2, none⟩ = some (.int .i64 g) := (hb.cell (p := ⟨sb, 2, none⟩) hsb).trans HS.out.f2
    have f2' : (W1.alloc (.cells #[.int .i64 (-1), .pointer a1] 123)).cell? ⟨sb, 2, none⟩ = some (.int .i64 g) := (HB2.out.cell (p := ⟨sb, 2, none⟩) hsb).trans HS.out.f2
    have f1' : (W1.alloc (.cells #[.int .i64 (-1), .pointer a1] 123)).cell? ⟨sb, 1, none⟩ = some (.slice C m cq) := (HB2.out.cell (p := ⟨sb, 1, none⟩) hsb).trans HS.out.f1
    clear hch hb f0 IH1
    go_wp2_with fail
    refine (HU.out _).mono ?_
    rintro e w' ⟨rfl, hw'⟩
    have f1'' := hw' ▸ f1'
    have HC2 := Lib.hid (show Ch w.heap.size w' (.pointer (some ⟨W1.heap.size, 0, none⟩)) (-1 :: xs1) from hw' ▸ HC1.out)
    have HB3 := Lib.hid (show Below w.heap.size w w' from hw' ▸ HB2.out)
    clear hw' f1' f2' HC1 HB2 HB1 f2
    go_wp2_with fail
    go_loopw [8, 9, 49] (fun b q j wr => ∃ k : Nat, k ≤ m ∧ j = .int .i64 k ∧ q = .int .i64 (S k).2 ∧ Ch w.heap.size wr b (S k).1 ∧ Below w.heap.size w wr) (fun _ _ j _ => m - (intOf j).toNat)
    case atStart => exact ⟨0, Nat.zero_le _, rfl, by rw [H0.out.2], by rw [H0.out.1]; exact HC2.out, HB3.out⟩
    case round =>
      obtain ⟨k, hk, rfl, rfl, hch, hb⟩ := hrel
      obtain ⟨ab, rfl⟩ := Ch.ptr hch
      have HCk := Lib.hid hch
      have HB := Lib.hid hb
      have HSr := Lib.hid (HS.out.next hb)
      clear hch hb HC2 HB3 f1''
      by_cases hlt : k < m
      · obtain ⟨b2, o2, rfl, l2, q0, q1⟩ := asga.cells2 (HSr.out.p) hlt
        have hlt2 : (k : Int) < (m : Int) := by omega
        have hk0 : (0 : Int) ≤ (k : Int) := Int.natCast_nonneg _
        have TDk := Lib.hid (HT.out k hlt)
        have hdd := HTD.out k hlt
        have HSKk := Lib.hid (HSK.out k)
        have HTKk := Lib.hid (HTK.out k)
        have HKPk := Lib.hid (HKP.out k)
        have HBHk := Lib.hid (HBH.out k hlt)
        have hin2 := HIN.out (P ++ [(k : Int)])
        have PB := Lib.hid (newS 63 #[.int .i64 (fld 2 ps k 0), .int .i64 (fld 2 ps k 1)] wr)
        generalize fld 2 ps k 0 = v0 at *
        generalize fld 2 ps k 1 = v1 at *
        go_upto_region 8 with fail
        clear q0 q1
        generalize wr.alloc (.cells #[.int .i64 v0, .int .i64 v1] 63) = V0 at *
        have HB4 := Lib.hid (HB.out.trans (PB.out.1.mono HB.out.size))
        have HC4 := Lib.hid (Ch.next PB.out.1 HCk.out)
        have HS4 := Lib.hid (HSr.out.next PB.out.1)
        have p0 : V0.cell? ⟨wr.heap.size, 0, none⟩ = some (.int .i64 v0) := PB.out.cell 0
        have p1 : V0.cell? ⟨wr.heap.size, 1, none⟩ = some (.int .i64 v1) := PB.out.cell 1
        obtain ⟨b1, o1, hA, -, a0, a1', a2, a3, a4, a5⟩ := cellsE HS4.out.z HIP.out
        have f0 : V0.cell? ⟨sb, 0, none⟩ = some (.slice (some ⟨b1, o1, none⟩) n c) := hA ▸ HS4.out.f0
        generalize fld 6 zs P.length 0 = u0 at *
        generalize fld 6 zs P.length 1 = u1 at *
        generalize fld 6 zs P.length 2 = u2 at *
        generalize fld 6 zs P.length 3 = u3 at *
        generalize fld 6 zs P.length 4 = u4 at *
        generalize fld 6 zs P.length 5 = u5 at *
        clear PB HB HCk HSr hA
        have f0' := fun d0 os => cell_regrown f0 d0 os
        have p0' := fun d0 os => cell_regrown p0 d0 os
        have p1' := fun d0 os => cell_regrown p1 d0 os
        have a0' := fun d0 os => cell_regrown a0 d0 os
        have a1q := fun d0 os => cell_regrown a1' d0 os
        have a2' := fun d0 os => cell_regrown a2 d0 os
        have a3' := fun d0 os => cell_regrown a3 d0 os
        have a4' := fun d0 os => cell_regrown a4 d0 os
        have a5' := fun d0 os => cell_regrown a5 d0 os
        clear f0 p0 p1 a0 a1' a2 a3 a4 a5
        refine wp_region_quiet_below (by kernel_rfl) (by kernel_rfl) ?_
        repeat (
          with_reducible refine wpQuiet_step (fun K hK => ?_)
          go_simp
          first
            | (refine hK _ ?_; clear hK K)
            | (apply Exists.intro
               refine ⟨fun _ => ?_, hK _ ?_⟩
               (first
                 | (go_at_call 105; with_reducible exact TDk.out _ _ _))
               clear hK K))
        with_reducible refine wpQuiet_nil ?_
        intro _ hw'
        obtain ⟨⟨dq, osq⟩, hw''⟩ := hw'
        subst hw''
        have hbl := (below_regrown V0 dq osq)
        clear f0' p0' p1' a0' a1q a2' a3' a4' a5'
        generalize Sort.grow (redrawn V0 dq) osq = V1 at *
        have HB5 := Lib.hid (HB4.out.trans (hbl.mono HB4.out.size))
        have HC5 := Lib.hid (Ch.next hbl HC4.out)
        have HS5 := Lib.hid (HS4.out.next hbl)
        have f3 := HS5.out.f3
        have f2 := HS5.out.f2
        have c0 := HS5.out.cell hlt
        clear hbl HB4 HC4 HS4 TDk
        generalize pst zs ps P.length k = dd at *
        cases hc : P.contains (k : Int)
        · rw [hc] at c0
          by_cases hd : g < dd
          · have HV := Lib.hid (HSKk.out (Or.inr hd))
            clear hc HSKk HTKk HKPk HBHk
            generalize S k = sk at *
            go_wp2_with fail
            go_roundw
            case rel => exact ⟨k + 1, by omega, by go_num, by rw [HV.out], by rw [HV.out]; exact HC5.out, HB5.out⟩
            case measure => simp [intOf]; omega
          · have hd2 : dd ≤ g := by omega
            have HBC := Lib.hid (HBHk.out hc V1 HS5.out)
            have HTC := Lib.hid (HTKk.out hc hd2)
            have HKC := Lib.hid (HKPk.out hc hd2)
            clear hc HSKk HTKk HKPk HBHk HTK HKP HBH
            generalize (bst (pst zs ps) g m r (P ++ [(k : Int)])) = R2 at *
            obtain ⟨xs2, c2⟩ := R2
            have e3 : IntKind.i64.wrap (c2 + dd) = c2 + dd := IntWalk.i64_in _ (by
              have h1 := hin2.1
              have h2 := hin2.2.1
              have h3 : (0 : Int) ≤ c2 := h1
              have h4 : c2 ≤ 1001 * ((r + m : Nat) : Int) := h2
              omega)
            go_wp2_with fail
            refine HBC.out.mono ?_
            rintro e V2 ⟨v2, rfl, hch, hb⟩
            obtain ⟨ac, rfl⟩ := Ch.ptr hch
            have HB6 := Lib.hid (HB5.out.trans (hb.mono HB5.out.size))
            have HC6 := Lib.hid (Ch.next hb HC5.out)
            have HN6 := Lib.hid ((hch.base HB5.out.size).cons HB6.out.size (k : Int))
            have HB7 := Lib.hid (HB6.out.alloc HB6.out.size (.cells #[.int .i64 (k : Int), .pointer ac] 123))
            clear hch hb f3 f2 c0 HB5 HC5 HBC
            by_cases hless : c2 + dd < (S k).2
            · have HV := Lib.hid (HTC.out hless)
              clear HTC HKC
              generalize S k = sk at *
              go_wp2_with fail
              go_roundw
              case rel => exact ⟨k + 1, by omega, by go_num, by rw [HV.out.2], by rw [HV.out.1]; exact HN6.out, HB7.out⟩
              case measure => simp [intOf]; omega
            · have HV := Lib.hid (HKC.out (by show (S k).2 ≤ c2 + dd; omega))
              clear HTC HKC
              generalize S k = sk at *
              go_wp2_with fail
              go_roundw
              case rel => exact ⟨k + 1, by omega, by go_num, by rw [HV.out], by rw [HV.out]; exact HC6.out, HB6.out⟩
              case measure => simp [intOf]; omega
        · rw [hc] at c0
          have HV := Lib.hid (HSKk.out (Or.inl hc))
          clear hc HSKk HTKk HKPk HBHk
          generalize S k = sk at *
          go_wp2_with fail
          go_roundw
          case rel => exact ⟨k + 1, by omega, by go_num, by rw [HV.out], by rw [HV.out]; exact HC5.out, HB5.out⟩
          case measure => simp [intOf]; omega
      · obtain rfl : k = m := by omega
        go_wp2_with fail
        go_ret2
        exact ⟨_, rfl, HCk.out, HB.out⟩
end Go.Proofs.YtedocpocfpopgaaDoor.asgh

/- impl's BestAssignment. -/
namespace Go.Proofs.YtedocpocfpopgaaDoor.asgi
open Go.RowKit Go.Proofs.YtedocpocfpopgaaDoor.ints Go.Proofs.YtedocpocfpopgaaDoor.lst Go.Proofs.YtedocpocfpopgaaDoor.in_ Go.Proofs.YtedocpocfpopgaaDoor.ats Go.Proofs.YtedocpocfpopgaaDoor.pos Go.Proofs.YtedocpocfpopgaaDoor.trk Go.Proofs.YtedocpocfpopgaaDoor.trkm Go.Proofs.YtedocpocfpopgaaDoor.trke Go.Proofs.YtedocpocfpopgaaDoor.intc Go.Proofs.YtedocpocfpopgaaDoor.asg Go.Proofs.YtedocpocfpopgaaDoor.asgb Go.Proofs.YtedocpocfpopgaaDoor.asge Go.Proofs.YtedocpocfpopgaaDoor.rws

theorem infoB : (Tryd.prog.info? 4).map (fun i => (i.zero, i.size, i.bytes)) = some (some (.bool false), 1, 1) := by kernel_rfl
theorem made_tk (m : Nat) : madeCells (Value.cells (.bool false)) (m * 1) = tkC [] m := by
  refine Array.ext_getElem? fun j => ?_
  by_cases h : j < m
  · rw [tk_at h]
    rw [Array.getElem?_eq_getElem (by simp [madeCells]; omega)]
    simp [madeCells, Value.cells, Nat.mod_one]
  · rw [Array.getElem?_eq_none (by simp [madeCells]; omega), Array.getElem?_eq_none (by rw [tk_size]; omega)]
theorem Ch.grown {B B0 q : Nat} {w w' : World} {u : Value} {ys : List Value} (ho : w.ownsRow B0 3 1 u q ys) (hg : w.grownBy w' u.ownBlock) : ∀ {xs : List Int} {v : Value}, Ch B w v xs → Ch B w' v xs
  | [], _, h => h
  | _ :: _, _, ⟨b, v', e, hB, hh, ht⟩ => ⟨b, v', e, hB, (hg.block b (blk_lt hh) (fun e2 => by
      rcases ho.2 with ⟨rfl, _⟩ | ⟨g, cap, cur, rfl, _, hh', _⟩
      · simp [Value.ownBlock] at e2
      · have e3 : b = g := by simpa [Value.ownBlock] using e2
        subst e3
        have h2 : Obj.cells cur 3 (0, 0) = Obj.cells _ 123 (0, 0) := Option.some.inj (hh'.symm.trans hh)
        injection h2 with _ h3
        exact absurd h3 (by decide))).trans hh, Ch.grown ho hg ht⟩
theorem ptr_inj {a b : Nat} (h : Value.pointer (some ⟨a, 0, none⟩) = .pointer (some ⟨b, 0, none⟩)) : a = b := by injection h with e1; injection e1 with e2; injection e2
theorem app_one (a : List Int) (x : Int) (t : List Int) : a ++ x :: t = (a ++ [x]) ++ t := by simp

set_option maxRecDepth 100000 in
set_option maxHeartbeats 4000000 in
theorem bestAssignment (zs ps : List Int) (g : Int) (A C : Option Addr) (n c m cq : Nat) (w : World) (hn : n ≤ 1048577) (hm : m ≤ 1048577) (h1 : RdZ 6 w w.heap.size A n zs) (h2 : RdZ 2 w w.heap.size C m ps) :
    Calls Tryd.prog 40 #[.slice A n c, .slice C m cq, .int .i64 g] w fun e w' => ∃ v, e = .returned (.tuple #[v, .int .i64 (beC zs n ps m g), .bool (akB zs n ps m g)]) ∧ w'.ownsRow w.heap.size 3 1 v (beV zs n ps m g).length (cellsI (beV zs n ps m g)) ∧ Below w.heap.size w w' := by
  obtain ⟨iI, hiI, hzI0, hzI1, hzI2⟩ := info_parts infoI
  obtain ⟨ib, hib, hb0, hb1, hb2⟩ := info_parts infoB
  have H1 := Lib.hid (asga.canAssign zs ps g A C n c m cq w hn hm h1 h2)
  cases hq : akB zs n ps m g
  · have HE := Lib.hid (be_no hq)
    rw [hq] at H1
    clear hq h1 h2
    go_enter Tryd.func40, Tryd.ntmps40
    go_wp2_with fail
    refine H1.out.mono ?_
    rintro e w1 ⟨rfl, hb⟩
    have HB := Lib.hid hb
    clear hb
    go_wp2_with fail
    go_ret3
    exact ⟨_, by rw [HE.out.2]; rfl, by rw [HE.out.1]; exact World.ownsRow_nil .., HB.out⟩
  rw [hq] at H1
  have HE := Lib.hid (be_yes hq)
  have hm5 := (akB_yes hq).2.2.1
  have hn6 := (tvB_yes (akB_yes hq).1).2
  have HLEN := Lib.hid (show ((bst (pst zs ps) g m n []).1).length ≤ 6 by
    rw [(bst_in (pst_nonneg zs ps) (akB_yes hq).2.2.2 n []).2.2]; exact hn6)
  have MB : ∀ W : World, (Instr.makeSlice 116 (.int .i64 (m : Int)) (.int .i64 (m : Int))).run Tryd.prog W = .ok (.slice (some ⟨W.heap.size, 0, none⟩) m m) (W.alloc (.cells (tkC [] m) 4)) := fun W => by
    have := run_makeSlice (P := Tryd.prog) W 116 4 ib (.bool false) Tryd.underlying116 hib hb0 .i64 .i64 (m : Int) (m : Int) (by omega) (Int.le_refl _) (by rw [hb1]; omega) (by rw [hb2]; omega) (by omega)
    rw [Int.toNat_natCast, hb1, made_tk] at this
    exact this
  have HBST := Lib.hid (fun (sb tb : Nat) (W : World) (h : Sr sb tb n c m cq A C g zs ps W []) => show Calls Tryd.prog 83 #[.pointer (some ⟨sb, 0, none⟩), .int .i64 0] W (fun e w' => ∃ v, e = .returned (.tuple #[v, .int .i64 (bst (pst zs ps) g m n []).2]) ∧ Ch W.heap.size w' v (bst (pst zs ps) g m n []).1 ∧ Below W.heap.size W w') from asgh.cheapest hq n [] W (Nat.zero_add n) h)
  have HR1 := Lib.hid h1
  have HR2 := Lib.hid h2
  have HZ := Lib.hid (fun (w1 : World) (hb : Below w.heap.size w w1) => show Sr (w1.heap.size + 1) w1.heap.size n c m cq A C g zs ps ((w1.alloc (.cells (tkC [] m) 4)).alloc (.cells #[.slice A n c, .slice C m cq, .int .i64 g, .slice (some ⟨w1.heap.size, 0, none⟩) m m] 118)) [] from by
    have S1 := (newS 4 (tkC [] m) w1).next 118 #[.slice A n c, .slice C m cq, .int .i64 g, .slice (some ⟨w1.heap.size, 0, none⟩) m m]
    have S0 := (newS 4 (tkC [] m) w1).alloc (.cells #[.slice A n c, .slice C m cq, .int .i64 g, .slice (some ⟨w1.heap.size, 0, none⟩) m m] 118)
    rw [World.size_alloc] at S1
    have hbb := hb.trans (S1.1.mono hb.size)
    exact ⟨⟨Nat.lt_succ_self _, S1.2.2.1⟩, S1.cell 0, S1.cell 1, S1.cell 2, S1.cell 3, S0.2.2.2, intc.RdZ.more (h1.below hbb (Nat.le_refl _)) hb.size, intc.RdZ.more (h2.below hbb (Nat.le_refl _)) hb.size⟩)
  rw [HE.out.1, HE.out.2]
  generalize bst (pst zs ps) g m n [] = R at *
  obtain ⟨xs, cs⟩ := R
  clear hq h1 h2 hib hb0 hb1 hb2 HE
  go_enter Tryd.func40, Tryd.ntmps40
  go_wp2_with fail
  refine H1.out.mono ?_
  rintro e w1 ⟨rfl, hb⟩
  have HB1 := Lib.hid hb
  have HS := Lib.hid (HZ.out w1 hb)
  have HB2 := Lib.hid ((hb.alloc hb.size (.cells (tkC [] m) 4)).alloc (by rw [World.size_alloc]; have := hb.size; omega) (.cells #[.slice A n c, .slice C m cq, .int .i64 g, .slice (some ⟨w1.heap.size, 0, none⟩) m m] 118))
  have HBSTs := Lib.hid (HBST.out _ _ _ HS.out)
  clear hb HZ H1 HBST HS
  go_wp2_with fail
  refine HBSTs.out.mono ?_
  rintro e W3 ⟨v, rfl, hch, hb⟩
  obtain ⟨a1, rfl⟩ := Ch.ptr hch
  have HC3 := Lib.hid (hch.base HB2.out.size)
  have HB3 := Lib.hid (HB2.out.trans (hb.mono HB2.out.size))
  clear hch hb HBSTs HB2 HB1
  go_wp2_with fail
  go_loopw [12, 13] (fun v q wr => ∃ ys t, xs = ys ++ t ∧ wr.ownsRow w.heap.size 3 1 v ys.length (cellsI ys) ∧ Ch w.heap.size wr q t ∧ Below w.heap.size w wr ∧ t.length = xs.length - ys.length) (fun v _ _ => 6 - (match v with | .slice _ q _ => q | _ => 0))
  case atStart => exact ⟨[], xs, rfl, World.ownsRow_nil .., HC3.out, HB3.out, rfl⟩
  case round =>
    obtain ⟨ys, t, hxs, hO, hch, hb, htl⟩ := hrel
    obtain ⟨A5, c5, rfl⟩ := own_sliceZ hO
    have HO := Lib.hid hO
    have HB := Lib.hid hb
    have HXS := Lib.hid hxs
    have hlen6 := HLEN.out
    cases t with
    | nil =>
      obtain rfl : _ = Value.pointer none := hch
      rw [List.append_nil] at hxs
      have HX := Lib.hid hxs
      clear hO hb hxs htl
      go_wp2_with fail
      go_ret3
      exact ⟨_, rfl, by show _; rw [HX.out]; exact HO.out, HB.out⟩
    | cons x t =>
      obtain ⟨b, v', rfl, hB, hh, hch⟩ := hch
      have c0 : wr.cell? ⟨b, 0, none⟩ = some (.int .i64 x) := cell_of_row _ _ 0 _ _ (0, 0) hh
      have c1 : wr.cell? ⟨b, 1, none⟩ = some v' := cell_of_row _ _ 1 _ _ (0, 0) hh
      have HCH := Lib.hid hch
      have HH := Lib.hid hh
      have hys : ys.length < 6 := by
        have h6 : xs.length ≤ 6 := hlen6
        rw [hxs, List.length_append, List.length_cons] at h6
        omega
      have O5 := Lib.hid (hO.alloc (.cells #[.int .i64 x] 3))
      have B5 := Lib.hid (hb.alloc hb.size (.cells #[.int .i64 x] 3))
      have C5 := Lib.hid (Ch.next (w' := wr.alloc (.cells #[.int .i64 x] 3)) ((Below.refl _ _).alloc (Nat.le_refl _) _) hch)
      have C6 := Lib.hid (show Ch w.heap.size (wr.alloc (.cells #[.int .i64 x] 3)) (.pointer (some ⟨b, 0, none⟩)) (x :: t) from Ch.next (w' := wr.alloc (.cells #[.int .i64 x] 3)) ((Below.refl _ _).alloc (Nat.le_refl _) _) (show Ch w.heap.size wr (.pointer (some ⟨b, 0, none⟩)) (x :: t) from ⟨b, v', rfl, hB, hh, hch⟩))
      have hbs := hb.size
      obtain ⟨av, rfl⟩ := Ch.ptr hch
      clear hO hb hxs htl hch hh hlen6 c1
      go_wp2_with (at_builtin; refine wpList_append_any rfl (.tmp 37) (.tmp 42) 45 rfl w.heap.size 3 iI (.int .i64 0) 1 8 Tryd.underlying45 hiI hzI0 hzI1 hzI2 rfl (by decide) _ ys.length (cellsI ys) rfl O5.out ⟨wr.heap.size, 0, none⟩ 1 1 [.int .i64 x] rfl rfl (cell_one_new _ _ _) (own_.one_cell _ rfl) (by unfold maxLen; omega) (by omega) (by rw [World.size_alloc]; omega) ?_; intro v6 w6 o6 g6 n6; obtain ⟨A6, c6, rfl⟩ := own_sliceZ o6; have O6 := Lib.hid (show w6.ownsRow w.heap.size 3 1 (.slice A6 (ys.length + 1) c6) (ys ++ [x]).length (cellsI (ys ++ [x])) from own_growI o6); have B6 := Lib.hid (B5.out.grown g6 B5.out.size (own_.row_ge O5.out)); obtain ⟨b', v'', eb, hB', hh', hch'⟩ := Ch.grown O5.out g6 C6.out; obtain rfl : b = b' := ptr_inj eb; have c1 : w6.cell? ⟨b, 1, none⟩ = some v'' := cell_of_row _ _ 1 _ _ (0, 0) hh'; have HCN := Lib.hid hch'; obtain ⟨aw, rfl⟩ := Ch.ptr hch'; clear eb hh' hch' hB' o6 g6 n6 O5 B5 C5 C6 c0 HCH HH)
      have HX := Lib.hid (HXS.out.trans (app_one ys x t))
      go_wp2_with fail
      go_roundw
      case rel => exact ⟨ys ++ [x], t, HX.out, O6.out, HCN.out, B6.out, by have := congrArg List.length HX.out; simp only [List.length_append, List.length_cons, List.length_nil] at this ⊢; omega⟩
      case measure => simp; omega
end Go.Proofs.YtedocpocfpopgaaDoor.asgi

/- impl's hitsOf. -/
namespace Go.Proofs.YtedocpocfpopgaaDoor.asgl
open Go.RowKit Go.Proofs.YtedocpocfpopgaaDoor.ints Go.Proofs.YtedocpocfpopgaaDoor.lst Go.Proofs.YtedocpocfpopgaaDoor.in_ Go.Proofs.YtedocpocfpopgaaDoor.ats Go.Proofs.YtedocpocfpopgaaDoor.pos Go.Proofs.YtedocpocfpopgaaDoor.trk Go.Proofs.YtedocpocfpopgaaDoor.trkm Go.Proofs.YtedocpocfpopgaaDoor.trke Go.Proofs.YtedocpocfpopgaaDoor.intc Go.Proofs.YtedocpocfpopgaaDoor.asg Go.Proofs.YtedocpocfpopgaaDoor.asgb Go.Proofs.YtedocpocfpopgaaDoor.asgk Go.Proofs.YtedocpocfpopgaaDoor.tailh

/-- The Ids and the places of the hits: two rows of the call's own, of two types. -/
def Hits (B : Nat) (W : World) (v8 : Value) (n : Nat) (ids : List Int) (v9 : Value) (m : Nat) (pls : List Int) : Prop :=
  W.ownsRow B 3 1 v8 n (cellsI ids) ∧ W.ownsRow B 63 2 v9 m (cellsI pls)
section
variable {B : Nat} {W W' : World} {v8 v9 v' : Value} {n m : Nat} {ids pls : List Int} {d x y : Int}
theorem Hits.below (h : Hits B W v8 n ids v9 m pls) (hb : Below W.heap.size W W') : Hits B W' v8 n ids v9 m pls := ⟨own_.own_below h.1 hb, own_.own_below h.2 hb⟩
theorem Hits.left (h : Hits B W v8 n ids v9 m pls) (hg : W.grownBy W' v8.ownBlock) (ho : W'.ownsRow B 3 1 v' (n + 1) (cellsI ids ++ [.int .i64 d])) : Hits B W' v' (n + 1) (ids ++ [d]) v9 m pls :=
  ⟨by unfold cellsI at ho ⊢; rw [List.map_append]; exact ho, rws.kept_row h.2 h.1 (by decide) hg⟩
theorem Hits.right (h : Hits B W v8 n ids v9 m pls) (hg : W.grownBy W' v9.ownBlock) (ho : W'.ownsRow B 63 2 v' (m + 1) (cellsI pls ++ [.int .i64 x, .int .i64 y])) : Hits B W' v8 n ids v' (m + 1) (pls ++ [x, y]) :=
  ⟨rws.kept_row h.1 h.2 (by decide) hg, by unfold cellsI at ho ⊢; rw [List.map_append]; exact ho⟩
end
theorem own_cap {w : World} {B e s n c : Nat} {A : Option Addr} {xs : List Value} (h : w.ownsRow B e s (.slice A n c) n xs) : n ≤ c := by
  rcases h.2 with ⟨e1, _⟩ | ⟨g, cap, cur, e1, _, _, h1, _⟩
  · injection e1 with _ h2 h3; omega
  · injection e1 with _ h2 h3; omega
set_option maxRecDepth 100000 in
set_option maxHeartbeats 16000000 in
theorem hitsOf {g : Int} (zs ps xs : List Int) (A C E : Option Addr) (n c m cq e0 ce : Nat) (w : World) (he0 : e0 ≤ 6) (hpr : prB (pst zs ps) g m xs e0 = true) (hen : e0 ≤ n) (h1 : RdZ 6 w w.heap.size A n zs) (h2 : RdZ 2 w w.heap.size C m ps) (h3 : RdI w w.heap.size E e0 xs) :
    Calls Tryd.prog 41 #[.slice A n c, .slice C m cq, .slice E e0 ce] w fun e w' => ∃ v8 v9, e = .returned (.tuple #[v8, v9]) ∧ Hits w.heap.size w' v8 (idT zs xs e0).length (idT zs xs e0) v9 (idT zs xs e0).length (plL ps xs e0) ∧ Below w.heap.size w w' := by
  obtain ⟨iI, hiI, hzI0, hzI1, hzI2⟩ := info_parts infoI
  obtain ⟨iP, hiP, hzP0, hzP1, hzP2⟩ := info_parts infoP
  have HPR := Lib.hid hpr
  have HR1 := Lib.hid h1
  have HR2 := Lib.hid h2
  have HR3 := Lib.hid h3
  clear h1 h2 h3 hpr
  go_enter Tryd.func41, Tryd.ntmps41
  go_wp2_with fail
  go_loopw [8, 9, 14] (fun u8 u9 j wr => ∃ i : Nat, i ≤ e0 ∧ j = .int .i64 i ∧ Hits w.heap.size wr u8 (idT zs xs i).length (idT zs xs i) u9 (idT zs xs i).length (plL ps xs i) ∧ Below w.heap.size w wr) (fun _ _ j _ => e0 - (intOf j).toNat)
  case atStart => exact ⟨0, Nat.zero_le _, rfl, ⟨World.ownsRow_nil .., World.ownsRow_nil ..⟩, Below.refl _ _⟩
  case round =>
    obtain ⟨i, hi, rfl, hT, hb⟩ := hrel
    have HT := Lib.hid hT
    have HB := Lib.hid hb
    by_cases hlt : i < e0
    · obtain ⟨b3, o3, z, rfl, l3, hx, p0⟩ := (HR3.out.next hb).at_ hlt
      have hlt2 : (i : Int) < (e0 : Int) := by omega
      have hi0 : (0 : Int) ≤ (i : Int) := Int.natCast_nonneg _
      have HGX := Lib.hid (getD_some hx)
      have HOX := Lib.hid (prB_at HPR.out hlt)
      have hin : i < n := by omega
      have hin2 : (i : Int) < (n : Int) := by omega
      have hle := idT_le zs xs i
      clear hx hb hT
      rcases pairOk_yes HOX.out with hx1 | ⟨a, ha5, hx1, _, _⟩
      · rw [HGX.out] at hx1
        have HX := Lib.hid (hit_no (zs := zs) (ps := ps) (show xs.getD i 0 = -1 by rw [HGX.out, hx1]))
        have g1 : (z != -1) = false := by rw [hx1]; rfl
        clear hx1 HGX HOX
        go_wp2_with fail
        go_roundw
        case rel => exact ⟨i + 1, by omega, by go_num, by rw [HX.out.1, HX.out.2]; exact HT.out, HB.out⟩
        case measure => simp [intOf]; omega
      · rw [HGX.out] at hx1
        subst hx1
        have HX0 := Lib.hid (hit_yes (zs := zs) (ps := ps) HGX.out)
        have ha0 : (0 : Int) ≤ (a : Int) := Int.natCast_nonneg _
        have ham : (a : Int) < (m : Int) := by omega
        have g1 : ((a : Int) != -1) = true := bne_iff_ne.mpr (by omega)
        obtain ⟨b1, o1, rfl, l1, a0, -⟩ := cellsE (HR1.out.next HB.out) hin
        obtain ⟨b2, o2, rfl, l2, q0, q1⟩ := asga.cells2 (HR2.out.next HB.out) ha5
        have C0 := Lib.hid (fun (W : World) (hb : Below w.heap.size w W) => show W.cell? ⟨b1, o1 + i * 6, none⟩ = some (.int .i64 (fld 6 zs i 0)) from by
          obtain ⟨b1', o1', e, -, a0, -⟩ := cellsE (HR1.out.next hb) hin
          obtain ⟨rfl, rfl⟩ : b1 = b1' ∧ o1 = o1' := by injection e with e; injection e with e1 e2; exact ⟨e1, e2⟩
          exact a0)
        have CC := Lib.hid (fun (W : World) (hb : Below w.heap.size w W) => show W.cell? ⟨b2, o2 + a * 2, none⟩ = some (.int .i64 (fld 2 ps a 0)) ∧ W.cell? ⟨b2, o2 + a * 2 + 1, none⟩ = some (.int .i64 (fld 2 ps a 1)) from by
          obtain ⟨b2', o2', e, -, q0, q1⟩ := asga.cells2 (HR2.out.next hb) ha5
          obtain ⟨rfl, rfl⟩ : b2 = b2' ∧ o2 = o2' := by injection e with e; injection e with e1 e2; exact ⟨e1, e2⟩
          exact ⟨q0, q1⟩)
        have C1 := Lib.hid (fun (W : World) (hb : Below w.heap.size w W) => (CC.out W hb).1)
        have C2 := Lib.hid (fun (W : World) (hb : Below w.heap.size w W) => (CC.out W hb).2)
        have HX := Lib.hid (show (idT zs xs (i + 1)) = idT zs xs i ++ [fld 6 zs i 0] ∧ plL ps xs (i + 1) = plL ps xs i ++ [fld 2 ps a 0, fld 2 ps a 1] from HX0.out)
        clear HGX HOX a0 q0 q1 HX0 CC
        generalize fld 6 zs i 0 = d at *
        generalize fld 2 ps a 0 = x at *
        generalize fld 2 ps a 1 = y at *
        generalize idT zs xs i = ids at *
        generalize plL ps xs i = pls at *
        go_upto_region 7 with fail
        clear p0
        have T0 := Lib.hid (HT.out.below (Below.refl _ _).drew)
        have B0 := Lib.hid (HB.out.drew)
        generalize hq : ids.length = q at *
        have HQ := Lib.hid hq
        clear hq
        refine wp_region_tail (S := fun w' => Below w.heap.size w w') 16 (by kernel_rfl) B0.out (fun hHeld => ?_)
        generalize wr.drew = W0 at *
        try simp only [Act.put]
        refine wpAnyE_take (i := 0) (v := ?vq0) rfl (by decide +kernel) (fun _ _ _ h => h) (Or.inl ⟨by rfl, ?hq0⟩) (by assumption) ?rq0
        case hq0 =>
          intro wS hSw
          have h0 := C0.out wS hSw
          have h1 := C1.out wS hSw
          have h2 := C2.out wS hSw
          go_simp
          try with_reducible rfl
        try simp only [Act.put]
        refine wpAnyE_take (i := 1) (v := ?vq1) rfl (by decide +kernel) (fun _ _ _ h => h) (Or.inl ⟨by rfl, ?hq1⟩) (by assumption) ?rq1
        case hq1 =>
          intro wS hSw
          have h0 := C0.out wS hSw
          have h1 := C1.out wS hSw
          have h2 := C2.out wS hSw
          go_simp
          try with_reducible rfl
        try simp only [Act.put]
        refine wpAnyE_take (i := 2) (v := ?vq2) rfl (by decide +kernel) (fun _ _ _ h => h) (Or.inl ⟨by rfl, ?hq2⟩) (by assumption) ?rq2
        case hq2 =>
          intro wS hSw
          have h0 := C0.out wS hSw
          have h1 := C1.out wS hSw
          have h2 := C2.out wS hSw
          go_simp
          try with_reducible rfl
        try simp only [Act.put]
        refine wpAnyE_take (i := 3) (v := ?vq3) rfl (by decide +kernel) (fun _ _ _ h => h) (Or.inl ⟨by rfl, ?hq3⟩) (by assumption) ?rq3
        case hq3 =>
          intro wS hSw
          have h0 := C0.out wS hSw
          have h1 := C1.out wS hSw
          have h2 := C2.out wS hSw
          go_simp
          try with_reducible rfl
        try simp only [Act.put]
        refine wpAnyE_take (i := 4) (v := ?vq4) rfl (by decide +kernel) (fun _ _ _ h => h) (Or.inl ⟨by rfl, ?hq4⟩) (by assumption) ?rq4
        case hq4 =>
          intro wS hSw
          have h0 := C0.out wS hSw
          have h1 := C1.out wS hSw
          have h2 := C2.out wS hSw
          go_simp
          try with_reducible rfl
        try simp only [Act.put]
        refine wpAnyE_take (i := 5) (v := ?vq5) rfl (by decide +kernel) (fun _ _ _ h => h) (Or.inl ⟨by rfl, ?hq5⟩) (by assumption) ?rq5
        case hq5 =>
          intro wS hSw
          have h0 := C0.out wS hSw
          have h1 := C1.out wS hSw
          have h2 := C2.out wS hSw
          go_simp
          try with_reducible rfl
        try simp only [Act.put]
        refine wpAnyE_take (i := 8) (v := ?vq8) rfl (by decide +kernel) (fun _ _ _ h => h) (Or.inl ⟨by rfl, ?hq8⟩) (by assumption) ?rq8
        case hq8 =>
          intro wS hSw
          have h0 := C0.out wS hSw
          have h1 := C1.out wS hSw
          have h2 := C2.out wS hSw
          go_simp
          try with_reducible rfl
        try simp only [Act.put]
        refine wpAnyE_take (i := 9) (v := ?vq9) rfl (by decide +kernel) (fun _ _ _ h => h) (Or.inl ⟨by rfl, ?hq9⟩) (by assumption) ?rq9
        case hq9 =>
          intro wS hSw
          have h0 := C0.out wS hSw
          have h1 := C1.out wS hSw
          have h2 := C2.out wS hSw
          go_simp
          try with_reducible rfl
        try simp only [Act.put]
        refine wpAnyE_take (i := 10) (v := ?vq10) rfl (by decide +kernel) (fun _ _ _ h => h) (Or.inl ⟨by rfl, ?hq10⟩) (by assumption) ?rq10
        case hq10 =>
          intro wS hSw
          have h0 := C0.out wS hSw
          have h1 := C1.out wS hSw
          have h2 := C2.out wS hSw
          go_simp
          try with_reducible rfl
        try simp only [Act.put]
        refine wpAnyE_take (i := 11) (v := ?vq11) rfl (by decide +kernel) (fun _ _ _ h => h) (Or.inl ⟨by rfl, ?hq11⟩) (by assumption) ?rq11
        case hq11 =>
          intro wS hSw
          have h0 := C0.out wS hSw
          have h1 := C1.out wS hSw
          have h2 := C2.out wS hSw
          go_simp
          try with_reducible rfl
        try simp only [Act.put]
        refine wpAnyE_take (i := 12) (v := ?vq12) rfl (by decide +kernel) (fun _ _ _ h => h) (Or.inl ⟨by rfl, ?hq12⟩) (by assumption) ?rq12
        case hq12 =>
          intro wS hSw
          have h0 := C0.out wS hSw
          have h1 := C1.out wS hSw
          have h2 := C2.out wS hSw
          go_simp
          try with_reducible rfl
        try simp only [Act.put]
        refine wpAnyE_ready (rs := [6, 13]) (by kernel_rfl) (by simp) ?_
        refine AllReadyE.cons (i := 6) rfl (by decide) (fun K hK => ?_) (AllReadyE.cons (i := 13) rfl (by decide) (fun K hK => ?_) AllReadyE.nil)
        · go_simp
          have A2 := (Below.refl W0.heap.size W0).alloc (Nat.le_refl _) (.cells #[.int .i64 d] 3)
          have T3 := Lib.hid (T0.out.below A2)
          have B4 := Lib.hid (B0.out.trans (A2.mono B0.out.size))
          have P5 := Lib.hid (cell_one_new W0 (.int .i64 d) 3)
          have M6 := Lib.hid (show u9.ownBlock ≠ some W0.heap.size from fun e => by have := own_row_lt T0.out.2 _ e; omega)
          refine hK.out _ _ B4.out (fun hHeld => ?_)
          clear hK K A2
          try simp only [Act.put]
          generalize W0.alloc (.cells #[.int .i64 d] 3) = W1 at *
          refine wpAnyE_ready (rs := [7, 13]) (by kernel_rfl) (by simp) ?_
          refine AllReadyE.cons (i := 7) rfl (by decide) (fun K hK => ?_) (AllReadyE.cons (i := 13) rfl (by decide) (fun K hK => ?_) AllReadyE.nil)
          · refine step_append_sz rfl (.tmp 21) (.tmp 27) 45 rfl w.heap.size 3 iI (.int .i64 0) 1 8 Tryd.underlying45 hiI hzI0 hzI1 hzI2 rfl (by decide) u8 q (cellsI ids) rfl T3.out.1 ⟨W0.heap.size, 0, none⟩ 1 1 [.int .i64 d] rfl rfl P5.out (own_.one_cell _ rfl) (by unfold maxLen; omega) (by omega) B4.out.size ?_
            intro v13 W7 o10 g11 r12
            have T8 := Lib.hid (T3.out.left g11 o10)
            have B9 := Lib.hid (B4.out.grown g11 B4.out.size (own_.row_ge T3.out.1))
            clear g11 o10 r12
            refine hK.out _ _ B9.out (fun hHeld => ?_)
            clear hK K
            try simp only [Act.put]
            refine wpAnyE_ready (rs := [13]) (by kernel_rfl) (by simp) ?_
            refine AllReadyE.cons (i := 13) rfl (by decide) (fun K hK => ?_) AllReadyE.nil
            go_simp
            have A15 := (Below.refl W7.heap.size W7).alloc (Nat.le_refl _) (.cells #[.int .i64 x, .int .i64 y] 63)
            have T16 := Lib.hid (T8.out.below A15)
            have B17 := Lib.hid (B9.out.trans (A15.mono B9.out.size))
            have P18 := Lib.hid (cells_new W7 63 #[.int .i64 x, .int .i64 y])
            have M19 := Lib.hid (show v13.ownBlock ≠ some W7.heap.size from fun e => by have := own_row_lt T8.out.1 _ e; omega)
            refine hK.out _ _ B17.out (fun hHeld => ?_)
            clear hK K A15
            try simp only [Act.put]
            generalize W7.alloc (.cells #[.int .i64 x, .int .i64 y] 63) = W14 at *
            refine wpAnyE_ready (rs := [14]) (by kernel_rfl) (by simp) ?_
            refine AllReadyE.cons (i := 14) rfl (by decide) (fun K hK => ?_) AllReadyE.nil
            refine step_append_sz rfl (.tmp 29) (.tmp 34) 30 rfl w.heap.size 63 iP (.agg #[.int .i64 0, .int .i64 0]) 2 16 Tryd.underlying30 hiP hzP0 hzP1 hzP2 rfl (by decide) u9 q (cellsI pls) rfl T16.out.2 ⟨W7.heap.size, 0, none⟩ 1 1 [.int .i64 x, .int .i64 y] rfl rfl P18.out (two_cells x y) (by unfold maxLen; omega) (by omega) B17.out.size ?_
            intro v26 W20 o23 g24 r25
            have T21 := Lib.hid (T16.out.right g24 o23)
            have B22 := Lib.hid (B17.out.grown g24 B17.out.size (own_.row_ge T16.out.2))
            clear g24 o23 r25
            refine hK.out _ _ B22.out (fun hHeld => ?_)
            clear hK K
            try simp only [Act.put]
            refine wpAnyE_ready (rs := [15]) (by kernel_rfl) (by simp) ?_
            refine AllReadyE.cons (i := 15) rfl (by decide) (fun K hK => ?_) AllReadyE.nil
            go_simp
            refine hK.out _ _ B22.out (fun hHeld => ?_)
            clear hK K
            try simp only [Act.put]
            refine wpAnyE_ready (rs := [16]) (by kernel_rfl) (by simp) ?_
            refine AllReadyE.last (i := 16) rfl rfl (fun K hK => ?_)
            go_simp
            refine hK.out _ _ ?_
            clear hK K
            try simp only [Act.put]
            refine wpAnyE_done (by kernel_rfl) ?_ _
            try simp only [List.getElem_toArray, List.getElem_cons_succ, List.getElem_cons_zero, List.setIfInBounds_toArray, List.set_cons_succ, List.set_cons_zero]
            go_wp2_with fail
            go_roundw
            case rel => exact ⟨i + 1, by omega, by go_num, by rw [HX.out.1, HX.out.2, List.length_append, HQ.out]; exact T21.out, B22.out⟩
            case measure => simp [intOf]; omega
          · go_simp
            have A28 := (Below.refl W1.heap.size W1).alloc (Nat.le_refl _) (.cells #[.int .i64 x, .int .i64 y] 63)
            have T29 := Lib.hid (T3.out.below A28)
            have B30 := Lib.hid (B4.out.trans (A28.mono B4.out.size))
            have P31 := Lib.hid (cells_new W1 63 #[.int .i64 x, .int .i64 y])
            have P32 := Lib.hid (fun j u hu => (A28.cell (World.block_lt_of_cell? _ _ (P5.out j u hu))).trans (P5.out j u hu))
            have M33 := Lib.hid (show u8.ownBlock ≠ some W1.heap.size from fun e => by have := own_row_lt T3.out.1 _ e; omega)
            refine hK.out _ _ B30.out (fun hHeld => ?_)
            clear hK K A28
            try simp only [Act.put]
            generalize W1.alloc (.cells #[.int .i64 x, .int .i64 y] 63) = W27 at *
            refine wpAnyE_ready (rs := [7]) (by kernel_rfl) (by simp) ?_
            refine AllReadyE.cons (i := 7) rfl (by decide) (fun K hK => ?_) AllReadyE.nil
            refine step_append_sz rfl (.tmp 21) (.tmp 27) 45 rfl w.heap.size 3 iI (.int .i64 0) 1 8 Tryd.underlying45 hiI hzI0 hzI1 hzI2 rfl (by decide) u8 q (cellsI ids) rfl T29.out.1 ⟨W0.heap.size, 0, none⟩ 1 1 [.int .i64 d] rfl rfl P32.out (own_.one_cell _ rfl) (by unfold maxLen; omega) (by omega) B30.out.size ?_
            intro v40 W34 o37 g38 r39
            have T35 := Lib.hid (T29.out.left g38 o37)
            have B36 := Lib.hid (B30.out.grown g38 B30.out.size (own_.row_ge T29.out.1))
            have P41 := Lib.hid (fun j u hu => g38.cell (P31.out j u hu) (fun e => M33.out (by rw [Addr.add_lit] at e; exact e.symm)))
            clear g38 o37 r39
            refine hK.out _ _ B36.out (fun hHeld => ?_)
            clear hK K
            try simp only [Act.put]
            refine wpAnyE_ready (rs := [14]) (by kernel_rfl) (by simp) ?_
            refine AllReadyE.cons (i := 14) rfl (by decide) (fun K hK => ?_) AllReadyE.nil
            refine step_append_sz rfl (.tmp 29) (.tmp 34) 30 rfl w.heap.size 63 iP (.agg #[.int .i64 0, .int .i64 0]) 2 16 Tryd.underlying30 hiP hzP0 hzP1 hzP2 rfl (by decide) u9 q (cellsI pls) rfl T35.out.2 ⟨W1.heap.size, 0, none⟩ 1 1 [.int .i64 x, .int .i64 y] rfl rfl P41.out (two_cells x y) (by unfold maxLen; omega) (by omega) B36.out.size ?_
            intro v48 W42 o45 g46 r47
            have T43 := Lib.hid (T35.out.right g46 o45)
            have B44 := Lib.hid (B36.out.grown g46 B36.out.size (own_.row_ge T35.out.2))
            clear g46 o45 r47
            refine hK.out _ _ B44.out (fun hHeld => ?_)
            clear hK K
            try simp only [Act.put]
            refine wpAnyE_ready (rs := [15]) (by kernel_rfl) (by simp) ?_
            refine AllReadyE.cons (i := 15) rfl (by decide) (fun K hK => ?_) AllReadyE.nil
            go_simp
            refine hK.out _ _ B44.out (fun hHeld => ?_)
            clear hK K
            try simp only [Act.put]
            refine wpAnyE_ready (rs := [16]) (by kernel_rfl) (by simp) ?_
            refine AllReadyE.last (i := 16) rfl rfl (fun K hK => ?_)
            go_simp
            refine hK.out _ _ ?_
            clear hK K
            try simp only [Act.put]
            refine wpAnyE_done (by kernel_rfl) ?_ _
            try simp only [List.getElem_toArray, List.getElem_cons_succ, List.getElem_cons_zero, List.setIfInBounds_toArray, List.set_cons_succ, List.set_cons_zero]
            go_wp2_with fail
            go_roundw
            case rel => exact ⟨i + 1, by omega, by go_num, by rw [HX.out.1, HX.out.2, List.length_append, HQ.out]; exact T43.out, B44.out⟩
            case measure => simp [intOf]; omega
        · go_simp
          have A50 := (Below.refl W0.heap.size W0).alloc (Nat.le_refl _) (.cells #[.int .i64 x, .int .i64 y] 63)
          have T51 := Lib.hid (T0.out.below A50)
          have B52 := Lib.hid (B0.out.trans (A50.mono B0.out.size))
          have P53 := Lib.hid (cells_new W0 63 #[.int .i64 x, .int .i64 y])
          have M54 := Lib.hid (show u8.ownBlock ≠ some W0.heap.size from fun e => by have := own_row_lt T0.out.1 _ e; omega)
          refine hK.out _ _ B52.out (fun hHeld => ?_)
          clear hK K A50
          try simp only [Act.put]
          generalize W0.alloc (.cells #[.int .i64 x, .int .i64 y] 63) = W49 at *
          refine wpAnyE_ready (rs := [6]) (by kernel_rfl) (by simp) ?_
          refine AllReadyE.cons (i := 6) rfl (by decide) (fun K hK => ?_) AllReadyE.nil
          go_simp
          have A56 := (Below.refl W49.heap.size W49).alloc (Nat.le_refl _) (.cells #[.int .i64 d] 3)
          have T57 := Lib.hid (T51.out.below A56)
          have B58 := Lib.hid (B52.out.trans (A56.mono B52.out.size))
          have P59 := Lib.hid (cell_one_new W49 (.int .i64 d) 3)
          have P60 := Lib.hid (fun j u hu => (A56.cell (World.block_lt_of_cell? _ _ (P53.out j u hu))).trans (P53.out j u hu))
          have M61 := Lib.hid (show u9.ownBlock ≠ some W49.heap.size from fun e => by have := own_row_lt T51.out.2 _ e; omega)
          refine hK.out _ _ B58.out (fun hHeld => ?_)
          clear hK K A56
          try simp only [Act.put]
          generalize W49.alloc (.cells #[.int .i64 d] 3) = W55 at *
          refine wpAnyE_ready (rs := [7]) (by kernel_rfl) (by simp) ?_
          refine AllReadyE.cons (i := 7) rfl (by decide) (fun K hK => ?_) AllReadyE.nil
          refine step_append_sz rfl (.tmp 21) (.tmp 27) 45 rfl w.heap.size 3 iI (.int .i64 0) 1 8 Tryd.underlying45 hiI hzI0 hzI1 hzI2 rfl (by decide) u8 q (cellsI ids) rfl T57.out.1 ⟨W49.heap.size, 0, none⟩ 1 1 [.int .i64 d] rfl rfl P59.out (own_.one_cell _ rfl) (by unfold maxLen; omega) (by omega) B58.out.size ?_
          intro v68 W62 o65 g66 r67
          have T63 := Lib.hid (T57.out.left g66 o65)
          have B64 := Lib.hid (B58.out.grown g66 B58.out.size (own_.row_ge T57.out.1))
          have P69 := Lib.hid (fun j u hu => g66.cell (P60.out j u hu) (fun e => M54.out (by rw [Addr.add_lit] at e; exact e.symm)))
          clear g66 o65 r67
          refine hK.out _ _ B64.out (fun hHeld => ?_)
          clear hK K
          try simp only [Act.put]
          refine wpAnyE_ready (rs := [14]) (by kernel_rfl) (by simp) ?_
          refine AllReadyE.cons (i := 14) rfl (by decide) (fun K hK => ?_) AllReadyE.nil
          refine step_append_sz rfl (.tmp 29) (.tmp 34) 30 rfl w.heap.size 63 iP (.agg #[.int .i64 0, .int .i64 0]) 2 16 Tryd.underlying30 hiP hzP0 hzP1 hzP2 rfl (by decide) u9 q (cellsI pls) rfl T63.out.2 ⟨W0.heap.size, 0, none⟩ 1 1 [.int .i64 x, .int .i64 y] rfl rfl P69.out (two_cells x y) (by unfold maxLen; omega) (by omega) B64.out.size ?_
          intro v76 W70 o73 g74 r75
          have T71 := Lib.hid (T63.out.right g74 o73)
          have B72 := Lib.hid (B64.out.grown g74 B64.out.size (own_.row_ge T63.out.2))
          clear g74 o73 r75
          refine hK.out _ _ B72.out (fun hHeld => ?_)
          clear hK K
          try simp only [Act.put]
          refine wpAnyE_ready (rs := [15]) (by kernel_rfl) (by simp) ?_
          refine AllReadyE.cons (i := 15) rfl (by decide) (fun K hK => ?_) AllReadyE.nil
          go_simp
          refine hK.out _ _ B72.out (fun hHeld => ?_)
          clear hK K
          try simp only [Act.put]
          refine wpAnyE_ready (rs := [16]) (by kernel_rfl) (by simp) ?_
          refine AllReadyE.last (i := 16) rfl rfl (fun K hK => ?_)
          go_simp
          refine hK.out _ _ ?_
          clear hK K
          try simp only [Act.put]
          refine wpAnyE_done (by kernel_rfl) ?_ _
          try simp only [List.getElem_toArray, List.getElem_cons_succ, List.getElem_cons_zero, List.setIfInBounds_toArray, List.set_cons_succ, List.set_cons_zero]
          go_wp2_with fail
          go_roundw
          case rel => exact ⟨i + 1, by omega, by go_num, by rw [HX.out.1, HX.out.2, List.length_append, HQ.out]; exact T71.out, B72.out⟩
          case measure => simp [intOf]; omega
    · obtain rfl : i = e0 := by omega
      go_wp2_with fail
      go_ret2
      exact ⟨_, _, rfl, HT.out, HB.out⟩

end Go.Proofs.YtedocpocfpopgaaDoor.asgl

/- impl's nearestPlot, NearestAssignment, unpairedPlots, FreePlots. -/
namespace Go.Proofs.YtedocpocfpopgaaDoor.asgg
open Go.RowKit Go.Proofs.YtedocpocfpopgaaDoor.ints Go.Proofs.YtedocpocfpopgaaDoor.lst Go.Proofs.YtedocpocfpopgaaDoor.in_ Go.Proofs.YtedocpocfpopgaaDoor.ats Go.Proofs.YtedocpocfpopgaaDoor.pos Go.Proofs.YtedocpocfpopgaaDoor.trk Go.Proofs.YtedocpocfpopgaaDoor.trkm Go.Proofs.YtedocpocfpopgaaDoor.trke Go.Proofs.YtedocpocfpopgaaDoor.intc Go.Proofs.YtedocpocfpopgaaDoor.asg Go.Proofs.YtedocpocfpopgaaDoor.rws

set_option maxRecDepth 100000 in
set_option maxHeartbeats 4000000 in
theorem unpaired (xs : List Int) (C E : Option Addr) (m cq e0 ce : Nat) (w : World) (hm : m ≤ 1048577) (he0 : e0 ≤ 1048577) (h3 : RdI w w.heap.size E e0 xs) :
    Calls Tryd.prog 42 #[.slice E e0 ce, .slice C m cq] w fun e w' => ∃ v, e = .returned v ∧ w'.ownsRow w.heap.size 3 1 v (unT xs m).length (cellsI (unT xs m)) ∧ Below w.heap.size w w' := by
  obtain ⟨iI, hiI, hzI0, hzI1, hzI2⟩ := info_parts infoI
  have HC := Lib.hid (fun (k : Nat) (W : World) (hb : Below w.heap.size w W) => asga.containsI xs (k : Int) E e0 ce W he0 (h3.next hb))
  have OE := Lib.hid (own_emptyZ w 3 1)
  have BE := Lib.hid ((Below.refl w.heap.size w).alloc (Nat.le_refl _) (.cells #[] 3))
  clear h3
  go_enter Tryd.func42, Tryd.ntmps42
  go_wp2_with fail
  go_loopw [5, 9] (fun v i wr => ∃ k : Nat, k ≤ m ∧ i = .int .i64 k ∧ wr.ownsRow w.heap.size 3 1 v (unT xs k).length (cellsI (unT xs k)) ∧ Below w.heap.size w wr) (fun _ i _ => m - (intOf i).toNat)
  case atStart => exact ⟨0, Nat.zero_le _, rfl, World.ownsRow_nil .., Below.refl _ _⟩
  case round =>
    obtain ⟨k, hk, rfl, hO, hb⟩ := hrel
    clear OE BE
    obtain ⟨A5, c5, rfl⟩ := own_sliceZ hO
    have HLEN := Lib.hid (unT_le xs k)
    have HCk := Lib.hid (HC.out k wr hb)
    have CY := Lib.hid (fun h => un_yes (P := xs) (k := k) h)
    have CN := Lib.hid (fun h => un_no (P := xs) (k := k) h)
    have OK := Lib.hid hO
    have BK := Lib.hid hb
    have hwz := hb.size
    clear hO hb
    by_cases hlt : k < m
    · have hlt2 : (k : Int) < (m : Int) := by omega
      cases hc : xs.contains (k : Int)
      · have HT := Lib.hid (CN.out hc)
        rw [hc] at HCk
        have hlen := HLEN.out
        have O5 := Lib.hid (OK.out.alloc (.cells #[.int .i64 (k : Int)] 3))
        have B5 := Lib.hid (BK.out.alloc hwz (.cells #[.int .i64 (k : Int)] 3))
        clear hc CY CN
        generalize unT xs k = L at *
        go_wp2_with fail
        refine HCk.out.mono ?_
        rintro e w' ⟨rfl, hw'⟩
        obtain rfl : wr = w' := hw'.symm
        clear hw'
        go_wp2_with (at_builtin; refine wpList_append_any rfl (.tmp 16) (.tmp 18) 45 rfl w.heap.size 3 iI (.int .i64 0) 1 8 Tryd.underlying45 hiI hzI0 hzI1 hzI2 rfl (by decide) _ L.length (cellsI L) rfl O5.out ⟨wr.heap.size, 0, none⟩ 1 1 [.int .i64 (k : Int)] rfl rfl (cell_one_new _ _ _) (own_.one_cell _ rfl) (by unfold maxLen; omega) (by omega) (by rw [World.size_alloc]; omega) ?_; intro v6 w6 o6 g6 n6; obtain ⟨A6, c6, rfl⟩ := own_sliceZ o6)
        have O6 := Lib.hid (show w6.ownsRow w.heap.size 3 1 (.slice A6 (L.length + 1) c6) (unT xs (k + 1)).length (cellsI (unT xs (k + 1))) by rw [HT.out]; exact own_growI o6)
        have B6 := Lib.hid (B5.out.grown g6 B5.out.size (own_.row_ge O5.out))
        clear o6 g6 n6 O5 B5
        go_wp2_with fail
        go_roundw
        case rel => exact ⟨k + 1, by omega, by go_num, O6.out, B6.out⟩
        case measure => simp [intOf]; omega
      · have HT := Lib.hid (CY.out hc)
        rw [hc] at HCk
        clear hc CY CN
        go_wp2_with fail
        refine HCk.out.mono ?_
        rintro e w' ⟨rfl, hw'⟩
        obtain rfl : wr = w' := hw'.symm
        clear hw'
        go_wp2_with fail
        go_roundw
        case rel => exact ⟨k + 1, by omega, by go_num, by rw [HT.out]; exact OK.out, BK.out⟩
        case measure => simp [intOf]; omega
    · obtain rfl : k = m := by omega
      go_wp2_with fail
      go_ret
      exact ⟨_, rfl, OK.out, BK.out⟩

end Go.Proofs.YtedocpocfpopgaaDoor.asgg

/- impl's UpdateTracks. -/
namespace Go.Proofs.YtedocpocfpopgaaDoor.asgm
open Go.RowKit Go.Proofs.YtedocpocfpopgaaDoor.ints Go.Proofs.YtedocpocfpopgaaDoor.lst Go.Proofs.YtedocpocfpopgaaDoor.in_ Go.Proofs.YtedocpocfpopgaaDoor.ats Go.Proofs.YtedocpocfpopgaaDoor.pos Go.Proofs.YtedocpocfpopgaaDoor.trk Go.Proofs.YtedocpocfpopgaaDoor.trkm Go.Proofs.YtedocpocfpopgaaDoor.trke Go.Proofs.YtedocpocfpopgaaDoor.intc Go.Proofs.YtedocpocfpopgaaDoor.asg Go.Proofs.YtedocpocfpopgaaDoor.asgb Go.Proofs.YtedocpocfpopgaaDoor.asgk Go.Proofs.YtedocpocfpopgaaDoor.asgl Go.Proofs.YtedocpocfpopgaaDoor.trkw Go.Proofs.YtedocpocfpopgaaDoor.era

theorem drop_at {xs : List Int} {k : Nat} {x : Int} (h : xs[k]? = some x) : xs.drop k = x :: xs.drop (k + 1) := by
  have hl := (List.getElem?_eq_some_iff.1 h).1
  have hx := (List.getElem?_eq_some_iff.1 h).2
  rw [List.drop_eq_getElem_cons hl, hx]
set_option maxRecDepth 100000 in
set_option maxHeartbeats 8000000 in
theorem updateTracks (zs ps : List Int) (g : Int) (A C : Option Addr) (n c m cq : Nat) (w : World) (hn : n ≤ 1048577) (hm : m ≤ 1048577) (h1 : RdZ 6 w w.heap.size A n zs) (h2 : RdZ 2 w w.heap.size C m ps) (heh : Eh w) (hx : Ex w) :
    Calls Tryd.prog 11 #[.slice A n c, .slice C m cq, .int .i64 g] w fun e w' => ∃ v, e = .returned (.tuple #[v, .bool (upB zs n ps m g)]) ∧ w'.ownsRow w.heap.size 38 6 v (upN zs n ps m g) (cellsI (upL zs n ps m g)) ∧ Below w.heap.size w w' := by
  have H1 := Lib.hid (asgi.bestAssignment zs ps g A C n c m cq w hn hm h1 h2)
  cases hq : akB zs n ps m g
  · have HE := Lib.hid (u_no (u_ask hq))
    have HUB := Lib.hid (u_ask hq)
    rw [hq] at H1
    clear hq h1 h2 heh hx
    go_enter Tryd.func11, Tryd.ntmps11
    go_wp2_with fail
    refine H1.out.mono ?_
    rintro e w1 ⟨v, rfl, ho, hb⟩
    obtain ⟨A1, c1, rfl⟩ := own_sliceZ ho
    have HB := Lib.hid hb
    clear ho hb
    go_wp2_with fail
    go_ret2
    exact ⟨_, by rw [HUB.out]; rfl, by rw [HE.out.1, HE.out.2]; exact World.ownsRow_nil .., HB.out⟩
  rw [hq] at H1
  have hm5 := (akB_yes hq).2.2.1
  have hn6 := (tvB_yes (akB_yes hq).1).2
  have HPR := Lib.hid (agB_yes (be_asg hq).1).2.2
  have HLV := Lib.hid (beV_length hq)
  have HUB := Lib.hid (show upB zs n ps m g = scB zs n (idT zs (beV zs n ps m g) n) (idT zs (beV zs n ps m g) n).length (plL ps (beV zs n ps m g) n) (idT zs (beV zs n ps m g) n).length by unfold upB upQ; rw [hq]; rfl)
  have HUP := Lib.hid (show upP zs n ps m g = upT ps (unT (beV zs n ps m g) m) (scL zs n (idT zs (beV zs n ps m g) n) (idT zs (beV zs n ps m g) n).length (plL ps (beV zs n ps m g) n) (idT zs (beV zs n ps m g) n).length) (scN zs n (idT zs (beV zs n ps m g) n) (idT zs (beV zs n ps m g) n).length (plL ps (beV zs n ps m g) n) (idT zs (beV zs n ps m g) n).length) from rfl)
  have HNO := Lib.hid (fun h => u_no (zs := zs) (n := n) (ps := ps) (m := m) (g := g) h)
  have HYE := Lib.hid (fun h => u_yes (zs := zs) (n := n) (ps := ps) (m := m) (g := g) h)
  have HSN := Lib.hid (scN_le zs n (idT zs (beV zs n ps m g) n) (idT zs (beV zs n ps m g) n).length (plL ps (beV zs n ps m g) n) (idT zs (beV zs n ps m g) n).length)
  have HSL := Lib.hid (scL_length zs n (idT zs (beV zs n ps m g) n) (idT zs (beV zs n ps m g) n).length (plL ps (beV zs n ps m g) n) (idT zs (beV zs n ps m g) n).length)
  have HIL := Lib.hid (idT_le zs (beV zs n ps m g) n)
  have HPL := Lib.hid (plL_length zs ps (beV zs n ps m g) n)
  have HUN := Lib.hid (fun (j : Nat) (x : Int) (h : (unT (beV zs n ps m g) m)[j]? = some x) => un_at h)
  have HUL := Lib.hid (unT_le (beV zs n ps m g) m)
  have HR2 := Lib.hid h2
  have HHI := Lib.hid (fun (E : Option Addr) (ce : Nat) (W : World) (hb : Below w.heap.size w W) (h3 : RdI W W.heap.size E n (beV zs n ps m g)) => hitsOf zs ps (beV zs n ps m g) A C E n c m cq n ce W hn6 HPR.out (Nat.le_refl _) (h1.next hb) (h2.next hb) h3)
  have HSC := Lib.hid (fun (A8 A9 : Option Addr) (c8 c9 : Nat) (W : World) (hb : Below w.heap.size w W) (h3 : RdI W W.heap.size A8 (idT zs (beV zs n ps m g) n).length (idT zs (beV zs n ps m g) n)) (h4 : RdZ 2 W W.heap.size A9 (idT zs (beV zs n ps m g) n).length (plL ps (beV zs n ps m g) n)) => trkg.scanTracks zs (idT zs (beV zs n ps m g) n) (plL ps (beV zs n ps m g) n) A A8 A9 n c (idT zs (beV zs n ps m g) n).length c8 (idT zs (beV zs n ps m g) n).length c9 W hn (by have := HIL.out; omega) (by have := HIL.out; omega) (h1.next hb) h3 h4 (trkf.eh_on heh hb) (trkw.ex_on hx hb))
  have HUF := Lib.hid (fun (E : Option Addr) (ce : Nat) (W : World) (h3 : RdI W W.heap.size E n (beV zs n ps m g)) => asgg.unpaired (beV zs n ps m g) C E m cq n ce W hm (by omega) h3)
  clear hq h1 h2 heh hx
  generalize upP zs n ps m g = UP at *
  generalize scL zs n (idT zs (beV zs n ps m g) n) (idT zs (beV zs n ps m g) n).length (plL ps (beV zs n ps m g) n) (idT zs (beV zs n ps m g) n).length = sl at *
  generalize scN zs n (idT zs (beV zs n ps m g) n) (idT zs (beV zs n ps m g) n).length (plL ps (beV zs n ps m g) n) (idT zs (beV zs n ps m g) n).length = sn at *
  generalize scD zs n (idT zs (beV zs n ps m g) n) (idT zs (beV zs n ps m g) n).length (plL ps (beV zs n ps m g) n) (idT zs (beV zs n ps m g) n).length = sd at *
  generalize scB zs n (idT zs (beV zs n ps m g) n) (idT zs (beV zs n ps m g) n).length (plL ps (beV zs n ps m g) n) (idT zs (beV zs n ps m g) n).length = sb at *
  generalize unT (beV zs n ps m g) m = fr at *
  generalize (plL ps (beV zs n ps m g) n) = pls at *
  generalize (idT zs (beV zs n ps m g) n) = ids at *
  generalize (beV zs n ps m g) = bv at *
  go_enter Tryd.func11, Tryd.ntmps11
  go_wp2_with fail
  refine H1.out.mono ?_
  rintro e w1 ⟨v, rfl, ho, hb⟩
  rw [HLV.out] at ho
  obtain ⟨A1, c1, rfl⟩ := own_sliceZ ho
  have HB1 := Lib.hid hb
  have O1 := Lib.hid ho
  clear ho hb H1
  go_wp2_with fail
  refine (HHI.out A1 c1 w1 HB1.out (intc.rd_of_own O1.out HLV.out)).mono ?_
  rintro e w2 ⟨v8, v9, rfl, hT, hb⟩
  obtain ⟨A8, c8, rfl⟩ := own_sliceZ hT.1
  obtain ⟨A9, c9, rfl⟩ := own_sliceZ hT.2
  have R8 := Lib.hid (intc.rd_of_own hT.1 rfl)
  have R9 := Lib.hid (RdZ.of_own hT.2 HPL.out)
  have HB2 := Lib.hid (HB1.out.trans (hb.mono HB1.out.size))
  have O2 := Lib.hid (own_.own_below O1.out hb)
  clear hT hb HHI HB1 O1
  go_wp2_with fail
  refine (HSC.out A8 A9 c8 c9 w2 HB2.out R8.out R9.out).mono ?_
  rintro e w3 ⟨v3, rfl, ho, hb⟩
  obtain ⟨A3, c3, rfl⟩ := own_sliceZ ho
  have O3 := Lib.hid (own_.own_below O2.out hb)
  have OS := Lib.hid (own_.own_base ho HB2.out.size)
  have HB3 := Lib.hid (HB2.out.trans (hb.mono HB2.out.size))
  clear ho hb HSC HB2 O2 R8 R9
  have hsn6 : sn ≤ 6 := Nat.le_trans HSN.out hn6
  cases sb
  · have HE := Lib.hid (HNO.out HUB.out)
    go_wp2_with fail
    go_ret2
    exact ⟨_, by rw [HUB.out]; rfl, by rw [HE.out.1, HE.out.2]; exact World.ownsRow_nil .., HB3.out⟩
  have HYES := Lib.hid (HYE.out HUB.out)
  clear HNO HYE
  go_wp2_with fail
  refine (HUF.out A1 c1 w3 (intc.rd_of_own O3.out HLV.out)).mono ?_
  rintro e w4 ⟨v4, rfl, ho, hb⟩
  obtain ⟨A4, c4, rfl⟩ := own_sliceZ ho
  have RF := Lib.hid (intc.rd_of_own ho rfl)
  have O4 := Lib.hid (own_.own_below OS.out hb)
  have HB4 := Lib.hid (HB3.out.trans (hb.mono HB3.out.size))
  clear ho hb HUF HB3 O3 OS
  go_wp2_with fail
  go_loopw [13, 51] (fun v q wr => ∃ (k : Nat) (t zz : List Int) (nn : Nat), k ≤ fr.length ∧ q = .int .i64 k ∧ fr.drop k = t ∧ upT ps t zz nn = UP ∧ zz.length = nn * 6 ∧ nn ≤ 6 ∧ wr.ownsRow w.heap.size 38 6 v nn (cellsI zz) ∧ Below w4.heap.size w4 wr) (fun _ q _ => fr.length - (intOf q).toNat)
  case atStart => exact ⟨0, fr, sl, sn, Nat.zero_le _, rfl, rfl, HUP.out.symm, HSL.out, hsn6, O4.out, Below.refl _ _⟩
  case round =>
    obtain ⟨k, t, zz, nn, hk, rfl, hdr, hup, hzl, hnn, hO, hb⟩ := hrel
    obtain ⟨Az, cz, rfl⟩ := own_sliceZ hO
    have HO := Lib.hid hO
    have HB := Lib.hid (HB4.out.trans (hb.mono HB4.out.size))
    have HUPK := Lib.hid hup
    have hcap := own_cap hO
    have HRD := Lib.hid (RdZ.of_own hO hzl)
    have HZL := Lib.hid hzl
    have HDR := Lib.hid hdr
    have HB5 := Lib.hid hb
    clear hO hup hzl hdr
    by_cases hlt : k < fr.length
    · obtain ⟨bf, of, x, rfl, lf, hx, fc⟩ := (RF.out.next hb).at_ hlt
      obtain ⟨j, rfl, hjm⟩ := HUN.out k x hx
      have hlt2 : (k : Int) < (fr.length : Int) := by omega
      have hk0 : (0 : Int) ≤ (k : Int) := Int.natCast_nonneg _
      have hj0 : (0 : Int) ≤ (j : Int) := Int.natCast_nonneg _
      have hjm2 : (j : Int) < (m : Int) := by omega
      obtain ⟨t', rfl⟩ : ∃ t', t = (j : Int) :: t' := ⟨fr.drop (k + 1), by rw [← HDR.out]; exact drop_at hx⟩
      have HDR2 := Lib.hid (show fr.drop (k + 1) = t' from by
        have h1 := HDR.out
        rw [drop_at hx] at h1
        injection h1)
      obtain ⟨bp, op, rfl, lp, p0, p1⟩ := asga.cells2 (HR2.out.next HB.out) hjm
      have HST := Lib.hid (trkz.startI zz (fld 2 ps j 0) (fld 2 ps j 1) Az nn cz wr hcap (by omega) HRD.out)
      have HUY := Lib.hid (fun h => up_yes (ps := ps) (zs := zz) (t := t') (n := nn) (k := j) h)
      have HUNo := Lib.hid (fun h => up_no (ps := ps) (zs := zz) (t := t') (n := nn) (k := j) h)
      have HSY := Lib.hid (fun h => st_yes (zs := zz) (n := nn) (x := fld 2 ps j 0) (y := fld 2 ps j 1) h)
      have HS6 := Lib.hid (fun (h : stB zz nn (fld 2 ps j 0) (fld 2 ps j 1) = true) => show (stR zz nn (fld 2 ps j 0) (fld 2 ps j 1)).length = (nn + 1) * 6 ∧ nn + 1 ≤ 6 from ⟨by unfold stR; rw [List.length_append, HZL.out, six_length]; omega, (tvB_yes h).2⟩)
      have hfl := HUL.out
      clear hx hcap hb
      generalize fld 2 ps j 0 = x0 at *
      generalize fld 2 ps j 1 = y0 at *
      cases hs : stB zz nn x0 y0
      · have HV := Lib.hid ((HUNo.out hs).symm.trans HUPK.out)
        rw [hs] at HST
        clear hs HUY HUNo HSY HS6 HUPK
        go_wp2_with fail
        refine HST.out.mono ?_
        rintro e W8 ⟨v8, rfl, ho, hb⟩
        obtain ⟨A8, c8, rfl⟩ := own_sliceZ ho
        have HO8 := Lib.hid (own_.own_below HO.out hb)
        have HB8 := Lib.hid (HB.out.trans (hb.mono HB.out.size))
        clear ho hb
        go_wp2_with fail
        go_ret2
        exact ⟨_, by rw [HUB.out]; rfl, by rw [HYES.out.1, HYES.out.2, ← HV.out]; exact HO8.out, HB8.out⟩
      · have HV := Lib.hid ((HUY.out hs).symm.trans HUPK.out)
        have HSV := Lib.hid (HSY.out hs)
        have HS7 := Lib.hid (HS6.out hs)
        rw [hs] at HST
        clear hs HUY HUNo HSY HS6 HUPK
        go_wp2_with fail
        refine HST.out.mono ?_
        rintro e W8 ⟨v8, rfl, ho, hb⟩
        rw [HSV.out.1, HSV.out.2.1] at ho
        obtain ⟨A8, c8, rfl⟩ := own_sliceZ ho
        have HO8 := Lib.hid (own_.own_base ho HB.out.size)
        have HB8 := Lib.hid (HB5.out.trans (hb.mono HB5.out.size))
        clear ho hb
        go_wp2_with fail
        go_roundw
        case rel => exact ⟨k + 1, t', stR zz nn x0 y0, nn + 1, by omega, by go_num, HDR2.out, HV.out, HS7.out.1, HS7.out.2, HO8.out, HB8.out⟩
        case measure => simp [intOf]; omega
    · obtain rfl : k = fr.length := by omega
      have HV := Lib.hid (show (zz, nn) = UP by
        have h1 := HDR.out
        rw [List.drop_length] at h1
        have h2 := HUPK.out
        rw [← h1] at h2
        exact h2)
      clear hb
      go_wp2_with fail
      go_ret2
      exact ⟨_, by rw [HUB.out]; rfl, by rw [HYES.out.1, HYES.out.2, ← HV.out]; exact HO.out, HB.out⟩

end Go.Proofs.YtedocpocfpopgaaDoor.asgm

/- spec's PlotDistance, l15Cost, AssignmentCost. -/
namespace Go.Proofs.YtedocpocfpopgaaDoor.asgv
open Go.RowKit Go.Proofs.YtedocpocfpopgaaDoor.ints Go.Proofs.YtedocpocfpopgaaDoor.lst Go.Proofs.YtedocpocfpopgaaDoor.in_ Go.Proofs.YtedocpocfpopgaaDoor.ats Go.Proofs.YtedocpocfpopgaaDoor.pos Go.Proofs.YtedocpocfpopgaaDoor.trk Go.Proofs.YtedocpocfpopgaaDoor.trkm Go.Proofs.YtedocpocfpopgaaDoor.trke Go.Proofs.YtedocpocfpopgaaDoor.intc Go.Proofs.YtedocpocfpopgaaDoor.asg

set_option maxRecDepth 100000 in
set_option maxHeartbeats 4000000 in
theorem cost15 (zs ps xs : List Int) (g : Int) (A C E : Option Addr) (c m cq e0 ce : Nat) (w : World) (hq : agB zs e0 ps m g xs e0 = true) (h1 : RdZ 6 w w.heap.size A e0 zs) (h2 : RdZ 2 w w.heap.size C m ps) (h3 : RdI w w.heap.size E e0 xs) :
    Calls Tryd.prog 78 #[.slice A e0 c, .slice C m cq, .int .i64 g, .slice E e0 ce] w fun e w' => e = .returned (.int .i64 (coT (pst zs ps) g (e0 + m) xs e0)) ∧ Below w.heap.size w w' := by
  obtain ⟨hak, -, hpr⟩ := agB_yes hq
  have HPT := Lib.hid (fun k hk => ak_track (i := k) hak hk)
  have HPP := Lib.hid (fun k hk => ak_plot (k := k) hak hk)
  have hm5 := (akB_yes hak).2.2.1
  have hg5 := (akB_yes hak).2.2.2
  have hn6 : e0 ≤ 6 := (tvB_yes (akB_yes hak).1).2
  have HPR := Lib.hid hpr
  have HR1 := Lib.hid h1
  have HR2 := Lib.hid h2
  have HR3 := Lib.hid h3
  have e1 : IntKind.i64.wrap (g + 1) = g + 1 := IntWalk.i64_in _ (by omega)
  have hml := mul_in (t := e0 + m) hg5 (show e0 + m ≤ 11 by omega)
  have HZ0 := (show coT (pst zs ps) g (e0 + m) xs 0 = (g + 1) * ((e0 + m : Nat) : Int) by unfold coT; rw [sdT, npT]; simp)
  have hcast : (e0 : Int) + (m : Int) = ((e0 + m : Nat) : Int) := by omega
  have e2 : IntKind.i64.wrap ((g + 1) * ((e0 + m : Nat) : Int)) = (g + 1) * ((e0 + m : Nat) : Int) := IntWalk.i64_in _ (by omega)
  rw [← hcast] at e2 HZ0 hml
  have HZ := Lib.hid HZ0
  clear hq hak hpr h1 h2 h3 hcast HZ0
  go_enter Tryd.func78, Tryd.ntmps78
  go_wp2_with fail
  go_loopw [9, 10] (fun s i wr => ∃ k : Nat, k ≤ e0 ∧ i = .int .i64 k ∧ s = .int .i64 (coT (pst zs ps) g (e0 + m) xs k) ∧ Below w.heap.size w wr) (fun _ i _ => e0 - (intOf i).toNat)
  case atStart => exact ⟨0, Nat.zero_le _, rfl, by rw [HZ.out], Below.refl _ _⟩
  case round =>
    obtain ⟨k, hk, rfl, rfl, hb⟩ := hrel
    have HB := Lib.hid hb
    by_cases hlt : k < e0
    · obtain ⟨b3, o3, x, rfl, l3, hx, p0⟩ := (HR3.out.next hb).at_ hlt
      have hlt2 : (k : Int) < (e0 : Int) := by omega
      have HGX := Lib.hid (getD_some hx)
      have HOK := Lib.hid (prB_at HPR.out hlt)
      have hk0 : (0 : Int) ≤ (k : Int) := Int.natCast_nonneg _
      have hin := coT_in (t := e0 + m) HPR.out (pst_nonneg zs ps) hg5 hk hn6 (by omega)
      have hnp := npT_le xs k
      clear hb hx
      rcases pairOk_yes HOK.out with hx1 | ⟨j, hj5, hx1, _, hd⟩
      · rw [HGX.out] at hx1
        have HT := Lib.hid (show coT (pst zs ps) g (e0 + m) xs (k + 1) = coT (pst zs ps) g (e0 + m) xs k from coT_none (by rw [HGX.out]; omega))
        generalize coT (pst zs ps) g (e0 + m) xs k = co at *
        have g1 : ¬ 0 ≤ x := by omega
        have g2 : decide (0 ≤ x) = false := decide_eq_false g1
        subst hx1
        clear HGX HOK
        go_wp2_with fail
        go_roundw
        case rel => exact ⟨k + 1, by omega, by go_num, by rw [HT.out], HB.out⟩
        case measure => simp [intOf]; omega
      · rw [HGX.out] at hx1
        subst hx1
        have hj0 : (0 : Int) ≤ (j : Int) := Int.natCast_nonneg _
        have hjm : (j : Int) < (m : Int) := by omega
        obtain ⟨b1, o1, rfl, l1, a0, a1, a2, a3, a4, a5⟩ := cellsE (HR1.out.next HB.out) hlt
        obtain ⟨b2, o2, rfl, l2, q0, q1⟩ := asgs.cells2 (HR2.out.next HB.out) hj5
        have TD := Lib.hid (fun w d0 os => Calls.regrown_of (show Calls Tryd.prog 81 #[.agg #[.int .i64 (fld 6 zs k 0), .int .i64 (fld 6 zs k 1), .int .i64 (fld 6 zs k 2), .int .i64 (fld 6 zs k 3), .int .i64 (fld 6 zs k 4), .int .i64 (fld 6 zs k 5)], .agg #[.int .i64 (fld 2 ps j 0), .int .i64 (fld 2 ps j 1)]] (Sort.grow (redrawn w d0) os) (fun e w' => e = .returned (.int .i64 (pst zs ps k j)) ∧ Below (Sort.grow (redrawn w d0) os).heap.size (Sort.grow (redrawn w d0) os) w') from asgs.distance15 (fld 6 zs k 0) (fld 6 zs k 1) (fld 6 zs k 2) (fld 6 zs k 3) (fld 6 zs k 4) (fld 6 zs k 5) (fld 2 ps j 0) (fld 2 ps j 1) (HPT.out k hlt) (HPP.out j hj5) (Sort.grow (redrawn w d0) os)))
        have HT := Lib.hid (show coT (pst zs ps) g (e0 + m) xs (k + 1) = coT (pst zs ps) g (e0 + m) xs k + pst zs ps k j - 2 * (g + 1) from co_some HGX.out)
        have hdd := pst_nonneg zs ps k j
        generalize coT (pst zs ps) g (e0 + m) xs k = co at *
        generalize fld 6 zs k 0 = u0 at *
        generalize fld 6 zs k 1 = u1 at *
        generalize fld 6 zs k 2 = u2 at *
        generalize fld 6 zs k 3 = u3 at *
        generalize fld 6 zs k 4 = u4 at *
        generalize fld 6 zs k 5 = u5 at *
        generalize fld 2 ps j 0 = v0 at *
        generalize fld 2 ps j 1 = v1 at *
        generalize pst zs ps k j = dd at *
        have e1 : IntKind.i64.wrap (co + dd) = co + dd := IntWalk.i64_in _ (by omega)
        have e2 : IntKind.i64.wrap (g + 1) = g + 1 := IntWalk.i64_in _ (by omega)
        have e3 : IntKind.i64.wrap (2 * (g + 1)) = 2 * (g + 1) := IntWalk.i64_in _ (by omega)
        have e4 : IntKind.i64.wrap (co + dd - 2 * (g + 1)) = co + dd - 2 * (g + 1) := IntWalk.i64_in _ (by omega)
        clear HGX HOK
        go_wp2_with fail
        have a0' := fun d0 os => cell_regrown a0 d0 os
        have a1' := fun d0 os => cell_regrown a1 d0 os
        have a2' := fun d0 os => cell_regrown a2 d0 os
        have a3' := fun d0 os => cell_regrown a3 d0 os
        have a4' := fun d0 os => cell_regrown a4 d0 os
        have a5' := fun d0 os => cell_regrown a5 d0 os
        have q0' := fun d0 os => cell_regrown q0 d0 os
        have q1' := fun d0 os => cell_regrown q1 d0 os
        clear a0 a1 a2 a3 a4 a5 q0 q1
        refine wp_region_quiet_below (by kernel_rfl) (by kernel_rfl) ?_
        repeat (
          with_reducible refine wpQuiet_step (fun K hK => ?_)
          go_simp
          first
            | (refine hK _ ?_; clear hK K)
            | (apply Exists.intro
               refine ⟨fun _ => ?_, hK _ ?_⟩
               (first
                 | (go_at_call 81; with_reducible exact TD.out _ _ _))
               clear hK K))
        with_reducible refine wpQuiet_nil ?_
        intro _ hw'
        obtain ⟨⟨dq, osq⟩, hw''⟩ := hw'
        subst hw''
        have hbl := (below_regrown wr dq osq)
        clear a0' a1' a2' a3' a4' a5' q0' q1'
        generalize Sort.grow (redrawn wr dq) osq = w3 at *
        have HBB := Lib.hid (HB.out.trans (hbl.mono HB.out.size))
        clear hbl HB TD
        go_wp2_with fail
        go_roundw
        case rel => exact ⟨k + 1, by omega, by go_num, by rw [HT.out], HBB.out⟩
        case measure => simp [intOf]; omega
    · obtain rfl : k = e0 := by omega
      go_wp2_with fail
      go_ret
      exact ⟨rfl, HB.out⟩

end Go.Proofs.YtedocpocfpopgaaDoor.asgv

/- spec's l1Own, l15Best, BestAssignment. -/
namespace Go.Proofs.YtedocpocfpopgaaDoor.asgy
open Go.RowKit Go.Proofs.YtedocpocfpopgaaDoor.ints Go.Proofs.YtedocpocfpopgaaDoor.lst Go.Proofs.YtedocpocfpopgaaDoor.in_ Go.Proofs.YtedocpocfpopgaaDoor.ats Go.Proofs.YtedocpocfpopgaaDoor.pos Go.Proofs.YtedocpocfpopgaaDoor.trk Go.Proofs.YtedocpocfpopgaaDoor.trkm Go.Proofs.YtedocpocfpopgaaDoor.trke Go.Proofs.YtedocpocfpopgaaDoor.intc Go.Proofs.YtedocpocfpopgaaDoor.asg Go.Proofs.YtedocpocfpopgaaDoor.asgb Go.Proofs.YtedocpocfpopgaaDoor.rws

theorem own_some {w : World} {B : Nat} {e : TypeId} {v : Value} {n : Nat} {xs : List Value} (h : w.ownsRow B e 1 v n xs) (h0 : 0 < n) : ∃ g c, v = .slice (some ⟨g, 0, none⟩) n c := by
  rcases h.2 with ⟨_, h1⟩ | ⟨g, cap, cur, rfl, _⟩
  · omega
  · exact ⟨g, cap, rfl⟩
theorem rd_cells {w : World} {B b o n : Nat} {P : List Int} (h : RdI w B (some ⟨b, o, none⟩) n P) : ∀ j u, (cellsI P)[j]? = some u → w.cell? ((⟨b, o, none⟩ : Addr).add j) = some u := by
  intro j u hu
  unfold cellsI at hu
  rw [List.getElem?_map] at hu
  cases hx : P[j]? with
  | none => rw [hx] at hu; cases hu
  | some x =>
    rw [hx] at hu
    have hj := (List.getElem?_eq_some_iff.1 hx).1
    obtain ⟨b', o', e, _, hc⟩ := h.2 (by have := h.1; omega)
    injection e with e
    injection e with e1 e2
    subst e1 e2
    rw [Addr.add_lit, hc j x hx]
    exact hu
theorem one_cells (P : List Int) : ∀ u ∈ cellsI P, u.oneCell' = true := by
  intro u hu
  unfold cellsI at hu
  rw [List.mem_map] at hu
  obtain ⟨x, _, rfl⟩ := hu
  rfl
theorem own1 (P : List Int) (b o n c : Nat) (w : World) (hn : n ≤ 1048576) (h : RdI w w.heap.size (some ⟨b, o, none⟩) n P) :
    Calls Tryd.prog 79 #[.slice (some ⟨b, o, none⟩) n c] w fun e w' => ∃ v, e = .returned v ∧ w'.ownsRow w.heap.size 3 1 v n (cellsI P) ∧ Below w.heap.size w w' := by
  obtain ⟨iI, hiI, hzI0, hzI1, hzI2⟩ := info_parts infoI
  have OE := Lib.hid (own_emptyZ w 3 1)
  have BE := Lib.hid ((Below.refl w.heap.size w).alloc (Nat.le_refl _) (.cells #[] 3))
  have HC := Lib.hid (rd_cells (h.next BE.out))
  have HL := Lib.hid (show (cellsI P).length = n * 1 by unfold cellsI; rw [List.length_map, h.1]; omega)
  have H1 := Lib.hid (one_cells P)
  clear h
  generalize cellsI P = Q at *
  go_enter Tryd.func79, Tryd.ntmps79
  go_wp2_with (at_builtin; refine wpList_append_any rfl (.tmp 3) (.tmp 4) 45 rfl w.heap.size 3 iI (.int .i64 0) 1 8 Tryd.underlying45 hiI hzI0 hzI1 hzI2 rfl (by decide) _ 0 [] rfl OE.out ⟨b, o, none⟩ n c Q rfl HL.out HC.out H1.out (by unfold maxLen; omega) (by omega) (by rw [World.size_alloc]; omega) ?_; intro v6 w6 o6 g6 n6)
  have O6 := Lib.hid (show w6.ownsRow w.heap.size 3 1 v6 n Q by rw [Nat.zero_add] at o6; exact o6)
  have B6 := Lib.hid (BE.out.grown g6 BE.out.size (own_.row_ge OE.out))
  obtain ⟨A6, c6, rfl⟩ := own_sliceZ O6.out
  clear o6 g6 n6
  go_wp2_with fail
  go_ret
  exact ⟨_, rfl, O6.out, B6.out⟩

set_option maxRecDepth 100000 in
set_option maxHeartbeats 4000000 in
theorem best15 {zs ps : List Int} {g : Int} {A C : Option Addr} {n c m cq : Nat} (hq : akB zs n ps m g = true) : ∀ (r : Nat) (P : List Int) (B g0 ce : Nat) (w : World), P.length + r = n → prB (pst zs ps) g m P P.length = true → B ≤ w.heap.size → RdZ 6 w w.heap.size A n zs → RdZ 2 w w.heap.size C m ps → w.ownsRow B 3 1 (.slice (some ⟨g0, 0, none⟩) P.length ce) P.length (cellsI P) →
    Calls Tryd.prog 35 #[.slice A n c, .slice C m cq, .int .i64 g, .slice (some ⟨g0, 0, none⟩) P.length ce] w fun e w' => ∃ v, e = .returned (.tuple #[v, .int .i64 (pcT (pst zs ps) g P P.length + (bst (pst zs ps) g m r P).2)]) ∧ w'.ownsRow B 3 1 v n (cellsI (P ++ (bst (pst zs ps) g m r P).1)) ∧ Below w.heap.size w w' := by
  intro r
  induction r with
  | zero =>
    intro P B g0 ce w hl hpr hB h1 h2 hO
    have hl' : P.length = n := hl
    have HRI := Lib.hid (intc.rd_of_own hO rfl)
    have hag : agB zs P.length ps m g P P.length = true := agB_of (by rw [hl']; exact hq) hpr
    have HC := Lib.hid (asgv.cost15 zs ps P g A C (some ⟨g0, 0, none⟩) c m cq P.length ce w hag (by rw [hl']; exact h1) h2 HRI.out)
    have HV := Lib.hid (show pcT (pst zs ps) g P P.length + (bst (pst zs ps) g m 0 P).2 = coT (pst zs ps) g (P.length + m) P P.length from (co_pc rfl hpr).symm)
    have HX := Lib.hid (show P ++ (bst (pst zs ps) g m 0 P).1 = P from List.append_nil P)
    have HO := Lib.hid hO
    rw [← hl']
    have g1 : ((P.length : Int) == (P.length : Int)) = true := by simp
    generalize (bst (pst zs ps) g m 0 P) = R at *
    generalize pcT (pst zs ps) g P P.length = pc at *
    clear hpr hag h1 h2 hO hl hl' HRI
    go_enter Tryd.func35, Tryd.ntmps35
    go_wp2_with fail
    refine HC.out.mono ?_
    rintro e w1 ⟨rfl, hb⟩
    have O1 := Lib.hid (own_.own_below HO.out hb)
    have HB1 := Lib.hid hb
    clear hb HC
    go_wp2_with fail
    go_ret2
    exact ⟨_, by rw [HV.out]; rfl, by rw [HX.out]; exact O1.out, HB1.out⟩
  | succ r ih =>
    intro P B g0 ce w hl hpr hB h1 h2 hO
    obtain ⟨iI, hiI, hzI0, hzI1, hzI2⟩ := info_parts infoI
    have hg := (akB_yes hq).2.2.2
    have hm := (akB_yes hq).2.2.1
    have hn6 := (tvB_yes (akB_yes hq).1).2
    have hi : P.length < n := by omega
    have IH1 := Lib.hid (fun (g0 ce : Nat) (W : World) (hw : w.heap.size ≤ W.heap.size) (hb : Below w.heap.size w W) (hO : W.ownsRow w.heap.size 3 1 (.slice (some ⟨g0, 0, none⟩) (P.length + 1) ce) (P.length + 1) (cellsI (P ++ [-1]))) => show Calls Tryd.prog 35 #[.slice A n c, .slice C m cq, .int .i64 g, .slice (some ⟨g0, 0, none⟩) (P.length + 1) ce] W (fun e w' => ∃ v, e = .returned (.tuple #[v, .int .i64 ((pcT (pst zs ps) g P P.length + (g + 1)) + (bst (pst zs ps) g m r (P ++ [-1])).2)]) ∧ w'.ownsRow w.heap.size 3 1 v n (cellsI ((P ++ [-1]) ++ (bst (pst zs ps) g m r (P ++ [-1])).1)) ∧ Below W.heap.size W w') from by
      have := ih (P ++ [-1]) w.heap.size g0 ce W (by rw [List.length_append]; show P.length + 1 + r = n; omega) (pr_none hpr) hw (h1.next hb) (h2.next hb) (by rw [List.length_append]; exact hO)
      rw [pc_none, List.length_append] at this
      exact this)
    have IH2 := Lib.hid (fun (k : Nat) (hk : k < m) (hc : P.contains (k : Int) = false) (hd : pst zs ps P.length k ≤ g) (g0 ce : Nat) (W : World) (hw : w.heap.size ≤ W.heap.size) (hb : Below w.heap.size w W) (hO : W.ownsRow w.heap.size 3 1 (.slice (some ⟨g0, 0, none⟩) (P.length + 1) ce) (P.length + 1) (cellsI (P ++ [(k : Int)]))) => show Calls Tryd.prog 35 #[.slice A n c, .slice C m cq, .int .i64 g, .slice (some ⟨g0, 0, none⟩) (P.length + 1) ce] W (fun e w' => ∃ v, e = .returned (.tuple #[v, .int .i64 ((pcT (pst zs ps) g P P.length + pst zs ps P.length k) + (bst (pst zs ps) g m r (P ++ [(k : Int)])).2)]) ∧ w'.ownsRow w.heap.size 3 1 v n (cellsI ((P ++ [(k : Int)]) ++ (bst (pst zs ps) g m r (P ++ [(k : Int)])).1)) ∧ Below W.heap.size W w') from by
      have := ih (P ++ [(k : Int)]) w.heap.size g0 ce W (by rw [List.length_append]; show P.length + 1 + r = n; omega) (pr_some hpr hk hc hd) hw (h1.next hb) (h2.next hb) (by rw [List.length_append]; exact hO)
      rw [pc_some, List.length_append] at this
      exact this)
    have HOW := Lib.hid (fun (W : World) (hb : Below w.heap.size w W) => own1 P g0 0 P.length ce W (by omega) ((intc.rd_of_own hO rfl).next hb))
    have HHAS := Lib.hid (fun (k : Nat) (W : World) (hb : Below w.heap.size w W) (d0 : Nat) (os : Array Obj) => Calls.regrown_of (asgu.to_below (asgs.has1 P (k : Int) (some ⟨g0, 0, none⟩) P.length ce (Sort.grow (redrawn W d0) os) (by omega) (((intc.rd_of_own hO rfl).next hb).next (below_regrown W d0 os)))))
    have HT := Lib.hid (fun (k : Nat) (hk : k < m) (W : World) (d0 : Nat) (os : Array Obj) => Calls.regrown_of (show Calls Tryd.prog 81 #[.agg #[.int .i64 (fld 6 zs P.length 0), .int .i64 (fld 6 zs P.length 1), .int .i64 (fld 6 zs P.length 2), .int .i64 (fld 6 zs P.length 3), .int .i64 (fld 6 zs P.length 4), .int .i64 (fld 6 zs P.length 5)], .agg #[.int .i64 (fld 2 ps k 0), .int .i64 (fld 2 ps k 1)]] (Sort.grow (redrawn W d0) os) (fun e w' => e = .returned (.int .i64 (pst zs ps P.length k)) ∧ Below (Sort.grow (redrawn W d0) os).heap.size (Sort.grow (redrawn W d0) os) w') from asgs.distance15 (fld 6 zs P.length 0) (fld 6 zs P.length 1) (fld 6 zs P.length 2) (fld 6 zs P.length 3) (fld 6 zs P.length 4) (fld 6 zs P.length 5) (fld 2 ps k 0) (fld 2 ps k 1) (ak_track hq hi) (ak_plot hq hk) (Sort.grow (redrawn W d0) os)))
    obtain ⟨S, hS⟩ : ∃ S : Nat → List Int × Int, S = stp P (pst zs ps P.length) g (fun k => (bst (pst zs ps) g m r (P ++ [(k : Int)]))) (-1 :: (bst (pst zs ps) g m r (P ++ [-1])).1, (bst (pst zs ps) g m r (P ++ [-1])).2 + (g + 1)) := ⟨_, rfl⟩
    have HEND := (show (bst (pst zs ps) g m (r + 1) P) = S m by rw [hS]; rfl)
    have H0 := Lib.hid (show (S 0).1 = -1 :: (bst (pst zs ps) g m r (P ++ [-1])).1 ∧ (S 0).2 = (bst (pst zs ps) g m r (P ++ [-1])).2 + (g + 1) by rw [hS]; exact ⟨rfl, rfl⟩)
    have HSK := Lib.hid (fun (k : Nat) (h : P.contains (k : Int) = true ∨ g < pst zs ps P.length k) => show S (k + 1) = S k by rw [hS]; exact stp_skip h)
    have HTK := Lib.hid (fun (k : Nat) (h1 : P.contains (k : Int) = false) (h2 : pst zs ps P.length k ≤ g) (h3 : (bst (pst zs ps) g m r (P ++ [(k : Int)])).2 + pst zs ps P.length k < (S k).2) => show (S (k + 1)).1 = (k : Int) :: (bst (pst zs ps) g m r (P ++ [(k : Int)])).1 ∧ (S (k + 1)).2 = (bst (pst zs ps) g m r (P ++ [(k : Int)])).2 + pst zs ps P.length k by
      have := stp_take (q := fun k : Nat => (bst (pst zs ps) g m r (P ++ [(k : Int)]))) (a := (-1 :: (bst (pst zs ps) g m r (P ++ [-1])).1, (bst (pst zs ps) g m r (P ++ [-1])).2 + (g + 1))) h1 (show ¬ g < pst zs ps P.length k by omega) (by rw [← hS]; exact h3)
      rw [hS, this]; exact ⟨rfl, rfl⟩)
    have HKP := Lib.hid (fun (k : Nat) (h1 : P.contains (k : Int) = false) (h2 : pst zs ps P.length k ≤ g) (h3 : (S k).2 ≤ (bst (pst zs ps) g m r (P ++ [(k : Int)])).2 + pst zs ps P.length k) => show S (k + 1) = S k by
      have := stp_keep (q := fun k : Nat => (bst (pst zs ps) g m r (P ++ [(k : Int)]))) (a := (-1 :: (bst (pst zs ps) g m r (P ++ [-1])).1, (bst (pst zs ps) g m r (P ++ [-1])).2 + (g + 1))) h1 (show ¬ g < pst zs ps P.length k by omega) (by rw [← hS]; show ¬ (bst (pst zs ps) g m r (P ++ [(k : Int)])).2 + pst zs ps P.length k < (S k).2; omega)
      rw [hS]; exact this)
    rw [HEND]
    have HR1 := Lib.hid h1
    have HR2 := Lib.hid h2
    have HCI := Lib.hid (fun x : Int => show cellsI P ++ [Value.int .i64 x] = cellsI (P ++ [x]) by unfold cellsI; rw [List.map_append]; rfl)
    have HSE := Lib.hid (fun (x : Int) (t : List Int) => (step_eq P x t).symm)
    have g1 : ((P.length : Int) == (n : Int)) = false := beq_eq_false_iff_ne.mpr (by omega)
    have hpl0 : (0 : Int) ≤ (P.length : Int) := Int.natCast_nonneg _
    have hpln : (P.length : Int) < (n : Int) := by omega
    have HIP := Lib.hid hi
    have HBB := Lib.hid hB
    have hpl6 : P.length ≤ 6 := by omega
    clear ih hq hl hS HEND hi hpr hB h1 h2 hO
    generalize (bst (pst zs ps) g m r (P ++ [-1])) = R1 at *
    obtain ⟨xs1, c1⟩ := R1
    generalize pcT (pst zs ps) g P P.length = pc at *
    go_enter Tryd.func35, Tryd.ntmps35
    go_wp2_with fail
    refine (HOW.out w (Below.refl _ _)).mono ?_
    rintro e W1 ⟨v1, rfl, ho, hb⟩
    obtain ⟨A1, c1', rfl⟩ := own_sliceZ ho
    have hbs := hb.size
    have O5 := Lib.hid (ho.alloc (.cells #[.int .i64 (-1)] 3))
    have B5 := Lib.hid (hb.alloc hb.size (.cells #[.int .i64 (-1)] 3))
    clear ho hb
    go_wp2_with (at_builtin; refine wpList_append_any rfl (.tmp 33) (.tmp 34) 45 rfl w.heap.size 3 iI (.int .i64 0) 1 8 Tryd.underlying45 hiI hzI0 hzI1 hzI2 rfl (by decide) _ P.length (cellsI P) rfl O5.out ⟨W1.heap.size, 0, none⟩ 1 1 [.int .i64 (-1)] rfl rfl (cell_one_new _ _ _) (own_.one_cell _ rfl) (by unfold maxLen; omega) (by omega) (by rw [World.size_alloc]; omega) ?_; intro v6 w6 o6 g6 n6)
    obtain ⟨g1', c6, rfl⟩ := own_some o6 (by omega)
    rw [HCI.out] at o6
    have B6 := Lib.hid (B5.out.grown g6 B5.out.size (own_.row_ge O5.out))
    refine (IH1.out g1' c6 w6 B6.out.size B6.out o6).mono ?_
    rintro e W2 ⟨v2, rfl, ho2, hb2⟩
    obtain ⟨A2, c2', rfl⟩ := own_sliceZ ho2
    have O7 := Lib.hid (show W2.ownsRow w.heap.size 3 1 (.slice A2 n c2') n (cellsI (P ++ (S 0).1)) by rw [H0.out.1, ← HSE.out]; exact ho2)
    have B7 := Lib.hid (B6.out.trans (hb2.mono B6.out.size))
    clear ho2 hb2 o6 g6 n6 O5 B5 B6 IH1 hbs
    go_wp2_with fail
    go_loopw [11, 12, 13] (fun b q j wr => ∃ k : Nat, k ≤ m ∧ j = .int .i64 k ∧ q = .int .i64 (pc + (S k).2) ∧ wr.ownsRow w.heap.size 3 1 b n (cellsI (P ++ (S k).1)) ∧ Below w.heap.size w wr) (fun _ _ j _ => m - (intOf j).toNat)
    case atStart => exact ⟨0, Nat.zero_le _, rfl, by rw [H0.out.2]; exact congrArg _ (by show pc + (g + 1) + c1 = pc + (c1 + (g + 1)); omega), O7.out, B7.out⟩
    case round =>
      obtain ⟨k, hk, rfl, rfl, hO, hb⟩ := hrel
      obtain ⟨Ab, cb, rfl⟩ := own_sliceZ hO
      have OB := Lib.hid hO
      have HB := Lib.hid hb
      clear O7 B7 hO hb
      by_cases hlt : k < m
      · obtain ⟨b2, o2, rfl, l2, q0, q1⟩ := asgs.cells2 (HR2.out.next HB.out) hlt
        obtain ⟨b1, o1, rfl, -, a0, a1, a2, a3, a4, a5⟩ := cellsE (HR1.out.next HB.out) HIP.out
        have hlt2 : (k : Int) < (m : Int) := by omega
        have hk0 : (0 : Int) ≤ (k : Int) := Int.natCast_nonneg _
        have TD := Lib.hid (HT.out k hlt)
        have TC := Lib.hid (HHAS.out k wr HB.out)
        have HSKk := Lib.hid (HSK.out k)
        have HTKk := Lib.hid (HTK.out k)
        have HKPk := Lib.hid (HKP.out k)
        have IHk := Lib.hid (IH2.out k hlt)
        generalize fld 6 zs P.length 0 = u0 at *
        generalize fld 6 zs P.length 1 = u1 at *
        generalize fld 6 zs P.length 2 = u2 at *
        generalize fld 6 zs P.length 3 = u3 at *
        generalize fld 6 zs P.length 4 = u4 at *
        generalize fld 6 zs P.length 5 = u5 at *
        generalize fld 2 ps k 0 = v0 at *
        generalize fld 2 ps k 1 = v1 at *
        generalize pst zs ps P.length k = dd at *
        cases hc : P.contains (k : Int)
        · by_cases hd : g < dd
          · have HV := Lib.hid (HSKk.out (Or.inr hd))
            rw [hc] at TC
            have g9 : decide (g < dd) = true := decide_eq_true hd
            clear hc HSKk HTKk HKPk IHk
            generalize S k = sk at *
            go_wp2_with fail
            have a0' := fun d0 os => cell_regrown a0 d0 os
            have a1' := fun d0 os => cell_regrown a1 d0 os
            have a2' := fun d0 os => cell_regrown a2 d0 os
            have a3' := fun d0 os => cell_regrown a3 d0 os
            have a4' := fun d0 os => cell_regrown a4 d0 os
            have a5' := fun d0 os => cell_regrown a5 d0 os
            have q0' := fun d0 os => cell_regrown q0 d0 os
            have q1' := fun d0 os => cell_regrown q1 d0 os
            clear a0 a1 a2 a3 a4 a5 q0 q1
            refine wp_region_quiet_below (by kernel_rfl) (by kernel_rfl) ?_
            repeat (
              with_reducible refine wpQuiet_step (fun K hK => ?_)
              go_simp
              first
                | (refine hK _ ?_; clear hK K)
                | (apply Exists.intro
                   refine ⟨fun _ => ?_, hK _ ?_⟩
                   (first
                     | (go_at_call 80; with_reducible exact TC.out _ _)
                     | (go_at_call 81; with_reducible exact TD.out _ _ _))
                   clear hK K))
            with_reducible refine wpQuiet_nil ?_
            intro _ hw'
            obtain ⟨⟨dq, osq⟩, hw''⟩ := hw'
            subst hw''
            have hbl := (below_regrown wr dq osq)
            clear a0' a1' a2' a3' a4' a5' q0' q1'
            generalize Sort.grow (redrawn wr dq) osq = w3 at *
            have HB3 := Lib.hid (HB.out.trans (hbl.mono HB.out.size))
            have OB3 := Lib.hid (own_.own_below OB.out hbl)
            clear hbl HB OB TC TD
            go_wp2_with fail
            go_roundw
            case rel => exact ⟨k + 1, by omega, by go_num, by rw [HV.out], by rw [HV.out]; exact OB3.out, HB3.out⟩
            case measure => simp [intOf]; omega
          · have hd2 : dd ≤ g := by omega
            have g9 : decide (g < dd) = false := decide_eq_false hd
            have IHc := Lib.hid (IHk.out hc hd2)
            have HTC := Lib.hid (HTKk.out hc hd2)
            have HKC := Lib.hid (HKPk.out hc hd2)
            rw [hc] at TC
            clear hc HSKk HTKk HKPk IHk HTK HKP IH2
            generalize (bst (pst zs ps) g m r (P ++ [(k : Int)])) = R2 at *
            obtain ⟨xs2, c2⟩ := R2
            go_wp2_with fail
            have a0' := fun d0 os => cell_regrown a0 d0 os
            have a1' := fun d0 os => cell_regrown a1 d0 os
            have a2' := fun d0 os => cell_regrown a2 d0 os
            have a3' := fun d0 os => cell_regrown a3 d0 os
            have a4' := fun d0 os => cell_regrown a4 d0 os
            have a5' := fun d0 os => cell_regrown a5 d0 os
            have q0' := fun d0 os => cell_regrown q0 d0 os
            have q1' := fun d0 os => cell_regrown q1 d0 os
            clear a0 a1 a2 a3 a4 a5 q0 q1
            refine wp_region_quiet_below (by kernel_rfl) (by kernel_rfl) ?_
            repeat (
              with_reducible refine wpQuiet_step (fun K hK => ?_)
              go_simp
              first
                | (refine hK _ ?_; clear hK K)
                | (apply Exists.intro
                   refine ⟨fun _ => ?_, hK _ ?_⟩
                   (first
                     | (go_at_call 80; with_reducible exact TC.out _ _)
                     | (go_at_call 81; with_reducible exact TD.out _ _ _))
                   clear hK K))
            with_reducible refine wpQuiet_nil ?_
            intro _ hw'
            obtain ⟨⟨dq, osq⟩, hw''⟩ := hw'
            subst hw''
            have hbl := (below_regrown wr dq osq)
            clear a0' a1' a2' a3' a4' a5' q0' q1'
            generalize Sort.grow (redrawn wr dq) osq = w3 at *
            have HB3 := Lib.hid (HB.out.trans (hbl.mono HB.out.size))
            have OB3 := Lib.hid (own_.own_below OB.out hbl)
            clear hbl HB OB TC TD
            go_wp2_with fail
            refine (HOW.out w3 HB3.out).mono ?_
            rintro e W1 ⟨v1, rfl, ho, hb⟩
            obtain ⟨A1, c1', rfl⟩ := own_sliceZ ho
            have HB4 := Lib.hid (HB3.out.trans (hb.mono HB3.out.size))
            have OB4 := Lib.hid (own_.own_below OB3.out hb)
            have hbs := HB4.out.size
            have O5 := Lib.hid ((own_.own_base ho HB3.out.size).alloc (.cells #[.int .i64 (k : Int)] 3))
            have B5 := Lib.hid (HB4.out.alloc hbs (.cells #[.int .i64 (k : Int)] 3))
            have P5 := Lib.hid (OB4.out.alloc (.cells #[.int .i64 (k : Int)] 3))
            have HAP := Lib.hid (show ∀ g, (Value.slice A1 P.length c1').ownBlock = some g → (Value.slice Ab n cb).ownBlock ≠ some g from fun gq e1 e2 => by
              have h3 := own_.row_ge ho gq e1
              have h4 := own_row_lt OB3.out gq e2
              omega)
            clear ho hb HB3 OB3
            go_wp2_with (at_builtin; refine wpList_append_any rfl (.tmp 66) (.tmp 68) 45 rfl w.heap.size 3 iI (.int .i64 0) 1 8 Tryd.underlying45 hiI hzI0 hzI1 hzI2 rfl (by decide) _ P.length (cellsI P) rfl O5.out ⟨W1.heap.size, 0, none⟩ 1 1 [.int .i64 (k : Int)] rfl rfl (cell_one_new _ _ _) (own_.one_cell _ rfl) (by unfold maxLen; omega) (by omega) (by rw [World.size_alloc]; omega) ?_; intro v6 w6 o6 g6 n6)
            obtain ⟨g1', c6, rfl⟩ := own_some o6 (by omega)
            rw [HCI.out] at o6
            have B6 := Lib.hid (B5.out.grown g6 B5.out.size (own_.row_ge O5.out))
            have P6 := Lib.hid (own_kept_at P5.out g6 (fun gq e1 e2 => HAP.out gq e2 e1))
            refine (IHc.out g1' c6 w6 B6.out.size B6.out o6).mono ?_
            rintro e W2 ⟨v2, rfl, ho2, hb2⟩
            obtain ⟨A2, c2', rfl⟩ := own_sliceZ ho2
            have B7 := Lib.hid (B6.out.trans (hb2.mono B6.out.size))
            have P7 := Lib.hid (own_.own_below P6.out hb2)
            have O7 := Lib.hid ho2
            clear ho2 hb2 o6 g6 n6 O5 B5 B6 P5 P6 HB4 OB4 HAP IHc hbs
            by_cases hless : c2 + dd < (S k).2
            · have HV := Lib.hid (HTC.out hless)
              have g8 : decide (pc + dd + c2 < pc + (S k).2) = true := decide_eq_true (by omega)
              have g8' : pc + dd + c2 < pc + (S k).2 := by omega
              have HO7 := Lib.hid (show W2.ownsRow w.heap.size 3 1 (.slice A2 n c2') n (cellsI (P ++ (S (k + 1)).1)) by rw [HV.out.1, ← HSE.out]; exact O7.out)
              have HV2 := Lib.hid (show pc + (S (k + 1)).2 = pc + dd + c2 by rw [HV.out.2]; show pc + (c2 + dd) = pc + dd + c2; omega)
              clear HTC HKC hless
              generalize S k = sk at *
              go_wp2_with fail
              go_roundw
              case rel => exact ⟨k + 1, by omega, by go_num, by rw [HV2.out], HO7.out, B7.out⟩
              case measure => simp [intOf]; omega
            · have HV := Lib.hid (HKC.out (by show (S k).2 ≤ c2 + dd; omega))
              have g8 : decide (pc + dd + c2 < pc + (S k).2) = false := decide_eq_false (by omega)
              have g8' : ¬ pc + dd + c2 < pc + (S k).2 := by omega
              clear HTC HKC hless
              generalize S k = sk at *
              go_wp2_with fail
              go_roundw
              case rel => exact ⟨k + 1, by omega, by go_num, by rw [HV.out], by rw [HV.out]; exact P7.out, B7.out⟩
              case measure => simp [intOf]; omega
        · have HV := Lib.hid (HSKk.out (Or.inl hc))
          rw [hc] at TC
          clear hc HSKk HTKk HKPk IHk a0 a1 a2 a3 a4 a5 q0 q1
          generalize S k = sk at *
          go_wp2_with fail
          refine wp_region_quiet_below (by kernel_rfl) (by kernel_rfl) ?_
          repeat (
            with_reducible refine wpQuiet_step (fun K hK => ?_)
            go_simp
            first
              | (refine hK _ ?_; clear hK K)
              | (apply Exists.intro
                 refine ⟨fun _ => ?_, hK _ ?_⟩
                 (first
                   | (go_at_call 80; with_reducible exact TC.out _ _))
                 clear hK K))
          with_reducible refine wpQuiet_nil ?_
          intro _ hw'
          obtain ⟨⟨dq, osq⟩, hw''⟩ := hw'
          subst hw''
          have hbl := (below_regrown wr dq osq)
          generalize Sort.grow (redrawn wr dq) osq = w3 at *
          have HB3 := Lib.hid (HB.out.trans (hbl.mono HB.out.size))
          have OB3 := Lib.hid (own_.own_below OB.out hbl)
          clear hbl HB OB TC TD
          go_wp2_with fail
          go_roundw
          case rel => exact ⟨k + 1, by omega, by go_num, by rw [HV.out], by rw [HV.out]; exact OB3.out, HB3.out⟩
          case measure => simp [intOf]; omega
      · obtain rfl : k = m := by omega
        go_wp2_with fail
        go_ret2
        exact ⟨_, rfl, own_.own_base OB.out HBB.out, HB.out⟩

end Go.Proofs.YtedocpocfpopgaaDoor.asgy

/- spec's l15Free, FreePlots, NearestAssignment. -/
namespace Go.Proofs.YtedocpocfpopgaaDoor.asgx
open Go.RowKit Go.Proofs.YtedocpocfpopgaaDoor.ints Go.Proofs.YtedocpocfpopgaaDoor.lst Go.Proofs.YtedocpocfpopgaaDoor.in_ Go.Proofs.YtedocpocfpopgaaDoor.ats Go.Proofs.YtedocpocfpopgaaDoor.pos Go.Proofs.YtedocpocfpopgaaDoor.trk Go.Proofs.YtedocpocfpopgaaDoor.trkm Go.Proofs.YtedocpocfpopgaaDoor.trke Go.Proofs.YtedocpocfpopgaaDoor.intc Go.Proofs.YtedocpocfpopgaaDoor.asg Go.Proofs.YtedocpocfpopgaaDoor.rws

set_option maxRecDepth 100000 in
set_option maxHeartbeats 4000000 in
theorem unpaired (xs : List Int) (C E : Option Addr) (m cq e0 ce : Nat) (w : World) (hm : m ≤ 1048577) (he0 : e0 ≤ 1048577) (h3 : RdI w w.heap.size E e0 xs) :
    Calls Tryd.prog 36 #[.slice C m cq, .slice E e0 ce] w fun e w' => ∃ v, e = .returned v ∧ w'.ownsRow w.heap.size 3 1 v (unT xs m).length (cellsI (unT xs m)) ∧ Below w.heap.size w w' := by
  obtain ⟨iI, hiI, hzI0, hzI1, hzI2⟩ := info_parts infoI
  have HC := Lib.hid (fun (k : Nat) (W : World) (hb : Below w.heap.size w W) => asgs.has1 xs (k : Int) E e0 ce W he0 (h3.next hb))
  have OE := Lib.hid (own_emptyZ w 3 1)
  have BE := Lib.hid ((Below.refl w.heap.size w).alloc (Nat.le_refl _) (.cells #[] 3))
  clear h3
  go_enter Tryd.func36, Tryd.ntmps36
  go_wp2_with fail
  go_loopw [5, 6] (fun v i wr => ∃ k : Nat, k ≤ m ∧ i = .int .i64 k ∧ wr.ownsRow w.heap.size 3 1 v (unT xs k).length (cellsI (unT xs k)) ∧ Below w.heap.size w wr) (fun _ i _ => m - (intOf i).toNat)
  case atStart => exact ⟨0, Nat.zero_le _, rfl, OE.out, BE.out⟩
  case round =>
    obtain ⟨k, hk, rfl, hO, hb⟩ := hrel
    clear OE BE
    obtain ⟨A5, c5, rfl⟩ := own_sliceZ hO
    have HLEN := Lib.hid (unT_le xs k)
    have HCk := Lib.hid (HC.out k wr hb)
    have CY := Lib.hid (fun h => un_yes (P := xs) (k := k) h)
    have CN := Lib.hid (fun h => un_no (P := xs) (k := k) h)
    have OK := Lib.hid hO
    have BK := Lib.hid hb
    have hwz := hb.size
    clear hO hb
    by_cases hlt : k < m
    · have hlt2 : (k : Int) < (m : Int) := by omega
      cases hc : xs.contains (k : Int)
      · have HT := Lib.hid (CN.out hc)
        rw [hc] at HCk
        have hlen := HLEN.out
        have O5 := Lib.hid (OK.out.alloc (.cells #[.int .i64 (k : Int)] 3))
        have B5 := Lib.hid (BK.out.alloc hwz (.cells #[.int .i64 (k : Int)] 3))
        clear hc CY CN
        generalize unT xs k = L at *
        go_wp2_with fail
        refine HCk.out.mono ?_
        rintro e w' ⟨rfl, rfl⟩
        go_wp2_with (at_builtin; refine wpList_append_any rfl (.tmp 18) (.tmp 20) 45 rfl w.heap.size 3 iI (.int .i64 0) 1 8 Tryd.underlying45 hiI hzI0 hzI1 hzI2 rfl (by decide) _ L.length (cellsI L) rfl O5.out ⟨wr.heap.size, 0, none⟩ 1 1 [.int .i64 (k : Int)] rfl rfl (cell_one_new _ _ _) (own_.one_cell _ rfl) (by unfold maxLen; omega) (by omega) (by rw [World.size_alloc]; omega) ?_; intro v6 w6 o6 g6 n6; obtain ⟨A6, c6, rfl⟩ := own_sliceZ o6)
        have O6 := Lib.hid (show w6.ownsRow w.heap.size 3 1 (.slice A6 (L.length + 1) c6) (unT xs (k + 1)).length (cellsI (unT xs (k + 1))) by rw [HT.out]; exact own_growI o6)
        have B6 := Lib.hid (B5.out.grown g6 B5.out.size (own_.row_ge O5.out))
        clear o6 g6 n6 O5 B5
        go_wp2_with fail
        go_roundw
        case rel => exact ⟨k + 1, by omega, by go_num, O6.out, B6.out⟩
        case measure => simp [intOf]; omega
      · have HT := Lib.hid (CY.out hc)
        rw [hc] at HCk
        clear hc CY CN
        go_wp2_with fail
        refine HCk.out.mono ?_
        rintro e w' ⟨rfl, rfl⟩
        go_wp2_with fail
        go_roundw
        case rel => exact ⟨k + 1, by omega, by go_num, by rw [HT.out]; exact OK.out, BK.out⟩
        case measure => simp [intOf]; omega
    · obtain rfl : k = m := by omega
      go_wp2_with fail
      go_ret
      exact ⟨_, rfl, OK.out, BK.out⟩

end Go.Proofs.YtedocpocfpopgaaDoor.asgx

/- spec's UpdateTracks. -/
namespace Go.Proofs.YtedocpocfpopgaaDoor.asgn
open Go.RowKit Go.Proofs.YtedocpocfpopgaaDoor.ints Go.Proofs.YtedocpocfpopgaaDoor.lst Go.Proofs.YtedocpocfpopgaaDoor.in_ Go.Proofs.YtedocpocfpopgaaDoor.ats Go.Proofs.YtedocpocfpopgaaDoor.pos Go.Proofs.YtedocpocfpopgaaDoor.trk Go.Proofs.YtedocpocfpopgaaDoor.trkm Go.Proofs.YtedocpocfpopgaaDoor.trke Go.Proofs.YtedocpocfpopgaaDoor.intc Go.Proofs.YtedocpocfpopgaaDoor.asg Go.Proofs.YtedocpocfpopgaaDoor.asgb Go.Proofs.YtedocpocfpopgaaDoor.asgk Go.Proofs.YtedocpocfpopgaaDoor.rws

theorem own_cap {w : World} {B e s n c : Nat} {A : Option Addr} {xs : List Value} (h : w.ownsRow B e s (.slice A n c) n xs) : n ≤ c := by
  rcases h.2 with ⟨e1, _⟩ | ⟨g, cap, cur, e1, _, _, h1, _⟩
  · injection e1 with _ h2 h3; omega
  · injection e1 with _ h2 h3; omega
theorem drop_at {xs : List Int} {k : Nat} {x : Int} (h : xs[k]? = some x) : xs.drop k = x :: xs.drop (k + 1) := by
  have hl := (List.getElem?_eq_some_iff.1 h).1
  have hx := (List.getElem?_eq_some_iff.1 h).2
  rw [List.drop_eq_getElem_cons hl, hx]
/-- The Ids and the places of the hits: two rows of the call's own, of two types. -/
def Hits (B : Nat) (W : World) (v8 : Value) (n : Nat) (ids : List Int) (v9 : Value) (m : Nat) (pls : List Int) : Prop :=
  W.ownsRow B 3 1 v8 n (cellsI ids) ∧ W.ownsRow B 63 2 v9 m (cellsI pls)
section
variable {B : Nat} {W W' : World} {v8 v9 v' : Value} {n m : Nat} {ids pls : List Int} {d x y : Int}
theorem Hits.below (h : Hits B W v8 n ids v9 m pls) (hb : Below W.heap.size W W') : Hits B W' v8 n ids v9 m pls := ⟨own_.own_below h.1 hb, own_.own_below h.2 hb⟩
theorem Hits.left (h : Hits B W v8 n ids v9 m pls) (hg : W.grownBy W' v8.ownBlock) (ho : W'.ownsRow B 3 1 v' (n + 1) (cellsI ids ++ [.int .i64 d])) : Hits B W' v' (n + 1) (ids ++ [d]) v9 m pls :=
  ⟨by unfold cellsI at ho ⊢; rw [List.map_append]; exact ho, rws.kept_row h.2 h.1 (by decide) hg⟩
theorem Hits.right (h : Hits B W v8 n ids v9 m pls) (hg : W.grownBy W' v9.ownBlock) (ho : W'.ownsRow B 63 2 v' (m + 1) (cellsI pls ++ [.int .i64 x, .int .i64 y])) : Hits B W' v8 n ids v' (m + 1) (pls ++ [x, y]) :=
  ⟨rws.kept_row h.1 h.2 (by decide) hg, by unfold cellsI at ho ⊢; rw [List.map_append]; exact ho⟩
end
set_option maxRecDepth 100000 in
set_option maxHeartbeats 8000000 in
theorem updateTracks (zs ps : List Int) (g : Int) (A C : Option Addr) (n c m cq : Nat) (w : World) (hn : n ≤ 1048577) (hm : m ≤ 1048577) (h1 : RdZ 6 w w.heap.size A n zs) (h2 : RdZ 2 w w.heap.size C m ps) :
    Calls Tryd.prog 8 #[.slice A n c, .slice C m cq, .int .i64 g] w fun e w' => ∃ v, e = .returned (.tuple #[v, .bool (upB zs n ps m g)]) ∧ w'.ownsRow w.heap.size 38 6 v (upN zs n ps m g) (cellsI (upL zs n ps m g)) ∧ Below w.heap.size w w' := by
  obtain ⟨iI, hiI, hzI0, hzI1, hzI2⟩ := info_parts infoI
  obtain ⟨iP, hiP, hzP0, hzP1, hzP2⟩ := info_parts infoP
  have H1 := Lib.hid (asgs.asked15 zs ps g A C n c m cq w hn hm h1 h2)
  cases hq : akB zs n ps m g
  · have HE := Lib.hid (u_no (u_ask hq))
    have HUB := Lib.hid (u_ask hq)
    rw [hq] at H1
    clear hq h1 h2
    go_enter Tryd.func8, Tryd.ntmps8
    go_wp2_with fail
    refine H1.out.mono ?_
    rintro e w1 ⟨rfl, hb⟩
    have OE := Lib.hid (own_.own_base (own_emptyZ w1 38 6) hb.size)
    have BZ := Lib.hid (hb.alloc hb.size (.cells #[] 38))
    clear hb
    go_wp2_with fail
    go_ret2
    exact ⟨_, by rw [HUB.out]; rfl, by rw [HE.out.1, HE.out.2]; exact OE.out, BZ.out⟩
  rw [hq] at H1
  have hm5 := (akB_yes hq).2.2.1
  have hn6 := (tvB_yes (akB_yes hq).1).2
  have HPR := Lib.hid (agB_yes (be_asg hq).1).2.2
  have HLV := Lib.hid (beV_length hq)
  have HUB := Lib.hid (show upB zs n ps m g = scB zs n (idT zs (beV zs n ps m g) n) (idT zs (beV zs n ps m g) n).length (plL ps (beV zs n ps m g) n) (idT zs (beV zs n ps m g) n).length by unfold upB upQ; rw [hq]; rfl)
  have HUP := Lib.hid (show upP zs n ps m g = upT ps (unT (beV zs n ps m g) m) (scL zs n (idT zs (beV zs n ps m g) n) (idT zs (beV zs n ps m g) n).length (plL ps (beV zs n ps m g) n) (idT zs (beV zs n ps m g) n).length) (scN zs n (idT zs (beV zs n ps m g) n) (idT zs (beV zs n ps m g) n).length (plL ps (beV zs n ps m g) n) (idT zs (beV zs n ps m g) n).length) from rfl)
  have HNO := Lib.hid (fun h => u_no (zs := zs) (n := n) (ps := ps) (m := m) (g := g) h)
  have HYE := Lib.hid (fun h => u_yes (zs := zs) (n := n) (ps := ps) (m := m) (g := g) h)
  have HSN := Lib.hid (scN_le zs n (idT zs (beV zs n ps m g) n) (idT zs (beV zs n ps m g) n).length (plL ps (beV zs n ps m g) n) (idT zs (beV zs n ps m g) n).length)
  have HSL := Lib.hid (scL_length zs n (idT zs (beV zs n ps m g) n) (idT zs (beV zs n ps m g) n).length (plL ps (beV zs n ps m g) n) (idT zs (beV zs n ps m g) n).length)
  have HIL := Lib.hid (idT_le zs (beV zs n ps m g) n)
  have HPL := Lib.hid (plL_length zs ps (beV zs n ps m g) n)
  have HUN := Lib.hid (fun (j : Nat) (x : Int) (h : (unT (beV zs n ps m g) m)[j]? = some x) => un_at h)
  have HUL := Lib.hid (unT_le (beV zs n ps m g) m)
  have HR2 := Lib.hid h2
  have HR1 := Lib.hid h1
  have HB15 := Lib.hid (fun (w1 : World) (hb : Below w.heap.size w w1) => show Calls Tryd.prog 35 #[.slice A n c, .slice C m cq, .int .i64 g, .slice (some ⟨w1.heap.size, 0, none⟩) 0 0] (w1.alloc (.cells #[] 3)) (fun e w' => ∃ v, e = .returned (.tuple #[v, .int .i64 (0 + (bst (pst zs ps) g m n []).2)]) ∧ w'.ownsRow w.heap.size 3 1 v n (cellsI (beV zs n ps m g)) ∧ Below (w1.alloc (.cells #[] 3)).heap.size (w1.alloc (.cells #[] 3)) w') from by
    have hb2 := hb.alloc hb.size (.cells #[] 3)
    rw [(be_yes hq).1]
    exact asgy.best15 hq n [] w.heap.size w1.heap.size 0 (w1.alloc (.cells #[] 3)) (Nat.zero_add n) rfl hb2.size (h1.next hb2) (h2.next hb2) (own_.own_base (own_emptyZ w1 3 1) hb.size))
  have HSC := Lib.hid (fun (A8 A9 : Option Addr) (c8 c9 : Nat) (W : World) (hb : Below w.heap.size w W) (h3 : RdI W W.heap.size A8 (idT zs (beV zs n ps m g) n).length (idT zs (beV zs n ps m g) n)) (h4 : RdZ 2 W W.heap.size A9 (idT zs (beV zs n ps m g) n).length (plL ps (beV zs n ps m g) n)) => trkx.scanTracks zs (idT zs (beV zs n ps m g) n) (plL ps (beV zs n ps m g) n) A A8 A9 n c (idT zs (beV zs n ps m g) n).length c8 (idT zs (beV zs n ps m g) n).length c9 W hn (by have := HIL.out; omega) (by have := HIL.out; omega) (h1.next hb) h3 h4)
  have HUF := Lib.hid (fun (E : Option Addr) (ce : Nat) (W : World) (h3 : RdI W W.heap.size E n (beV zs n ps m g)) => asgx.unpaired (beV zs n ps m g) C E m cq n ce W hm (by omega) h3)
  have HIE := Lib.hid (fun (i : Nat) => idT_le zs (beV zs n ps m g) i)
  clear hq h1 h2
  generalize upP zs n ps m g = UP at *
  generalize scL zs n (idT zs (beV zs n ps m g) n) (idT zs (beV zs n ps m g) n).length (plL ps (beV zs n ps m g) n) (idT zs (beV zs n ps m g) n).length = sl at *
  generalize scN zs n (idT zs (beV zs n ps m g) n) (idT zs (beV zs n ps m g) n).length (plL ps (beV zs n ps m g) n) (idT zs (beV zs n ps m g) n).length = sn at *
  generalize scD zs n (idT zs (beV zs n ps m g) n) (idT zs (beV zs n ps m g) n).length (plL ps (beV zs n ps m g) n) (idT zs (beV zs n ps m g) n).length = sd at *
  generalize scB zs n (idT zs (beV zs n ps m g) n) (idT zs (beV zs n ps m g) n).length (plL ps (beV zs n ps m g) n) (idT zs (beV zs n ps m g) n).length = sb at *
  generalize unT (beV zs n ps m g) m = fr at *
  generalize hPLS : (plL ps (beV zs n ps m g) n) = pls at *
  generalize hIDS : (idT zs (beV zs n ps m g) n) = ids at *
  generalize (beV zs n ps m g) = bv at *
  have HPLS := Lib.hid hPLS
  have HIDS := Lib.hid hIDS
  clear hPLS hIDS
  generalize 0 + (bst (pst zs ps) g m n []).2 = cst at *
  go_enter Tryd.func8, Tryd.ntmps8
  go_wp2_with fail
  refine H1.out.mono ?_
  rintro e w1 ⟨rfl, hb⟩
  have HB1 := Lib.hid (hb.alloc hb.size (.cells #[] 3))
  have HX := Lib.hid (HB15.out w1 hb)
  clear hb HB15 H1
  go_wp2_with fail
  refine HX.out.mono ?_
  rintro e w2 ⟨v, rfl, ho, hb⟩
  obtain ⟨A1, c1, rfl⟩ := own_sliceZ ho
  have HB2 := Lib.hid (HB1.out.trans (hb.mono HB1.out.size))
  have O2 := Lib.hid ho
  have HHS := Lib.hid (show Hits w2.heap.size ((w2.alloc (.cells #[] 3)).alloc (.cells #[] 63)) (.slice (some ⟨w2.heap.size, 0, none⟩) 0 0) 0 [] (.slice (some ⟨w2.heap.size + 1, 0, none⟩) 0 0) 0 [] from by
    have h1 := own_emptyZ (w2.alloc (.cells #[] 3)) 63 2
    rw [World.size_alloc] at h1
    exact ⟨(own_emptyZ w2 3 1).alloc _, own_.own_base h1 (Nat.le_succ _)⟩)
  have HBS := Lib.hid (((Below.refl w2.heap.size w2).alloc (Nat.le_refl _) (.cells #[] 3)).alloc (by rw [World.size_alloc]; omega) (.cells #[] 63))
  clear ho hb HX HB1
  go_wp2_with fail
  go_loopw [10, 11, 12] (fun u10 u11 j wr => ∃ i : Nat, i ≤ n ∧ j = .int .i64 i ∧ Hits w2.heap.size wr u10 (idT zs bv i).length (idT zs bv i) u11 (idT zs bv i).length (plL ps bv i) ∧ Below w2.heap.size w2 wr) (fun _ _ j _ => n - (intOf j).toNat)
  case atStart => exact ⟨0, Nat.zero_le _, rfl, HHS.out, HBS.out⟩
  case round =>
    obtain ⟨i, hi, rfl, hT, hb⟩ := hrel
    obtain ⟨A8, c8, rfl⟩ := own_sliceZ hT.1
    obtain ⟨A9, c9, rfl⟩ := own_sliceZ hT.2
    have HT := Lib.hid hT
    have HB := Lib.hid hb
    have HBW := Lib.hid (HB2.out.trans (hb.mono HB2.out.size))
    have OB := Lib.hid (own_.own_below O2.out hb)
    clear hT hb HHS HBS
    by_cases hlt : i < n
    · obtain ⟨b3, o3, z, rfl, l3, hx, p0⟩ := (intc.rd_of_own OB.out HLV.out).at_ hlt
      have hlt2 : (i : Int) < (n : Int) := by omega
      have hi0 : (0 : Int) ≤ (i : Int) := Int.natCast_nonneg _
      have HGX := Lib.hid (getD_some hx)
      have HOX := Lib.hid (prB_at HPR.out hlt)
      have hle := HIE.out i
      rcases pairOk_yes HOX.out with hx1 | ⟨a, ha5, hx1, _, _⟩
      · rw [HGX.out] at hx1
        have HX := Lib.hid (hit_no (zs := zs) (ps := ps) (show bv.getD i 0 = -1 by rw [HGX.out, hx1]))
        have g1 : ¬ 0 ≤ z := by omega
        have g2 : decide (0 ≤ z) = false := decide_eq_false g1
        clear hx1 HGX HOX hx
        go_wp2_with fail
        go_roundw
        case rel => exact ⟨i + 1, by omega, by go_num, by rw [HX.out.1, HX.out.2]; exact HT.out, HB.out⟩
        case measure => simp [intOf]; omega
      · rw [HGX.out] at hx1
        subst hx1
        have HX := Lib.hid (hit_yes (zs := zs) (ps := ps) HGX.out)
        have ha0 : (0 : Int) ≤ (a : Int) := Int.natCast_nonneg _
        have ham : (a : Int) < (m : Int) := by omega
        obtain ⟨b1, o1, rfl, l1, a0, -⟩ := cellsE (HR1.out.next HBW.out) hlt
        have hwz := HB.out.size
        generalize hd : fld 6 zs i 0 = d at *
        have HD := Lib.hid hd
        clear hd
        have T5 := Lib.hid (HT.out.below ((Below.refl wr.heap.size wr).alloc (Nat.le_refl _) (.cells #[.int .i64 d] 3)))
        have B5 := Lib.hid (HB.out.alloc hwz (.cells #[.int .i64 d] 3))
        generalize hids : idT zs bv i = ids0 at *
        generalize plL ps bv i = pls0 at *
        clear HGX HOX hids
        have hq6 : ids0.length ≤ 6 := by omega
        generalize hq : ids0.length = q at *
        have HQ := Lib.hid hq
        clear hq
        have HNX := Lib.hid (fun (W : World) (hb : Below w2.heap.size w2 W) => show W.cell? ⟨b3, o3 + i, none⟩ = some (.int .i64 (a : Int)) from by
          obtain ⟨b3', o3', z', e, -, hx', p0'⟩ := (intc.rd_of_own (own_.own_below O2.out hb) HLV.out).at_ hlt
          obtain ⟨rfl, rfl⟩ : b3 = b3' ∧ o3 = o3' := by injection e with e; injection e with e1 e2; exact ⟨e1, e2⟩
          rw [hx] at hx'
          injection hx' with hx'
          rw [hx']
          exact p0')
        have HNP := Lib.hid (fun (W : World) (hb : Below w.heap.size w W) => asgs.cells2 (HR2.out.next hb) ha5)
        clear hx
        generalize fld 2 ps a 0 = x at *
        generalize fld 2 ps a 1 = y at *
        go_wp2_with (first
          | (at_builtin; refine wpList_append_any rfl (.tmp 48) (.tmp 54) 45 rfl w2.heap.size 3 iI (.int .i64 0) 1 8 Tryd.underlying45 hiI hzI0 hzI1 hzI2 rfl (by decide) _ q (cellsI ids0) rfl T5.out.1 ⟨wr.heap.size, 0, none⟩ 1 1 [.int .i64 d] rfl rfl (cell_one_new _ _ _) (own_.one_cell _ rfl) (by unfold maxLen; omega) (by omega) (by rw [World.size_alloc]; omega) ?_; intro v6 w6 o6 g6 n6; have T6 := Lib.hid (T5.out.left g6 o6); have B6 := Lib.hid (B5.out.grown g6 B5.out.size (own_.row_ge T5.out.1)); obtain ⟨A6, c6, rfl⟩ := own_sliceZ o6; have p0 := HNX.out w6 B6.out; obtain ⟨bq, oq, rfl, lq, q0, q1⟩ := HNP.out w6 (HB2.out.trans (B6.out.mono HB2.out.size)); have hw6 := B6.out.size; have T7 := Lib.hid (T6.out.below ((Below.refl w6.heap.size w6).alloc (Nat.le_refl _) (.cells #[.int .i64 x, .int .i64 y] 63))); have B7 := Lib.hid (B6.out.alloc hw6 (.cells #[.int .i64 x, .int .i64 y] 63)); clear o6 g6 n6 T5 B5)
          | (at_builtin; refine wpList_append_any rfl (.tmp 56) (.tmp 64) 30 rfl w2.heap.size 63 iP (.agg #[.int .i64 0, .int .i64 0]) 2 16 Tryd.underlying30 hiP hzP0 hzP1 hzP2 rfl (by decide) _ q (cellsI pls0) rfl T7.out.2 ⟨w6.heap.size, 0, none⟩ 1 1 [.int .i64 x, .int .i64 y] rfl rfl (cells_new _ _ _) (two_cells x y) (by unfold maxLen; omega) (by omega) (by rw [World.size_alloc]; omega) ?_; intro v8 w8 o8 g8 n8; have T8 := Lib.hid (T7.out.right g8 o8); have B8 := Lib.hid (B7.out.grown g8 B7.out.size (own_.row_ge T7.out.2)); obtain ⟨A8', c8', rfl⟩ := own_sliceZ o8; clear o8 g8 n8 T7 B7 T6 B6))
        go_wp2_with fail
        go_roundw
        case rel => exact ⟨i + 1, by omega, by go_num, by rw [HX.out.1, HX.out.2, List.length_append, HQ.out]; exact T8.out, B8.out⟩
        case measure => simp [intOf]; omega
    · obtain rfl : i = n := by omega
      generalize idT zs bv i = ids2 at *
      generalize plL ps bv i = pls2 at *
      have hids2 := HIDS.out
      have hpls2 := HPLS.out
      clear HIDS HPLS
      subst hids2
      subst hpls2
      have R8 := Lib.hid (intc.rd_of_own HT.out.1 rfl)
      have R9 := Lib.hid (RdZ.of_own HT.out.2 HPL.out)
      go_wp2_with fail
      refine (HSC.out A8 A9 c8 c9 wr HBW.out R8.out R9.out).mono ?_
      rintro e w3 ⟨v3, rfl, ho, hb⟩
      obtain ⟨A3, c3, rfl⟩ := own_sliceZ ho
      have O3 := Lib.hid (own_.own_below OB.out hb)
      have OS := Lib.hid (own_.own_base ho HBW.out.size)
      have HB3 := Lib.hid (HBW.out.trans (hb.mono HBW.out.size))
      clear ho hb HSC HT HB HBW OB R8 R9
      have hsn6 : sn ≤ 6 := Nat.le_trans HSN.out hn6
      cases sb
      · have HE := Lib.hid (HNO.out HUB.out)
        have OE := Lib.hid (own_.own_base (own_emptyZ w3 38 6) HB3.out.size)
        have BZ := Lib.hid (HB3.out.alloc HB3.out.size (.cells #[] 38))
        go_wp2_with fail
        go_ret2
        exact ⟨_, by rw [HUB.out]; rfl, by rw [HE.out.1, HE.out.2]; exact OE.out, BZ.out⟩
      have HYES := Lib.hid (HYE.out HUB.out)
      clear HNO HYE
      go_wp2_with fail
      refine (HUF.out A1 c1 w3 (intc.rd_of_own O3.out HLV.out)).mono ?_
      rintro e w4 ⟨v4, rfl, ho, hb⟩
      obtain ⟨A4, c4, rfl⟩ := own_sliceZ ho
      have RF := Lib.hid (intc.rd_of_own ho rfl)
      have O4 := Lib.hid (own_.own_below OS.out hb)
      have HB4 := Lib.hid (HB3.out.trans (hb.mono HB3.out.size))
      clear ho hb HUF HB3 O3 OS
      go_wp2_with fail
      go_loopw [13, 17] (fun v q wr => ∃ (k : Nat) (t zz : List Int) (nn : Nat), k ≤ fr.length ∧ q = .int .i64 k ∧ fr.drop k = t ∧ upT ps t zz nn = UP ∧ zz.length = nn * 6 ∧ nn ≤ 6 ∧ wr.ownsRow w.heap.size 38 6 v nn (cellsI zz) ∧ Below w4.heap.size w4 wr) (fun _ q _ => fr.length - (intOf q).toNat)
      case atStart => exact ⟨0, fr, sl, sn, Nat.zero_le _, rfl, rfl, HUP.out.symm, HSL.out, hsn6, O4.out, Below.refl _ _⟩
      case round =>
        obtain ⟨k, t, zz, nn, hk, rfl, hdr, hup, hzl, hnn, hO, hb⟩ := hrel
        obtain ⟨Az, cz, rfl⟩ := own_sliceZ hO
        have HO := Lib.hid hO
        have HB := Lib.hid (HB4.out.trans (hb.mono HB4.out.size))
        have HUPK := Lib.hid hup
        have hcap := own_cap hO
        have HRD := Lib.hid (RdZ.of_own hO hzl)
        have HZL := Lib.hid hzl
        have HDR := Lib.hid hdr
        have HB5 := Lib.hid hb
        clear hO hup hzl hdr
        by_cases hlt : k < fr.length
        · obtain ⟨bf, of, x, rfl, lf, hx, fc⟩ := (RF.out.next hb).at_ hlt
          obtain ⟨j, rfl, hjm⟩ := HUN.out k x hx
          have hlt2 : (k : Int) < (fr.length : Int) := by omega
          have hk0 : (0 : Int) ≤ (k : Int) := Int.natCast_nonneg _
          have hj0 : (0 : Int) ≤ (j : Int) := Int.natCast_nonneg _
          have hjm2 : (j : Int) < (m : Int) := by omega
          obtain ⟨t', rfl⟩ : ∃ t', t = (j : Int) :: t' := ⟨fr.drop (k + 1), by rw [← HDR.out]; exact drop_at hx⟩
          have HDR2 := Lib.hid (show fr.drop (k + 1) = t' from by
            have h1 := HDR.out
            rw [drop_at hx] at h1
            injection h1)
          obtain ⟨bp, op, rfl, lp, p0, p1⟩ := asgs.cells2 (HR2.out.next HB.out) hjm
          have HST := Lib.hid (trkz.startS zz (fld 2 ps j 0) (fld 2 ps j 1) Az nn cz wr hcap (by omega) HRD.out)
          have HUY := Lib.hid (fun h => up_yes (ps := ps) (zs := zz) (t := t') (n := nn) (k := j) h)
          have HUNo := Lib.hid (fun h => up_no (ps := ps) (zs := zz) (t := t') (n := nn) (k := j) h)
          have HSY := Lib.hid (fun h => st_yes (zs := zz) (n := nn) (x := fld 2 ps j 0) (y := fld 2 ps j 1) h)
          have HS6 := Lib.hid (fun (h : stB zz nn (fld 2 ps j 0) (fld 2 ps j 1) = true) => show (stR zz nn (fld 2 ps j 0) (fld 2 ps j 1)).length = (nn + 1) * 6 ∧ nn + 1 ≤ 6 from ⟨by unfold stR; rw [List.length_append, HZL.out, six_length]; omega, (tvB_yes h).2⟩)
          have hfl := HUL.out
          clear hx hcap hb
          generalize fld 2 ps j 0 = x0 at *
          generalize fld 2 ps j 1 = y0 at *
          cases hs : stB zz nn x0 y0
          · have HV := Lib.hid ((HUNo.out hs).symm.trans HUPK.out)
            rw [hs] at HST
            clear hs HUY HUNo HSY HS6 HUPK
            go_wp2_with fail
            refine HST.out.mono ?_
            rintro e W8 ⟨v8, rfl, ho, hb⟩
            obtain ⟨A8, c8, rfl⟩ := own_sliceZ ho
            have HO8 := Lib.hid (own_.own_below HO.out hb)
            have HB8 := Lib.hid (HB.out.trans (hb.mono HB.out.size))
            clear ho hb
            go_wp2_with fail
            go_ret2
            exact ⟨_, by rw [HUB.out]; rfl, by rw [HYES.out.1, HYES.out.2, ← HV.out]; exact HO8.out, HB8.out⟩
          · have HV := Lib.hid ((HUY.out hs).symm.trans HUPK.out)
            have HSV := Lib.hid (HSY.out hs)
            have HS7 := Lib.hid (HS6.out hs)
            rw [hs] at HST
            clear hs HUY HUNo HSY HS6 HUPK
            go_wp2_with fail
            refine HST.out.mono ?_
            rintro e W8 ⟨v8, rfl, ho, hb⟩
            rw [HSV.out.1, HSV.out.2.1] at ho
            obtain ⟨A8, c8, rfl⟩ := own_sliceZ ho
            have HO8 := Lib.hid (own_.own_base ho HB.out.size)
            have HB8 := Lib.hid (HB5.out.trans (hb.mono HB5.out.size))
            clear ho hb
            go_wp2_with fail
            go_roundw
            case rel => exact ⟨k + 1, t', stR zz nn x0 y0, nn + 1, by omega, by go_num, HDR2.out, HV.out, HS7.out.1, HS7.out.2, HO8.out, HB8.out⟩
            case measure => simp [intOf]; omega
        · obtain rfl : k = fr.length := by omega
          have HV := Lib.hid (show (zz, nn) = UP by
            have h1 := HDR.out
            rw [List.drop_length] at h1
            have h2 := HUPK.out
            rw [← h1] at h2
            exact h2)
          clear hb
          go_wp2_with fail
          go_ret2
          exact ⟨_, by rw [HUB.out]; rfl, by rw [HYES.out.1, HYES.out.2, ← HV.out]; exact HO.out, HB.out⟩

end Go.Proofs.YtedocpocfpopgaaDoor.asgn

namespace Go.Proofs.YtedocpocfpopgaaDoor.fnExactUpdateTracks
open Go.ChangeShapes Go.WideShapes Go.ChangeAt Go.RowKit Go.Joins Go.Proofs.YtedocpocfpopgaaDoor.ats Go.Proofs.YtedocpocfpopgaaDoor.ints Go.Proofs.YtedocpocfpopgaaDoor.lst Go.Proofs.YtedocpocfpopgaaDoor.intc Go.Proofs.YtedocpocfpopgaaDoor.code_
open Go.ChangeMaps (open_string shut_string)
set_option linter.unusedVariables false

theorem bool_ne_self (b : Bool) : (b != b) = false := by simp
theorem int_ne_self (x : Int) : (x != x) = false := by simp

/-- The function f returns this. -/
def Gives (f : Nat) (z0 : List Int) (n0 : Nat) (z1 : List Int) (n1 : Nat) (a2 : Int) (V : List Int) (N : Nat) (O0 : Bool) : Prop := ∀ (A0 : Option Addr) (c0 : Nat) (A1 : Option Addr) (c1 : Nat) (w : World), n0 ≤ c0 → n1 ≤ c1 → RdZ 6 w w.heap.size A0 n0 z0 → RdZ 2 w w.heap.size A1 n1 z1 → 
  Calls Tryd.prog f #[.slice A0 n0 c0, .slice A1 n1 c1, .int .i64 a2] w fun e w' => ∃ v, e = .returned (.tuple #[v, .bool O0]) ∧ w'.ownsRow w.heap.size 38 6 v N (cellsI V) ∧ Below w.heap.size w w'

/-- .. in a world that meets the card's condition. -/
def GivesX (f : Nat) (z0 : List Int) (n0 : Nat) (z1 : List Int) (n1 : Nat) (a2 : Int) (V : List Int) (N : Nat) (O0 : Bool) : Prop := ∀ (A0 : Option Addr) (c0 : Nat) (A1 : Option Addr) (c1 : Nat) (w : World), erl.LX w → n0 ≤ c0 → n1 ≤ c1 → RdZ 6 w w.heap.size A0 n0 z0 → RdZ 2 w w.heap.size A1 n1 z1 → 
  Calls Tryd.prog f #[.slice A0 n0 c0, .slice A1 n1 c1, .int .i64 a2] w fun e w' => ∃ v, e = .returned (.tuple #[v, .bool O0]) ∧ w'.ownsRow w.heap.size 38 6 v N (cellsI V) ∧ Below w.heap.size w w'

set_option maxRecDepth 100000 in
set_option maxHeartbeats 8000000 in
theorem law_of (a0 : Option Addr) (c0 : Nat) (a1 : Option Addr) (c1 : Nat) (z0 : List Int) (n0 : Nat) (z1 : List Int) (n1 : Nat) (a2 : Int) (V : List Int) (N : Nat) (O0 : Bool) (w : World) (hn0 : n0 ≤ 1048576) (hr0 : RdZ 6 w w.heap.size a0 n0 z0) (hn1 : n1 ≤ 1048576) (hr1 : RdZ 2 w w.heap.size a1 n1 z1) (hN : N ≤ 1048576) (hV : V.length = N * 6) (hsum : n0 + n1 ≤ 1048576)
    (hs : Gives 8 z0 n0 z1 n1 a2 V N O0) (hi : GivesX 11 z0 n0 z1 n1 a2 V N O0) (hlx : erl.LX w) :
    Calls Tryd.prog 3 #[.slice a0 n0 c0, .slice a1 n1 c1, .int .i64 a2] w fun e w' => e = .returned (.bool true) ∧ Below w.heap.size w w' := by
  have HZ0 := Lib.hid (fun w => trke.sz a0 n0 c0 w (by unfold maxLen; omega))
  rw [if_pos hn0] at HZ0
  have d0 : decide ((1048576 : Int) - (n0 : Int) < 0) = false := decide_eq_false (by omega)
  have HC0 := Lib.hid (fun (w' : World) (hb : Below w.heap.size w w') => trke.copyS z0 a0 n0 c0 w' hn0 (hr0.next hb))
  have HL0 := Lib.hid hr0.1
  have HZ1 := Lib.hid (fun w => plce.szL a1 n1 c1 (1048576 - (n0 : Int)) w (by unfold maxLen; omega) (by omega) (by omega))
  rw [if_pos (by omega)] at HZ1
  have d1 : decide ((1048576 : Int) - (n0 : Int) - (n1 : Int) < 0) = false := decide_eq_false (by omega)
  have HC1 := Lib.hid (fun (w' : World) (hb : Below w.heap.size w w') => plce.copyS z1 a1 n1 c1 w' hn1 (hr1.next hb))
  have HL1 := Lib.hid hr1.1
  have HX := Lib.hid hlx
  clear hlx
  have HS := Lib.hid (fun (A0 : Option Addr) (c0 : Nat) (A1 : Option Addr) (c1 : Nat) (w : World) (e0 : n0 ≤ c0) (e1 : n1 ≤ c1) (h0 : RdZ 6 w w.heap.size A0 n0 z0) (h1 : RdZ 2 w w.heap.size A1 n1 z1) => hs A0 c0 A1 c1 w e0 e1 h0 h1)
  have HI := Lib.hid (fun (A0 : Option Addr) (c0 : Nat) (A1 : Option Addr) (c1 : Nat) (w : World) (e0 : n0 ≤ c0) (e1 : n1 ≤ c1) (h0 : RdZ 6 w w.heap.size A0 n0 z0) (h1 : RdZ 2 w w.heap.size A1 n1 z1) (hx : erl.LX w) => hi A0 c0 A1 c1 w hx e0 e1 h0 h1)
  have HV := Lib.hid hV
  have HNN := Lib.hid hN
  have ne0 := bool_ne_self O0
  clear hs hi hr0 hr1 hV
  go_enter Tryd.func3, Tryd.ntmps3
  go_wp2_with fail
  refine (HZ0.out w).mono ?_
  rintro e w' ⟨rfl, rfl⟩
  go_wp2_with fail
  refine (HZ1.out w).mono ?_
  rintro e w' ⟨rfl, rfl⟩
  have AN1 := Lib.hid (Below.refl w.heap.size w)
  go_wp2_with fail
  refine (HC0.out w AN1.out).mono ?_
  rintro e V2 ⟨g5, rfl, ho4, h3⟩
  have AN6 := Lib.hid (AN1.out.trans (h3.mono AN1.out.size))
  clear AN1
  have rd7 := Lib.hid (RdZ.of_own ho4 HL0.out)
  clear h3 ho4
  go_wp2_with fail
  refine (HC1.out V2 AN6.out).mono ?_
  rintro e V8 ⟨g11, rfl, ho10, h9⟩
  have AN12 := Lib.hid (AN6.out.trans (h9.mono AN6.out.size))
  clear AN6
  have rd13 := Lib.hid (rd7.out.next h9)
  clear rd7
  have rd14 := Lib.hid (RdZ.of_own ho10 HL1.out)
  clear h9 ho10
  go_wp2_with fail
  refine (HS.out _ _ _ _ V8 (Nat.le_refl _) (Nat.le_refl _) rd13.out rd14.out).mono ?_
  rintro e V15 ⟨vW, rfl, ho17, h16⟩
  obtain ⟨AW, cW, rfl⟩ := own_sliceZ ho17
  clear rd13 rd14
  have AN18 := Lib.hid (AN12.out.trans (h16.mono AN12.out.size))
  clear AN12
  clear h16
  have RW := Lib.hid (RdZ.of_own ho17 HV.out)
  clear ho17
  have AN19 := Lib.hid (Below.refl V15.heap.size V15)
  go_wp2_with fail
  refine (HC0.out V15 AN18.out).mono ?_
  rintro e V20 ⟨g23, rfl, ho22, h21⟩
  have LE24 := Lib.hid AN18.out.size
  have LE25 := Lib.hid AN19.out.size
  have AN26 := Lib.hid (AN18.out.trans (h21.mono AN18.out.size))
  clear AN18
  have AN27 := Lib.hid (AN19.out.trans (h21.mono AN19.out.size))
  clear AN19
  have rd28 := Lib.hid (RdZ.of_own ho22 HL0.out)
  have OW29 := Lib.hid ho22
  have LT30 := Lib.hid (own_row_lt ho22)
  have AN31 := Lib.hid (Below.refl V20.heap.size V20)
  clear h21 ho22
  go_wp2_with fail
  refine (HC1.out V20 AN26.out).mono ?_
  rintro e V32 ⟨g35, rfl, ho34, h33⟩
  have LE36 := Lib.hid AN26.out.size
  have LE37 := Lib.hid AN27.out.size
  have LE38 := Lib.hid AN31.out.size
  have AN39 := Lib.hid (AN26.out.trans (h33.mono AN26.out.size))
  clear AN26
  have AN40 := Lib.hid (AN27.out.trans (h33.mono AN27.out.size))
  clear AN27
  have AN41 := Lib.hid (AN31.out.trans (h33.mono AN31.out.size))
  clear AN31
  have OW42 := Lib.hid (own_.own_below OW29.out h33)
  clear OW29
  have rd43 := Lib.hid (RdZ.of_own ho34 HL1.out)
  have OW44 := Lib.hid ho34
  have LT45 := Lib.hid (own_row_lt ho34)
  have AN46 := Lib.hid (Below.refl V32.heap.size V32)
  clear h33 ho34
  have rd47 := Lib.hid (RdZ.of_own OW42.out HL0.out)
  have rd48 := Lib.hid (RdZ.of_own OW44.out HL1.out)
  have LE49 := Lib.hid AN39.out.size
  have LE50 := Lib.hid AN40.out.size
  have LE51 := Lib.hid AN41.out.size
  have LE52 := Lib.hid AN46.out.size
  go_wp2_with fail
  refine (HI.out _ _ _ _ V32 (Nat.le_refl _) (Nat.le_refl _) rd47.out rd48.out (erl.lx_on HX.out AN39.out)).mono ?_
  rintro e V53 ⟨vG, rfl, ho55, h54⟩
  obtain ⟨AG, cG, rfl⟩ := own_sliceZ ho55
  clear rd47 rd48
  have AN56 := Lib.hid (AN39.out.trans (h54.mono AN39.out.size))
  clear AN39
  have AN57 := Lib.hid (AN40.out.trans (h54.mono AN40.out.size))
  clear AN40
  have AN58 := Lib.hid (AN41.out.trans (h54.mono AN41.out.size))
  clear AN41
  have AN59 := Lib.hid (AN46.out.trans (h54.mono AN46.out.size))
  clear AN46
  have OW60 := Lib.hid (own_.own_below OW42.out h54)
  clear OW42
  have OW61 := Lib.hid (own_.own_below OW44.out h54)
  clear OW44
  clear h54
  clear AN58
  clear AN59
  have OW62 := Lib.hid ho55
  have LT63 := Lib.hid (own_row_lt ho55)
  clear ho55
  have E64 := Lib.hid (trke.eqS V AG AW N cG cW V53 (by have := HNN.out; omega) (RdZ.of_own OW62.out HV.out) (RW.out.next AN57.out))
  go_wp2_with fail
  refine E64.out.mono ?_
  rintro e V65 ⟨rfl, h66⟩
  clear E64
  have AN67 := Lib.hid (AN56.out.trans (h66.mono AN56.out.size))
  clear AN56
  have AN68 := Lib.hid (AN57.out.trans (h66.mono AN57.out.size))
  clear AN57
  have OW69 := Lib.hid (own_.own_below OW60.out h66)
  clear OW60
  have OW70 := Lib.hid (own_.own_below OW61.out h66)
  clear OW61
  have OW71 := Lib.hid (own_.own_below OW62.out h66)
  clear OW62
  clear h66
  go_wp2_with fail
  refine (HC0.out V65 AN67.out).mono ?_
  rintro e V72 ⟨g75, rfl, ho74, h73⟩
  have AN76 := Lib.hid (AN67.out.trans (h73.mono AN67.out.size))
  clear AN67
  have AN77 := Lib.hid (AN68.out.trans (h73.mono AN68.out.size))
  clear AN68
  have OW78 := Lib.hid (own_.own_below OW69.out h73)
  clear OW69
  have OW79 := Lib.hid (own_.own_below OW70.out h73)
  clear OW70
  have OW80 := Lib.hid (own_.own_below OW71.out h73)
  clear OW71
  have rd81 := Lib.hid (RdZ.of_own ho74 HL0.out)
  clear h73 ho74
  have E82 := Lib.hid (trke.eqS z0 _ _ n0 n0 n0 V72 (by omega) (RdZ.of_own OW78.out HL0.out) rd81.out)
  clear rd81
  go_wp2_with fail
  refine E82.out.mono ?_
  rintro e V83 ⟨rfl, h84⟩
  clear E82
  have AN85 := Lib.hid (AN76.out.trans (h84.mono AN76.out.size))
  clear AN76
  have AN86 := Lib.hid (AN77.out.trans (h84.mono AN77.out.size))
  clear AN77
  have OW87 := Lib.hid (own_.own_below OW78.out h84)
  clear OW78
  have OW88 := Lib.hid (own_.own_below OW79.out h84)
  clear OW79
  have OW89 := Lib.hid (own_.own_below OW80.out h84)
  clear OW80
  clear h84
  go_wp2_with fail
  refine (HC1.out V83 AN85.out).mono ?_
  rintro e V90 ⟨g93, rfl, ho92, h91⟩
  have AN94 := Lib.hid (AN85.out.trans (h91.mono AN85.out.size))
  clear AN85
  have AN95 := Lib.hid (AN86.out.trans (h91.mono AN86.out.size))
  clear AN86
  have OW96 := Lib.hid (own_.own_below OW87.out h91)
  clear OW87
  have OW97 := Lib.hid (own_.own_below OW88.out h91)
  clear OW88
  have OW98 := Lib.hid (own_.own_below OW89.out h91)
  clear OW89
  have rd99 := Lib.hid (RdZ.of_own ho92 HL1.out)
  clear h91 ho92
  have E100 := Lib.hid (plce.eqS z1 _ _ n1 n1 n1 V90 (by omega) (RdZ.of_own OW97.out HL1.out) rd99.out)
  clear rd99
  go_wp2_with fail
  refine E100.out.mono ?_
  rintro e V101 ⟨rfl, h102⟩
  clear E100
  have AN103 := Lib.hid (AN94.out.trans (h102.mono AN94.out.size))
  clear AN94
  have AN104 := Lib.hid (AN95.out.trans (h102.mono AN95.out.size))
  clear AN95
  have OW105 := Lib.hid (own_.own_below OW96.out h102)
  clear OW96
  have OW106 := Lib.hid (own_.own_below OW97.out h102)
  clear OW97
  have OW107 := Lib.hid (own_.own_below OW98.out h102)
  clear OW98
  clear h102
  go_wp2_with fail
  refine (trke.markS V15.heap.size (some ⟨g23, 0, none⟩) 1 n0 n0 _ V101 (by have := HNN.out; omega) OW105.out).mono ?_
  rintro e V108 ⟨rfl, h109, hg110, ho111⟩
  have AN112 := Lib.hid (AN103.out.trans (h109.mono LE24.out))
  clear AN103
  have AN113 := Lib.hid (AN104.out.trans (h109.mono LE25.out))
  clear AN104
  have OW114 := Lib.hid (own_kept OW106.out hg110 (fun q hq => Nat.lt_of_lt_of_le (LT30.out q hq) LE38.out))
  clear OW106
  have OW115 := Lib.hid (own_kept OW107.out hg110 (fun q hq => Nat.lt_of_lt_of_le (LT30.out q hq) LE51.out))
  clear OW107
  clear OW105 h109 hg110
  clear ho111
  go_wp2_with fail
  refine (plce.markS V20.heap.size (some ⟨g35, 0, none⟩) (1 + n0 * 6) n1 n1 _ V108 (by have := HNN.out; omega) OW114.out).mono ?_
  rintro e V116 ⟨rfl, h117, hg118, ho119⟩
  have AN120 := Lib.hid (AN112.out.trans (h117.mono LE36.out))
  clear AN112
  have AN121 := Lib.hid (AN113.out.trans (h117.mono LE37.out))
  clear AN113
  have OW122 := Lib.hid (own_kept OW115.out hg118 (fun q hq => Nat.lt_of_lt_of_le (LT45.out q hq) LE52.out))
  clear OW115
  clear OW114 h117 hg118
  clear ho119
  have KN : decide ((((1 + n0 * 6) + n1 * 2 : Nat) : Int) < 0) = false := decide_eq_false (by omega)
  generalize (((1 + n0 * 6) + n1 * 2 : Nat) : Int) = KK at *
  have E123 := Lib.hid (trke.eqS V AG AW N cG cW V116 (by have := HNN.out; omega) (RdZ.of_own OW122.out HV.out) (RW.out.next AN121.out))
  go_wp2_with fail
  refine E123.out.mono ?_
  rintro e V124 ⟨rfl, h125⟩
  clear E123
  have AN126 := Lib.hid (AN120.out.trans (h125.mono AN120.out.size))
  clear AN120
  have AN127 := Lib.hid (AN121.out.trans (h125.mono AN121.out.size))
  clear AN121
  have OW128 := Lib.hid (own_.own_below OW122.out h125)
  clear OW122
  clear h125
  clear KN
  go_wp2_with fail
  refine (trke.markS V32.heap.size AG 1 N cG _ V124 (by have := HNN.out; omega) OW128.out).mono ?_
  rintro e V129 ⟨rfl, h130, hg131, ho132⟩
  have AN133 := Lib.hid (AN126.out.trans (h130.mono LE49.out))
  clear AN126
  have AN134 := Lib.hid (AN127.out.trans (h130.mono LE50.out))
  clear AN127
  clear OW128 h130 hg131
  have MG := Lib.hid (RdZ.of_own ho132 (marksI_length 1 (N * 6)))
  clear ho132
  have AN135 := Lib.hid (Below.refl V129.heap.size V129)
  have K5 : decide (((1 + N * 6 : Nat) : Int) < 0) = false := decide_eq_false (by omega)
  have K6 : (((1 + N * 6 : Nat) : Int) != ((1 + N * 6 : Nat) : Int)) = false := int_ne_self _
  have HH := Lib.hid (fun (W : World) h => trke.heldS AG 1 N cG W (by have := HNN.out; omega) (h))
  generalize ((1 + N * 6 : Nat) : Int) = K at *
  go_wp2_with fail
  refine (HH.out V129 (MG.out.next AN135.out)).mono ?_
  rintro e w' ⟨rfl, rfl⟩
  go_wp2_with fail
  refine (HC0.out V129 AN133.out).mono ?_
  rintro e V136 ⟨g139, rfl, ho138, h137⟩
  have AN140 := Lib.hid (AN133.out.trans (h137.mono AN133.out.size))
  clear AN133
  have AN141 := Lib.hid (AN134.out.trans (h137.mono AN134.out.size))
  clear AN134
  have AN142 := Lib.hid (AN135.out.trans (h137.mono AN135.out.size))
  clear AN135
  have rd143 := Lib.hid (RdZ.of_own ho138 HL0.out)
  clear h137 ho138
  go_wp2_with fail
  refine (HC1.out V136 AN140.out).mono ?_
  rintro e V144 ⟨g147, rfl, ho146, h145⟩
  have AN148 := Lib.hid (AN140.out.trans (h145.mono AN140.out.size))
  clear AN140
  have AN149 := Lib.hid (AN141.out.trans (h145.mono AN141.out.size))
  clear AN141
  have AN150 := Lib.hid (AN142.out.trans (h145.mono AN142.out.size))
  clear AN142
  have rd151 := Lib.hid (rd143.out.next h145)
  clear rd143
  have rd152 := Lib.hid (RdZ.of_own ho146 HL1.out)
  clear h145 ho146
  go_wp2_with fail
  refine (HI.out _ _ _ _ V144 (Nat.le_refl _) (Nat.le_refl _) rd151.out rd152.out (erl.lx_on HX.out AN148.out)).mono ?_
  rintro e V153 ⟨vH, rfl, ho155, h154⟩
  obtain ⟨AH, cH, rfl⟩ := own_sliceZ ho155
  clear rd151 rd152
  have AN156 := Lib.hid (AN148.out.trans (h154.mono AN148.out.size))
  clear AN148
  have AN157 := Lib.hid (AN149.out.trans (h154.mono AN149.out.size))
  clear AN149
  have AN158 := Lib.hid (AN150.out.trans (h154.mono AN150.out.size))
  clear AN150
  clear h154
  have rd159 := RdZ.of_own ho155 HV.out
  have E160 := Lib.hid (trke.eqS V AH AW N cH cW V153 (by have := HNN.out; omega) (rd159) (RW.out.next AN157.out))
  go_wp2_with fail
  refine E160.out.mono ?_
  rintro e V161 ⟨rfl, h162⟩
  clear E160
  have AN163 := Lib.hid (AN156.out.trans (h162.mono AN156.out.size))
  clear AN156
  have AN164 := Lib.hid (AN157.out.trans (h162.mono AN157.out.size))
  clear AN157
  have AN165 := Lib.hid (AN158.out.trans (h162.mono AN158.out.size))
  clear AN158
  clear h162
  go_wp2_with fail
  refine (HH.out V161 (MG.out.next AN165.out)).mono ?_
  rintro e w' ⟨rfl, rfl⟩
  go_wp2_with fail
  go_ret
  exact ⟨rfl, AN163.out⟩

set_option maxRecDepth 100000 in
theorem walk (a0 : Option Addr) (n0 c0 : Nat) (z0 : List Int) (a1 : Option Addr) (n1 c1 : Nat) (z1 : List Int) (a2 : Int) (w : World) (w0 : RdZ 6 w w.heap.size a0 n0 z0) (l0 : n0 ≤ maxLen) (w1 : RdZ 2 w w.heap.size a1 n1 z1) (l1 : n1 ≤ maxLen) (w2 : (Lit.int .i64 a2).wf = true) (hlx : erl.LX w) :
    Calls Tryd.prog 3 #[.slice a0 n0 c0, .slice a1 n1 c1, .int .i64 a2] w fun e w' => e = .returned (.bool true) ∧ Below w.heap.size w w' := by
  by_cases hn0 : n0 ≤ 1048576
  · skip
    by_cases hn1 : n0 + n1 ≤ 1048576
    · skip
      exact law_of a0 c0 a1 c1 z0 n0 z1 n1 a2 (asgk.upL z0 n0 z1 n1 a2) (asgk.upN z0 n0 z1 n1 a2) (asgk.upB z0 n0 z1 n1 a2) w hn0 w0 (show n1 ≤ 1048576 by omega) w1 (Nat.le_trans (asgk.upN_le z0 n0 z1 n1 a2) (by omega)) (asgk.upL_length z0 n0 z1 n1 a2) hn1
        (fun A0 c0 A1 c1 w hc0 hc1 h0 h1 => asgn.updateTracks z0 z1 a2 A0 A1 n0 c0 n1 c1 w (by omega) (by omega) h0 h1)
        (fun A0 c0 A1 c1 w hx hc0 hc1 h0 h1 => asgm.updateTracks z0 z1 a2 A0 A1 n0 c0 n1 c1 w (by omega) (by omega) h0 h1 hx.1 hx.2) hlx
    · have HZ1 := Lib.hid (fun w => plce.szL a1 n1 c1 (1048576 - (n0 : Int)) w l1 (by omega) (by omega))
      rw [if_neg (by omega)] at HZ1
      have HZ0 := Lib.hid (trke.sz a0 n0 c0 w l0)
      rw [if_pos hn0] at HZ0
      have d0 : decide ((1048576 : Int) - (n0 : Int) < 0) = false := decide_eq_false (by omega)
      clear w0 l0 w1 l1 w2 hlx hn1
      go_enter Tryd.func3, Tryd.ntmps3
      go_wp2_with fail
      refine (HZ0.out).mono ?_
      rintro e w' ⟨rfl, rfl⟩
      go_wp2_with fail
      refine (HZ1.out _).mono ?_
      rintro e w' ⟨rfl, rfl⟩
      go_wp2_with fail
      go_ret
      exact ⟨rfl, Below.refl _ _⟩
  · have HZ0 := Lib.hid (trke.sz a0 n0 c0 w l0)
    rw [if_neg hn0] at HZ0
    clear w0 l0 w1 l1 w2 hlx hn0
    go_enter Tryd.func3, Tryd.ntmps3
    go_wp2_with fail
    refine (HZ0.out).mono ?_
    rintro e w' ⟨rfl, rfl⟩
    go_wp2_with fail
    go_ret
    exact ⟨rfl, Below.refl _ _⟩


theorem own : ownKnob Tryd.prog.godebug = none := by kernel_rfl
theorem laidOut : laidOutB Tryd.prog = true := by kernel_rfl


set_option maxRecDepth 100000 in
theorem contract (H : Type) (enc : TypeId × Value → H) (W : World) (base : Nat) (args : Array Value) (ds gs : List (DataW H)) (before : List MemPlace)
    (hval : ∀ (j : Nat) t v, Tryd.f3.params[j]? = some t → args[j]? = some v → Value.okWide Tryd.prog W .any base t v)
    (hW : DataW.Whole enc Tryd.prog Tryd.f3.params.toList Rows.fnExactUpdateTracksSpec.vars false W args.toList ds gs before) (hL : laidMetH Tryd.prog Rows.fnExactUpdateTracksRow.laid W) :
    Calls Tryd.prog 3 args W fun e W' => ∃ v, e = .returned v ∧ Rows.fnExactUpdateTracksSpec.post enc Tryd.prog Tryd.f3 false true false false W args v W' := by
  have hW' := hW
  obtain ⟨p, q, hA0, hV, rfl, hfz, hnd⟩ := hW
  have hA : DataW.TrodAll enc Tryd.prog W 0 (fun _ => true) true Tryd.f3.params.toList args.toList ds p := hA0
  rw [Tryd.params3] at hA hval
  obtain ⟨v0, vs0, d0, ds0, p0, q0, hargs, rfl, rfl, h0, r0⟩ := trodAll_cons hA
  obtain ⟨v1, vs1, d1, ds1, p1, q1, rfl, rfl, rfl, h1, r1⟩ := trodAll_cons r0
  obtain ⟨v2, vs2, d2, ds2, p2, q2, rfl, rfl, rfl, h2, r2⟩ := trodAll_cons r1
  obtain ⟨rfl, rfl, rfl⟩ := trodAll_nil r2
  obtain rfl : args = #[v0, v1, v2] := by cases args; simp_all
  obtain ⟨dv0, rfl⟩ : ∃ dv0, gs = [dv0] := by
    match gs, laid_.vars_length hV with
    | [dv0], _ => exact ⟨dv0, rfl⟩
  obtain ⟨a0, len0, cap0, rfl⟩ := okWide_slice Tryd.underlying22 (hval 0 22 v0 rfl rfl)
  have k0 := h0
  have lt0 : ∀ x ∈ p0, x.block < W.heap.size := by obtain ⟨m, hm⟩ := k0; exact DataW.trod_lt m _ _ _ hm
  obtain ⟨z0, w0, n0⟩ : ∃ zs, lst.RdZ 6 W W.heap.size a0 len0 zs ∧ len0 ≤ maxLen := by
    obtain ⟨fuel, hf⟩ := h0
    obtain ⟨A, n, c, zs, hcs, hrd, hle⟩ := lsto.open_structs Tryd.underlying22 Tryd.underlying67 (by kernel_rfl) (by kernel_rfl) (by decide) (by
        intro j f hg
        match j, hg with
        | 0, hg => exact (Option.some.inj hg) ▸ Tryd.underlying3
        | 1, hg => exact (Option.some.inj hg) ▸ Tryd.underlying3
        | 2, hg => exact (Option.some.inj hg) ▸ Tryd.underlying3
        | 3, hg => exact (Option.some.inj hg) ▸ Tryd.underlying3
        | 4, hg => exact (Option.some.inj hg) ▸ Tryd.underlying3
        | 5, hg => exact (Option.some.inj hg) ▸ Tryd.underlying3
        | q + 6, hg => exact absurd (Array.getElem?_eq_some_iff.1 hg).1 (by simp)) hf
    simp [Value.cells] at hcs
    obtain ⟨rfl, rfl, rfl⟩ := hcs
    exact ⟨zs, hrd, hle⟩
  obtain ⟨a1, len1, cap1, rfl⟩ := okWide_slice Tryd.underlying23 (hval 1 23 v1 rfl rfl)
  have k1 := h1
  have lt1 : ∀ x ∈ p1, x.block < W.heap.size := by obtain ⟨m, hm⟩ := k1; exact DataW.trod_lt m _ _ _ hm
  obtain ⟨z1, w1, n1⟩ : ∃ zs, lst.RdZ 2 W W.heap.size a1 len1 zs ∧ len1 ≤ maxLen := by
    obtain ⟨fuel, hf⟩ := h1
    obtain ⟨A, n, c, zs, hcs, hrd, hle⟩ := lsto.open_structs Tryd.underlying23 Tryd.underlying69 (by kernel_rfl) (by kernel_rfl) (by decide) (by
        intro j f hg
        match j, hg with
        | 0, hg => exact (Option.some.inj hg) ▸ Tryd.underlying3
        | 1, hg => exact (Option.some.inj hg) ▸ Tryd.underlying3
        | q + 2, hg => exact absurd (Array.getElem?_eq_some_iff.1 hg).1 (by simp)) hf
    simp [Value.cells] at hcs
    obtain ⟨rfl, rfl, rfl⟩ := hcs
    exact ⟨zs, hrd, hle⟩
  obtain ⟨a2, rfl, rfl, rfl, w2⟩ := open_int Tryd.underlying3 (hval 2 3 v2 rfl rfl) h2
  clear hA0
  refine (walk a0 len0 cap0 z0 a1 len1 cap1 z1 a2 W w0 n0 w1 n1 w2 (erl.of_both hL)).mono fun e W' ⟨he, bel⟩ => ?_
  subst he
  exact ⟨_, rfl, _, _, _, [], _, _, hW', trodAll_mk1 (shut_bool Tryd.underlying4 _), (trodAll_cons_mk (Below.trod laidOut (by kernel_rfl) (of_decide_eq_true (by kernel_rfl)) k0 bel lt0) (trodAll_cons_mk (Below.trod laidOut (by kernel_rfl) (of_decide_eq_true (by kernel_rfl)) k1 bel lt1) (trodAll_cons_mk (shut_int Tryd.underlying3 w2) trodAll_mk0))), Below.trodVars laidOut bel (by kernel_rfl) hV, bel.frame _, fun h => by cases h⟩

theorem laid_met (os : Os) : laidMetH Tryd.prog Rows.fnExactUpdateTracksRow.laid ((erl.laidWorld os).forCall (fun _ _ => 0) ⟨#[], #[.slice none 0 0, .slice none 0 0, .int .i64 0], []⟩).memory :=
  erl.both_met os _
theorem reads (os : Os) {H : Type} (enc : TypeId × Value → H) : ∃ places, DataW.whole enc Tryd.prog ((erl.laidWorld os).forCall (fun _ _ => 0) ⟨#[], #[.slice none 0 0, .slice none 0 0, .int .i64 0], []⟩).memory Tryd.f3.params.toList Rows.fnExactUpdateTracksSpec.vars false (#[.slice none 0 0, .slice none 0 0, .int .i64 0] : Array Value).toList 8 = some ([.nil, .nil, .lit (.int .i64 0)], [.held (enc (194, .pointer (some ⟨erl.low, 0, none⟩)))], places) :=
  ⟨MemPlace.row ⟨1, 0, none⟩ 1, by kernel_rfl⟩

set_option maxRecDepth 100000 in
theorem lifted (os : Os) (started : os.Started) (H : Type) (enc : TypeId × Value → H) (F : Stop.Interp) :
    ReturnsInHanded {} Tryd.checked os 3 .any ((OpenSpec.ofChange Rows.fnExactUpdateTracksSpec).preRow enc Tryd.prog Tryd.f3 Rows.fnExactUpdateTracksRow.domain false Rows.fnExactUpdateTracksRow.laid) (((OpenSpec.ofChange Rows.fnExactUpdateTracksSpec).at F).post enc Tryd.prog Tryd.f3 false true false false) := by
  obtain ⟨places, hx⟩ := reads os enc
  refine returnsInHanded_of_row (C := Tryd.checked) (s := OpenSpec.ofChange Rows.fnExactUpdateTracksSpec) own started (by kernel_rfl) Tryd.func3
    (witness_row_at (enc := enc) (C := Tryd.checked) false (erl.laidWorld os) #[.slice none 0 0, .slice none 0 0, .int .i64 0] rfl (by kernel_rfl) (by kernel_rfl) (by kernel_rfl)
      (OpenSpec.preRow_of_cond 8 hx (by kernel_rfl) (fun k hk => by cases hk) (by kernel_rfl) (laid_met os))) ?_
  intro W base args ds gs before hval hW _ _ _ hL _ _
  exact contract H enc W base args ds gs before hval hW hL

theorem said : Rows.FnExactUpdateTracksSaid :=
  OpenClaim.holds_of_cond 3 Tryd.f3 rfl rfl rfl rfl rfl rfl rfl ⟨rfl, rfl, rfl, rfl, rfl⟩ rfl rfl rfl rfl rfl (by kernel_rfl) Tryd.func3 (by kernel_rfl)
    (of_decide_eq_true (by kernel_rfl)) (by unfold Func.isWrapper; first | (rw [if_pos (by decide +kernel)]; kernel_rfl) | (rw [if_neg (by decide +kernel)]; exact ⟨rfl, rfl⟩))
    (fun os started H enc _ F => by rw [OpenClaim.pre_eq_preRow]; exact lifted os started H enc F)

theorem plain (f : FuncId) (fn : Func) (hf : Tryd.pinned.checked.prog.funcNamed "loop.example/g00875/laws.FnExactUpdateTracks" = some f) (hfn : Tryd.pinned.checked.prog.funcs[f]? = some fn) :
    true = Tryd.pinned.checked.prog.looks [] ∧ ∀ (j : Nat) t, fn.params[j]? = some t → Tryd.pinned.checked.prog.wantsStandIn t = false := by
  obtain rfl : f = 3 := Option.some.inj ((show Tryd.prog.funcNamed "loop.example/g00875/laws.FnExactUpdateTracks" = some 3 by kernel_rfl).symm.trans hf) |>.symm
  obtain rfl : fn = Tryd.f3 := (Option.some.inj (Tryd.func3.symm.trans hfn)).symm
  refine ⟨by kernel_rfl, fun j t ht => ?_⟩
  rw [Tryd.params3] at ht
  have hm := Array.mem_of_getElem? ht
  simp at hm
  rcases hm with rfl | rfl | rfl
  · exact (show Tryd.prog.wantsStandIn 22 = false by kernel_rfl)
  · exact (show Tryd.prog.wantsStandIn 23 = false by kernel_rfl)
  · exact (show Tryd.prog.wantsStandIn 3 = false by kernel_rfl)

theorem proved : Rows.FnExactUpdateTracksCardSaid :=
  Claim7.holds_tied_plain_at .later [] _ _ _ _ said (fun _ h => by cases h) (by kernel_rfl) (fun _ h => by cases h) fnExactUpdateTracks_row_tie rfl ⟨rfl, rfl⟩ (by kernel_rfl) rfl plain (by kernel_rfl)
#print axioms proved
end Go.Proofs.YtedocpocfpopgaaDoor.fnExactUpdateTracks
