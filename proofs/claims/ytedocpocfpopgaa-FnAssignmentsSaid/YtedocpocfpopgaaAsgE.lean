/- The search of impl.BestAssignment in memory: what it holds (Sr), the chain of its choices (Ch); countFree, cheapestBehind with its deferred closure. -/
import Derived.Test.YtedocpocfpopgaaAsgA
import Derived.Test.YtedocpocfpopgaaAsgB
import Derived.Defers
import Derived.Lib.QuietBelow
namespace Go.Proofs.Ytedocpocfpopgaa.asge
open Go.RowKit Go.Proofs.Ytedocpocfpopgaa.ints Go.Proofs.Ytedocpocfpopgaa.lst Go.Proofs.Ytedocpocfpopgaa.in_ Go.Proofs.Ytedocpocfpopgaa.ats Go.Proofs.Ytedocpocfpopgaa.pos Go.Proofs.Ytedocpocfpopgaa.trk Go.Proofs.Ytedocpocfpopgaa.trkm Go.Proofs.Ytedocpocfpopgaa.trke Go.Proofs.Ytedocpocfpopgaa.intc Go.Proofs.Ytedocpocfpopgaa.asg Go.Proofs.Ytedocpocfpopgaa.asgb

/-- The cells of taken: which plots are in P. -/
def tkC (P : List Int) (m : Nat) : Array Value := ((List.range m).map fun k => Value.bool (P.contains ((k : Nat) : Int))).toArray
theorem tk_size (P : List Int) (m : Nat) : (tkC P m).size = m := by simp [tkC]
theorem tk_at {P : List Int} {m k : Nat} (h : k < m) : (tkC P m)[k]? = some (.bool (P.contains ((k : Nat) : Int))) := by simp [tkC, h]
theorem has_snoc (P : List Int) (x : Int) (k : Nat) : (P ++ [x]).contains ((k : Nat) : Int) = (P.contains ((k : Nat) : Int) || decide (x = (k : Int))) := by
  rw [Bool.eq_iff_iff]
  simp only [List.contains_iff_mem, List.mem_append, List.mem_singleton, Bool.or_eq_true, decide_eq_true_eq]
  constructor <;> (rintro (h | h); exact Or.inl h; exact Or.inr h.symm)
theorem tk_none (P : List Int) (m : Nat) : tkC (P ++ [-1]) m = tkC P m := by
  unfold tkC
  congr 1
  refine List.map_congr_left fun k _ => ?_
  rw [has_snoc, decide_eq_false (by omega), Bool.or_false]
theorem tk_set {P : List Int} {m k : Nat} (h : k < m) : (tkC P m).setIfInBounds k (.bool true) = tkC (P ++ [(k : Int)]) m := by
  refine Array.ext_getElem? fun j => ?_
  rw [Array.getElem?_setIfInBounds]
  by_cases hj : k = j
  · subst hj
    rw [if_pos rfl, if_pos (by rw [tk_size]; exact h), tk_at h, has_snoc, decide_eq_true rfl, Bool.or_true]
  · rw [if_neg hj]
    by_cases hm : j < m
    · rw [tk_at hm, tk_at hm, has_snoc, decide_eq_false (by omega), Bool.or_false]
    · rw [Array.getElem?_eq_none (by rw [tk_size]; omega), Array.getElem?_eq_none (by rw [tk_size]; omega)]
theorem tk_back {P : List Int} {m k : Nat} (h : k < m) (hc : P.contains (k : Int) = false) : (tkC (P ++ [(k : Int)]) m).setIfInBounds k (.bool false) = tkC P m := by
  refine Array.ext_getElem? fun j => ?_
  rw [Array.getElem?_setIfInBounds]
  by_cases hj : k = j
  · subst hj
    rw [if_pos rfl, if_pos (by rw [tk_size]; exact h), tk_at h, hc]
  · rw [if_neg hj]
    by_cases hm : j < m
    · rw [tk_at hm, tk_at hm, has_snoc, decide_eq_false (by omega), Bool.or_false]
    · rw [Array.getElem?_eq_none (by rw [tk_size]; omega), Array.getElem?_eq_none (by rw [tk_size]; omega)]
/-- What the search at sb holds in w, when the plots in P are taken. -/
structure Sr (sb tb n c m cq : Nat) (A C : Option Addr) (g : Int) (zs ps : List Int) (w : World) (P : List Int) : Prop where
  s : tb < sb ∧ sb < w.heap.size
  f0 : w.cell? ⟨sb, 0, none⟩ = some (.slice A n c)
  f1 : w.cell? ⟨sb, 1, none⟩ = some (.slice C m cq)
  f2 : w.cell? ⟨sb, 2, none⟩ = some (.int .i64 g)
  f3 : w.cell? ⟨sb, 3, none⟩ = some (.slice (some ⟨tb, 0, none⟩) m m)
  t : w.heap[tb]? = some (.cells (tkC P m) 4 (0, 0))
  z : RdZ 6 w tb A n zs
  p : RdZ 2 w tb C m ps
section
variable {sb tb n c m cq : Nat} {A C : Option Addr} {g : Int} {zs ps : List Int} {w w' : World} {P : List Int}
theorem Sr.next (h : Sr sb tb n c m cq A C g zs ps w P) (hb : Below w.heap.size w w') : Sr sb tb n c m cq A C g zs ps w' P :=
  ⟨⟨h.s.1, Nat.lt_of_lt_of_le h.s.2 hb.size⟩, (hb.cell (p := ⟨sb, 0, none⟩) h.s.2).trans h.f0, (hb.cell (p := ⟨sb, 1, none⟩) h.s.2).trans h.f1, (hb.cell (p := ⟨sb, 2, none⟩) h.s.2).trans h.f2, (hb.cell (p := ⟨sb, 3, none⟩) h.s.2).trans h.f3,
    (hb.block tb (by have := h.s; omega)).trans h.t, h.z.below hb (by have := h.s; omega), h.p.below hb (by have := h.s; omega)⟩
theorem Sr.none (h : Sr sb tb n c m cq A C g zs ps w P) : Sr sb tb n c m cq A C g zs ps w (P ++ [-1]) := ⟨h.s, h.f0, h.f1, h.f2, h.f3, by rw [tk_none]; exact h.t, h.z, h.p⟩
theorem low (o : Nat) (u : Value) : Below tb w (w.setCell ⟨tb, o, Option.none⟩ u) := (Below.refl tb w).setCell (p := ⟨tb, o, Option.none⟩) (Nat.le_refl _) u
theorem Sr.put (h : Sr sb tb n c m cq A C g zs ps w P) {k : Nat} (hk : k < m) : Sr sb tb n c m cq A C g zs ps (w.setCell ⟨tb, k, Option.none⟩ (.bool true)) (P ++ [(k : Int)]) := by
  have hs : ∀ j, (w.setCell ⟨tb, k, Option.none⟩ (.bool true)).cell? ⟨sb, j, Option.none⟩ = w.cell? ⟨sb, j, Option.none⟩ := fun j =>
    World.cell?_setCell_other _ _ _ _ (by intro e; have := h.s; simp only [Addr.mk.injEq] at e; omega)
  exact ⟨⟨h.s.1, by simpa [World.setCell] using h.s.2⟩, (hs 0).trans h.f0, (hs 1).trans h.f1, (hs 2).trans h.f2, (hs 3).trans h.f3,
    by rw [heap_setCell_same _ tb k _ _ _ h.t, tk_set hk], h.z.below (low k _) (Nat.le_refl _), h.p.below (low k _) (Nat.le_refl _)⟩
theorem Sr.cell (h : Sr sb tb n c m cq A C g zs ps w P) {k : Nat} (hk : k < m) : w.cell? ⟨tb, k, Option.none⟩ = some (.bool (P.contains (k : Int))) :=
  (cell_of_row _ _ k _ _ (0, 0) h.t).trans (tk_at hk)
theorem Sr.frozen (h : Sr sb tb n c m cq A C g zs ps w P) (k : Nat) : w.frozen? ⟨tb, k, Option.none⟩ = false := by simp [World.frozen?, h.t]
/-- The plot is free again: of what was there nothing has turned. -/
theorem Sr.back (h : Sr sb tb n c m cq A C g zs ps w P) {k : Nat} (hk : k < m) (hc : P.contains (k : Int) = false) {w1 w2 : World} (h1 : Below w.heap.size w w1) (hb : Below w1.heap.size (w1.setCell ⟨tb, k, Option.none⟩ (.bool true)) w2) :
    Below w.heap.size w (w2.setCell ⟨tb, k, Option.none⟩ (.bool false)) := by
  have ht1 : w1.heap[tb]? = some (.cells (tkC P m) 4 (0, 0)) := (h1.block tb (by have := h.s; omega)).trans h.t
  have ht2 : w2.heap[tb]? = some (.cells (tkC (P ++ [(k : Int)]) m) 4 (0, 0)) := by
    rw [hb.block tb (by have := h.s; have := h1.size; omega), heap_setCell_same _ tb k _ _ _ ht1, tk_set hk]
  have hz1 : (w1.setCell ⟨tb, k, Option.none⟩ (.bool true)).heap.size = w1.heap.size := by simp [World.setCell]
  have hz2 : (w2.setCell ⟨tb, k, Option.none⟩ (.bool false)).heap.size = w2.heap.size := by simp [World.setCell]
  have hsz := hb.size
  have hs1 := h1.size
  refine ⟨hb.os.trans h1.os, hb.tape.trans h1.tape, hb.output.trans h1.output, by omega, fun j hj => ?_⟩
  by_cases e : j = tb
  · subst e
    rw [heap_setCell_same _ j k _ _ _ ht2, tk_back hk hc, h.t]
  · rw [Below.heap_setCell _ _ _ _ e, hb.block j (by omega), Below.heap_setCell _ _ _ _ e, h1.block j hj]
end
/-- A chain of choices, in blocks from B on. -/
def Ch (B : Nat) (w : World) : Value → List Int → Prop
  | v, [] => v = .pointer none
  | v, x :: t => ∃ b v', v = .pointer (some ⟨b, 0, none⟩) ∧ B ≤ b ∧ w.heap[b]? = some (.cells #[.int .i64 x, v'] 80 (0, 0)) ∧ Ch B w v' t
theorem blk_lt {w : World} {b : Nat} {ob : Obj} (h : w.heap[b]? = some ob) : b < w.heap.size := by
  rcases Nat.lt_or_ge b w.heap.size with h1 | h1
  · exact h1
  · rw [Array.getElem?_eq_none h1] at h; cases h
theorem Ch.next {B : Nat} {w w' : World} (hb : Below w.heap.size w w') : ∀ {xs : List Int} {v : Value}, Ch B w v xs → Ch B w' v xs
  | [], _, h => h
  | _ :: _, _, ⟨b, v', e, hB, hh, ht⟩ => ⟨b, v', e, hB, (hb.block b (blk_lt hh)).trans hh, Ch.next hb ht⟩
theorem Ch.base {B B' : Nat} {w : World} (hB : B' ≤ B) : ∀ {xs : List Int} {v : Value}, Ch B w v xs → Ch B' w v xs
  | [], _, h => h
  | _ :: _, _, ⟨b, v', e, hb, hh, ht⟩ => ⟨b, v', e, Nat.le_trans hB hb, hh, Ch.base hB ht⟩
theorem Ch.kept {B tb k : Nat} {w : World} {u : Value} (hB : tb < B) : ∀ {xs : List Int} {v : Value}, Ch B w v xs → Ch B (w.setCell ⟨tb, k, Option.none⟩ u) v xs
  | [], _, h => h
  | _ :: _, _, ⟨b, v', e, hb, hh, ht⟩ => ⟨b, v', e, hb, (Below.heap_setCell _ _ _ _ (show b ≠ tb by omega)).trans hh, Ch.kept hB ht⟩
theorem Ch.cons {B : Nat} {w : World} {xs : List Int} {v : Value} (h : Ch B w v xs) (hB : B ≤ w.heap.size) (x : Int) : Ch B (w.alloc (.cells #[.int .i64 x, v] 80)) (.pointer (some ⟨w.heap.size, 0, none⟩)) (x :: xs) :=
  ⟨w.heap.size, v, rfl, hB, heap_alloc_new w _, Ch.next ((Below.refl _ _).alloc (Nat.le_refl _) _) h⟩
theorem Ch.ptr {B : Nat} {w : World} {xs : List Int} {v : Value} (h : Ch B w v xs) : ∃ a, v = .pointer a := by
  cases xs with
  | nil => exact ⟨none, h⟩
  | cons x t => obtain ⟨b, v', e, _⟩ := h; exact ⟨_, e⟩

theorem countFree {sb tb n c m cq : Nat} {A C : Option Addr} {g : Int} {zs ps : List Int} {P : List Int} (w : World) (hm : m ≤ 5) (h : Sr sb tb n c m cq A C g zs ps w P) :
    Calls Try.prog 76 #[.pointer (some ⟨sb, 0, none⟩)] w fun e w' => e = .returned (.int .i64 ((frT P m : Nat) : Int)) ∧ w = w' := by
  have HS := Lib.hid h
  have f3 := h.f3
  have HY := Lib.hid (fun k h => fr_yes (P := P) (k := k) h)
  have HN := Lib.hid (fun k h => fr_no (P := P) (k := k) h)
  clear h
  go_enter Try.func76, Try.ntmps76
  go_wp2_with fail
  go_loop [3, 11] (fun s i => ∃ k : Nat, k ≤ m ∧ i = .int .i64 k ∧ s = .int .i64 ((frT P k : Nat) : Int)) (fun _ i => m - (intOf i).toNat)
  case atStart => exact ⟨0, Nat.zero_le _, rfl, rfl⟩
  case round =>
    obtain ⟨k, hk, rfl, rfl⟩ := hrel
    by_cases hlt : k < m
    · have c0 := HS.out.cell hlt
      have hlt2 : (k : Int) < (m : Int) := by omega
      have hle := frT_le P k
      have HYk := Lib.hid (HY.out k)
      have HNk := Lib.hid (HN.out k)
      cases hc : P.contains (k : Int)
      · have HT := Lib.hid (HNk.out hc)
        rw [hc] at c0
        clear hc HYk HNk
        generalize frT P k = q at *
        have e1 : IntKind.i64.wrap ((q : Int) + 1) = (q : Int) + 1 := IntWalk.i64_in _ (by omega)
        go_wp2_with fail
        go_round
        case rel => exact ⟨k + 1, by omega, by go_num, by rw [HT.out]; go_num⟩
        case measure => simp [intOf]; omega
      · have HT := Lib.hid (HYk.out hc)
        rw [hc] at c0
        clear hc HYk HNk
        go_wp2_with fail
        go_round
        case rel => exact ⟨k + 1, by omega, by go_num, by rw [HT.out]⟩
        case measure => simp [intOf]; omega
    · obtain rfl : k = m := by omega
      go_wp2_with fail
      go_ret
      exact ⟨rfl, rfl⟩

/-- The deferred closure. -/
theorem freed {sb tb n c m cq : Nat} {A C : Option Addr} {g : Int} {zs ps : List Int} {P : List Int} (pb kb k : Nat) (u : FrameMode) (w : World) (hk : k < m) (hp : w.cell? ⟨pb, 0, none⟩ = some (.pointer (some ⟨sb, 0, none⟩))) (hq : w.cell? ⟨kb, 0, none⟩ = some (.int .i64 (k : Int))) (h : Sr sb tb n c m cq A C g zs ps w P) :
    CallsD Try.prog 86 #[.pointer (some ⟨pb, 0, none⟩), .pointer (some ⟨kb, 0, none⟩)] u w fun e u' w' => u' = u ∧ (e = .returned (.tuple #[]) ∧ w' = (w.setCell ⟨tb, k, none⟩ (.bool false)).drew) := by
  have f3 := h.f3
  have c0 := h.cell hk
  have z0 := h.frozen k
  have hk2 : (k : Int) < (m : Int) := by omega
  have hk0 : (0 : Int) ≤ (k : Int) := Int.natCast_nonneg _
  clear h
  go_enter_d Try.func86, Try.ntmps86
  go_wp2_with fail
  go_region
  go_wp2_with fail
  go_end0
  first | exact ⟨rfl, rfl⟩ | exact ⟨rfl, rfl, rfl⟩ | skip

set_option maxRecDepth 100000 in
theorem behind {sb tb n c m cq : Nat} {A C : Option Addr} {g : Int} {zs ps : List Int} {P xs : List Int} {X : Int} (k : Nat) (ih : ∀ W, Sr sb tb n c m cq A C g zs ps W (P ++ [(k : Int)]) → Calls Try.prog 58 #[.pointer (some ⟨sb, 0, none⟩), .int .i64 ((P.length : Int) + 1)] W fun e w' => ∃ v, e = .returned (.tuple #[v, .int .i64 X]) ∧ Ch W.heap.size w' v xs ∧ Below W.heap.size W w')
    (w : World) (hk : k < m) (hc : P.contains (k : Int) = false) (hl : P.length ≤ 6) (h : Sr sb tb n c m cq A C g zs ps w P) :
    Calls Try.prog 77 #[.pointer (some ⟨sb, 0, none⟩), .int .i64 (P.length : Int), .int .i64 (k : Int)] w fun e w' => ∃ v, e = .returned (.tuple #[v, .int .i64 X]) ∧ Ch w.heap.size w' v xs ∧ Below w.heap.size w w' := by
  have hmf : ∀ (fn : Fn) (first cap : Array Value) (w : World), (Instr.makeFunc fn first cap).run Try.prog w = .ok (.func fn first cap) w := fun _ _ _ _ => rfl
  have S0 := Lib.hid ((newS 91 #[.pointer (some ⟨sb, 0, none⟩)] w).alloc (.cells #[.int .i64 (k : Int)] 3))
  have S1 := Lib.hid ((newS 91 #[.pointer (some ⟨sb, 0, none⟩)] w).next 3 #[.int .i64 (k : Int)])
  rw [World.size_alloc] at S1
  have HS := Lib.hid h
  have IH := Lib.hid ih
  have HC := Lib.hid hc
  have hk2 : (k : Int) < (m : Int) := by omega
  have hk0 : (0 : Int) ≤ (k : Int) := Int.natCast_nonneg _
  have e1 : IntKind.i64.wrap ((P.length : Int) + 1) = (P.length : Int) + 1 := IntWalk.i64_in _ (by omega)
  generalize hPL : (P.length : Int) = pl at *
  clear h ih hc hPL hl
  go_enter_defers Try.func77, Try.ntmps77
  go_upto_region 1 with fail
  generalize (w.alloc (.cells #[.pointer (some ⟨sb, 0, none⟩)] 91)).alloc (.cells #[.int .i64 (k : Int)] 3) = W1 at *
  have H1 := Lib.hid (HS.out.next S0.out.1)
  have p0 : W1.cell? ⟨w.heap.size, 0, none⟩ = some (.pointer (some ⟨sb, 0, none⟩)) := S0.out.cell 0
  have q0 : W1.cell? ⟨w.heap.size + 1, 0, none⟩ = some (.int .i64 (k : Int)) := S1.out.cell 0
  have f3 := H1.out.f3
  have c0 := H1.out.cell hk
  have z0 := H1.out.frozen k
  go_region
  have hz1 : (W1.setCell ⟨tb, k, none⟩ (.bool true)).drew.heap.size = W1.heap.size := by simp [World.setCell, World.drew]
  have HP := Lib.hid ((H1.out.put hk).next (Below.refl _ _).drew)
  have HBK := Lib.hid (fun (W3 : World) (hb : Below (W1.setCell ⟨tb, k, none⟩ (.bool true)).drew.heap.size (W1.setCell ⟨tb, k, none⟩ (.bool true)).drew W3) => HS.out.back hk HC.out S0.out.1 ((Below.refl _ _).drew.trans (hz1 ▸ hb)))
  have hts := HS.out.s
  have p1 : (W1.setCell ⟨tb, k, none⟩ (.bool true)).drew.cell? ⟨w.heap.size, 0, none⟩ = some (.pointer (some ⟨sb, 0, none⟩)) := (World.cell?_setCell_other W1 ⟨tb, k, none⟩ ⟨w.heap.size, 0, none⟩ _ (by intro e; simp only [Addr.mk.injEq] at e; omega)).trans p0
  have q1 : (W1.setCell ⟨tb, k, none⟩ (.bool true)).drew.cell? ⟨w.heap.size + 1, 0, none⟩ = some (.int .i64 (k : Int)) := (World.cell?_setCell_other W1 ⟨tb, k, none⟩ ⟨w.heap.size + 1, 0, none⟩ _ (by intro e; simp only [Addr.mk.injEq] at e; omega)).trans q0
  have HL0 := Lib.hid S0.out.2.2.1
  have HL1 := Lib.hid S1.out.2.2.1
  have HZ1 := Lib.hid hz1
  have HSZ := Lib.hid S0.out.1.size
  clear p0 q0 f3 c0 z0 hz1 H1 S0 S1
  generalize (W1.setCell ⟨tb, k, none⟩ (.bool true)).drew = W2 at *
  go_wp2_with fail
  refine (IH.out W2 HP.out).mono ?_
  rintro e W3 ⟨v, rfl, hch, hb⟩
  have hl0 := HL0.out
  have hl1 := HL1.out
  have hz1 := HZ1.out
  have p2 := (hb.cell (p := ⟨w.heap.size, 0, none⟩) (show w.heap.size < W2.heap.size by omega)).trans p1
  have q2 := (hb.cell (p := ⟨w.heap.size + 1, 0, none⟩) (show w.heap.size + 1 < W2.heap.size by omega)).trans q1
  have P2 := Lib.hid p2
  have Q2 := Lib.hid q2
  have HF := Lib.hid (HBK.out W3 hb)
  have HSR := Lib.hid (HP.out.next hb)
  have HCH := Lib.hid (hch.base (show w.heap.size ≤ W2.heap.size by have := HSZ.out; omega))
  obtain ⟨a, rfl⟩ := Ch.ptr hch
  clear hb hch p1 q1 p2 q2 HP HBK IH hl0 hl1 hz1 hts
  go_wp2_with fail
  refine leaves_cons (f := 86) (args := #[.pointer (some ⟨w.heap.size, 0, none⟩), .pointer (some ⟨w.heap.size + 1, 0, none⟩)]) (by simp) (by simp [go_sem]) ?_
  refine (freed w.heap.size (w.heap.size + 1) k .returning W3 hk P2.out Q2.out HSR.out).mono ?_
  rintro e u' w'' ⟨rfl, rfl, rfl⟩
  have htb := HS.out.s
  exact ⟨_, results_tmp2 rfl _ _ _, _, rfl, Ch.next (Below.refl _ _).drew (HCH.out.kept (show tb < w.heap.size by omega)), HF.out.drew⟩
end Go.Proofs.Ytedocpocfpopgaa.asge
