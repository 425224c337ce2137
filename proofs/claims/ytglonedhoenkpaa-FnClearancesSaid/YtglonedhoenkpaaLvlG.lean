/- impl's ClearLevels. -/
import Derived.Test.YtglonedhoenkpaaLvlC
import Derived.Test.YtglonedhoenkpaaCopS
import Derived.Laws.Small
import Derived.Deep.QuietTactic
import Derived.BigQuiet
import Derived.Deep.RegionHeld3
import Derived.Deep.CutRange
import Derived.Deep.CutBlock
namespace Go.Proofs.Ytglonedhoenkpaa.lvlg
open Go.RowKit Go.Proofs.Ytglonedhoenkpaa.ints Go.Proofs.Ytglonedhoenkpaa.lst Go.Proofs.Ytglonedhoenkpaa.in_ Go.Proofs.Ytglonedhoenkpaa.ats Go.Proofs.Ytglonedhoenkpaa.putq Go.Proofs.Ytglonedhoenkpaa.vel Go.Proofs.Ytglonedhoenkpaa.lvl Go.Proofs.Ytglonedhoenkpaa.lvle Go.Proofs.Ytglonedhoenkpaa.lvla Go.Proofs.Ytglonedhoenkpaa.lvlb Go.Proofs.Ytglonedhoenkpaa.lvlc Go.Proofs.Ytglonedhoenkpaa.tailh Go.Proofs.Ytglonedhoenkpaa.cops

/-- The new list with its first p old elements, .. -/
def row1 (zs : List Int) (n p : Nat) : List Value := cellsI (zs.take (p * 5)) ++ List.replicate ((n + 1 - p) * 5) (.int .i64 0)
/-- .. with the new one too. -/
def row2 (zs : List Int) (n p : Nat) (a l u f t : Int) : List Value := cellsI (zs.take (p * 5)) ++ (cellsI (five a l u f t) ++ List.replicate ((n - p) * 5) (.int .i64 0))
theorem cells_len (xs : List Int) : (cellsI xs).length = xs.length := by unfold cellsI; rw [List.length_map]
theorem row1_is {zs : List Int} {n p : Nat} (hl : zs.length = n * 5) (hp : p ≤ n) : splice (List.replicate ((n + 1) * 5) (.int .i64 0)) 0 (cellsI (zs.take (p * 5))) = row1 zs n p := by
  unfold splice row1
  rw [List.take_zero, List.nil_append, List.drop_replicate, cells_len, List.length_take]
  congr 2; omega
theorem row1_len {zs : List Int} {n p : Nat} (hl : zs.length = n * 5) (hp : p ≤ n) : (row1 zs n p).length = (n + 1) * 5 := by
  unfold row1
  rw [List.length_append, cells_len, List.length_take, List.length_replicate]; omega
theorem row2_len {zs : List Int} {n p : Nat} {a l u f t : Int} (hl : zs.length = n * 5) (hp : p ≤ n) : (row2 zs n p a l u f t).length = (n + 1) * 5 := by
  unfold row2
  rw [List.length_append, List.length_append, cells_len, cells_len, List.length_take, List.length_replicate]; show _ + (5 + _) = _; omega
theorem set5 (xs : List Value) (z v0 v1 v2 v3 v4 : Value) (m k : Nat) (hk : xs.length = k) : ((((((xs ++ List.replicate (m + 5) z).set k v0).set (k + 1) v1).set (k + 2) v2).set (k + 3) v3).set (k + 4) v4) = xs ++ ([v0, v1, v2, v3, v4] ++ List.replicate m z) := by
  subst hk
  rw [show List.replicate (m + 5) z = z :: z :: z :: z :: z :: List.replicate m z from rfl]
  rw [List.set_append, if_neg (by omega), List.set_append, if_neg (by omega), List.set_append, if_neg (by omega), List.set_append, if_neg (by omega), List.set_append, if_neg (by omega)]
  rw [Nat.sub_self, Nat.add_sub_cancel_left, Nat.add_sub_cancel_left, Nat.add_sub_cancel_left, Nat.add_sub_cancel_left]
  rfl
theorem row2_is {zs : List Int} {n p : Nat} {a l u f t : Int} (hl : zs.length = n * 5) (hp : p ≤ n) : ((((((row1 zs n p).set (p * 5) (.int .i64 a)).set (p * 5 + 1) (.int .i64 l)).set (p * 5 + 2) (.int .i64 u)).set (p * 5 + 3) (.int .i64 f)).set (p * 5 + 4) (.int .i64 t)) = row2 zs n p a l u f t := by
  unfold row1 row2
  rw [show (n + 1 - p) * 5 = (n - p) * 5 + 5 by omega, set5 _ _ _ _ _ _ _ _ _ (by rw [cells_len, List.length_take]; omega)]
  rfl
theorem row3_is {zs : List Int} {n p : Nat} {a l u f t : Int} (hl : zs.length = n * 5) (hp : p ≤ n) : splice (row2 zs n p a l u f t) ((p + 1) * 5) (cellsI (zs.drop (p * 5))) = cellsI (inR zs p a l u f t) := by
  have e : row2 zs n p a l u f t = (cellsI (zs.take (p * 5)) ++ cellsI (five a l u f t)) ++ List.replicate ((n - p) * 5) (.int .i64 0) := by unfold row2; rw [List.append_assoc]
  have hlen : (cellsI (zs.take (p * 5)) ++ cellsI (five a l u f t)).length = (p + 1) * 5 := by
    rw [List.length_append, cells_len, cells_len, List.length_take]; show _ + 5 = _; omega
  generalize hX : cellsI (zs.take (p * 5)) ++ cellsI (five a l u f t) = X at *
  have h2 : inR zs p a l u f t = (zs.take (p * 5) ++ five a l u f t) ++ zs.drop (p * 5) := rfl
  have h3 : cellsI (inR zs p a l u f t) = X ++ cellsI (zs.drop (p * 5)) := by rw [h2, ← hX]; unfold cellsI; rw [List.map_append, List.map_append]
  have h4 : (cellsI (zs.drop (p * 5))).length = (n - p) * 5 := by rw [cells_len, List.length_drop]; omega
  unfold splice
  have h5 : X.drop ((p + 1) * 5 + (n - p) * 5) = [] := List.drop_of_length_le (by omega)
  rw [e, h3, h4, List.take_append_of_le_length (by omega), List.take_of_length_le (by omega), List.drop_append, hlen, h5, List.nil_append, List.drop_replicate]
  rw [show (n - p) * 5 - ((p + 1) * 5 + (n - p) * 5 - (p + 1) * 5) = 0 by omega]
  simp
theorem own_row {w : World} {B g m : Nat} {T : TypeId} {xs : List Int} (h : w.heap[g]? = some (.cells (cellsI xs).toArray T (0, 0))) (hB : B ≤ g) (hl : xs.length = m * 5) (hm : m ≤ maxLen) : w.ownsRow B T 5 (.slice (some ⟨g, 0, none⟩) m m) m (cellsI xs) := by
  refine ⟨by rw [cells_len, hl], .inr ⟨g, m, (cellsI xs).toArray, rfl, hB, h, Nat.le_refl _, hm, ?_, ?_⟩⟩
  · rw [List.size_toArray, cells_len, hl]
  · rw [List.take_of_length_le (by rw [cells_len, hl]; exact Nat.le_refl _)]
theorem heap_of {w : World} {B e g m s : Nat} {xs ys : List Value} (h : w.ownsRow B e s (.slice (some ⟨g, 0, none⟩) m m) m xs) (hx : xs = ys) : w.heap[g]? = some (.cells ys.toArray e (0, 0)) := by
  subst hx
  rcases h.2 with ⟨h1, _⟩ | ⟨g', cap, cur, hv, _, hh, _, _, hs, ht⟩
  · cases h1
  · injection hv with e1 e2 e3
    injection e1 with e1; injection e1 with e1
    subst e1 e3
    rw [hh, ← ht, List.take_of_length_le (by rw [Array.length_toList, hs]; exact Nat.le_refl _)]
theorem cell_row1 {w : World} {g n p j : Nat} {zs : List Int} {T : TypeId} (h : w.heap[g]? = some (.cells (row1 zs n p).toArray T (0, 0))) (hl : zs.length = n * 5) (hp : p ≤ n) (hj : j < 5) : ∃ u, w.cell? ⟨g, p * 5 + j, none⟩ = some u := by
  have h1 : p * 5 + j < (row1 zs n p).length := by rw [row1_len hl hp]; omega
  exact ⟨(row1 zs n p)[p * 5 + j], by rw [cell_of_row _ _ _ _ _ (0, 0) h, List.getElem?_toArray, List.getElem?_eq_getElem h1]⟩
theorem src_take {w : World} {B n p : Nat} {A : Option Addr} {zs : List Int} (h : RdZ 5 w B A n zs) (hp : p ≤ n) : 0 < p → ∃ ad, A = some ad ∧ ∀ j v, (cellsI (zs.take (p * 5)))[j]? = some v → w.cell? (ad.add j) = some v := fun h0 => by
  obtain ⟨b, o, e, -, hc⟩ := h.2 (by omega)
  refine ⟨⟨b, o, none⟩, e, fun j v hv => ?_⟩
  obtain ⟨x, hx, rfl⟩ := cellsI_at hv
  rw [Addr.add_lit]
  rw [List.getElem?_take] at hx
  split at hx
  · exact hc j x hx
  · cases hx
theorem src_drop {w : World} {B n p b o : Nat} {zs : List Int} (h : RdZ 5 w B (some ⟨b, o, none⟩) n zs) (hp : p < n) : ∀ j v, (cellsI (zs.drop (p * 5)))[j]? = some v → w.cell? ((⟨b, o + p * 5, none⟩ : Addr).add j) = some v := fun j v hv => by
  obtain ⟨b', o', e, -, hc⟩ := h.2 (by omega)
  obtain ⟨rfl, rfl⟩ : b = b' ∧ o = o' := by injection e with e; injection e with e1 e2; exact ⟨e1, e2⟩
  obtain ⟨x, hx, rfl⟩ := cellsI_at hv
  rw [Addr.add_lit, Nat.add_assoc]
  rw [List.getElem?_drop] at hx
  exact hc (p * 5 + j) x hx

set_option maxRecDepth 100000 in
set_option maxHeartbeats 4000000 in
theorem clearLevels (zs : List Int) (a l u f t : Int) (A : Option Addr) (n c : Nat) (w : World) (hc : n ≤ c) (hn : n ≤ 1048576) (h1 : RdZ 5 w w.heap.size A n zs) :
    Calls Try.prog 16 #[.slice A n c, .agg #[.int .i64 a, .int .i64 l, .int .i64 u, .int .i64 f, .int .i64 t]] w fun e w' => ∃ v, e = .returned (.tuple #[v, .bool (ciB zs n a l u f t)]) ∧ w'.ownsRow w.heap.size 26 5 v (ciN zs n a l u f t) (cellsI (ciV zs n a l u f t)) ∧ Below w.heap.size w w' := by
  have S0 := Lib.hid (newS 26 #[.int .i64 a, .int .i64 l, .int .i64 u, .int .i64 f, .int .i64 t] w)
  have HR := Lib.hid h1
  have HL := Lib.hid h1.1
  obtain ⟨i0, hi, hz0, hz1, hz2⟩ := info_parts infoS
  have HC := Lib.hid hc
  clear h1
  go_enter Try.func16, Try.ntmps16
  go_wp2_with fail
  generalize w.alloc (.cells #[.int .i64 a, .int .i64 l, .int .i64 u, .int .i64 f, .int .i64 t] 26) = W0 at *
  go_loopw [6] (fun i wr => ∃ k : Nat, k ≤ n ∧ i = .int .i64 k ∧ Below W0.heap.size W0 wr ∧ fsT (fun k => !befB (fld 5 zs k 0) (fld 5 zs k 4) a f) k = k) (fun i _ => n - (intOf i).toNat)
  case atStart => exact ⟨0, Nat.zero_le _, rfl, Below.refl _ _, rfl⟩
  case round =>
    obtain ⟨k, hk, rfl, hb, hfs⟩ := hrel
    have SB := Lib.hid (S0.out.old hb)
    have HB := Lib.hid hb
    have c00 : wr.cell? ⟨w.heap.size, 0, none⟩ = some (.int .i64 a) := SB.out.cell 0
    have c01 : wr.cell? ⟨w.heap.size, 1, none⟩ = some (.int .i64 l) := SB.out.cell 1
    have c02 : wr.cell? ⟨w.heap.size, 2, none⟩ = some (.int .i64 u) := SB.out.cell 2
    have c03 : wr.cell? ⟨w.heap.size, 3, none⟩ = some (.int .i64 f) := SB.out.cell 3
    have c04 : wr.cell? ⟨w.heap.size, 4, none⟩ = some (.int .i64 t) := SB.out.cell 4
    by_cases hlt : k < n
    · obtain ⟨b1, o1, rfl, l1, p0, p1, p2, p3, p4⟩ := cellsE (HR.out.below (S0.out.1.trans (hb.mono S0.out.1.size)) (Nat.le_refl _)) hlt
      have hlt2 : (k : Int) < (n : Int) := by omega
      have HLT := Lib.hid hlt
      have HFE := Lib.hid (fun (h : (!befB (fld 5 zs k 0) (fld 5 zs k 4) a f) = true) => show ldI zs n a f = k from (fsT_end (p := (fun k => !befB (fld 5 zs k 0) (fld 5 zs k 4) a f)) (n := n) (k := k + 1) (by rw [fsT_yes hfs h]; omega) (by omega)).trans (fsT_yes hfs h))
      have HFN := Lib.hid (fun (h : (!befB (fld 5 zs k 0) (fld 5 zs k 4) a f) = false) => fsT_not (p := (fun k => !befB (fld 5 zs k 0) (fld 5 zs k 4) a f)) (k := k) hfs h)
      have D1 := Lib.hid (fun W d0 os => Calls.regrown_of (comesBefore (fld 5 zs k 0) (fld 5 zs k 1) (fld 5 zs k 2) (fld 5 zs k 3) (fld 5 zs k 4) a l u f t (Sort.grow (redrawn W d0) os)))
      clear hb hfs hlt
      generalize befB (fld 5 zs k 0) (fld 5 zs k 4) a f = pb at *
      generalize fld 5 zs k 0 = u0 at *
      generalize fld 5 zs k 1 = u1 at *
      generalize fld 5 zs k 2 = u2 at *
      generalize fld 5 zs k 3 = u3 at *
      generalize fld 5 zs k 4 = u4 at *
      cases pb
      · have HP := Lib.hid (HFE.out rfl)
        have HRA := Lib.hid (show RdZ 5 w w.heap.size (some ⟨b1, o1, none⟩) n zs from HR.out)
        clear HFE HFN HR
        go_upto_region 2 with fail
        have c00' := fun d0 os => cell_regrown c00 d0 os
        have c01' := fun d0 os => cell_regrown c01 d0 os
        have c02' := fun d0 os => cell_regrown c02 d0 os
        have c03' := fun d0 os => cell_regrown c03 d0 os
        have c04' := fun d0 os => cell_regrown c04 d0 os
        have p0' := fun d0 os => cell_regrown p0 d0 os
        have p1' := fun d0 os => cell_regrown p1 d0 os
        have p2' := fun d0 os => cell_regrown p2 d0 os
        have p3' := fun d0 os => cell_regrown p3 d0 os
        have p4' := fun d0 os => cell_regrown p4 d0 os
        clear c00 c01 c02 c03 c04 p0 p1 p2 p3 p4
        refine wp_region_quiet_below (by kernel_rfl) (by kernel_rfl) ?_
        repeat (
          with_reducible refine wpQuiet_step (fun K hK => ?_)
          go_simp
          first
            | (refine hK _ ?_; clear hK K)
            | (apply Exists.intro
               refine ⟨fun _ => ?_, hK _ ?_⟩
               (first
                 | (go_at_call 55; with_reducible exact D1.out _ _ _))
               clear hK K))
        with_reducible refine wpQuiet_nil ?_
        intro _ hw'
        obtain ⟨⟨dq, osq⟩, hw''⟩ := hw'
        subst hw''
        have hbl := (below_regrown wr dq osq)
        clear c00' c01' c02' c03' c04' p0' p1' p2' p3' p4'
        generalize Sort.grow (redrawn wr dq) osq = w3 at *
        have B3 := Lib.hid (HB.out.trans (hbl.mono HB.out.size))
        clear hbl HB SB
        have hkn := HLT.out
        have hkc : (k : Int) ≤ (c : Int) := by have := HC.out; omega
        have S3 := Lib.hid (S0.out.old B3.out)
        have LB3 := Lib.hid B3.out.size
        have HN0 := Lib.hid (show n ≤ 1048576 by omega)
        have HSZ := Lib.hid (show (Try.prog.info? 26).map (·.size) = some 5 by kernel_rfl)
        have HEAP := Lib.hid (fun (w4 : World) (h : w4.ownsRow W0.heap.size 26 5 (.slice (some ⟨w3.heap.size, 0, none⟩) (n + 1) (n + 1)) (n + 1) ((madeCells (Value.cells (.agg #[.int .i64 0, .int .i64 0, .int .i64 0, .int .i64 0, .int .i64 0])) ((n + 1) * 5)).toList)) => show w4.heap[w3.heap.size]? = some (.cells (List.replicate ((n + 1) * 5) (.int .i64 0)).toArray 26 (0, 0)) from heap_of h (lvle.made2 (n + 1)))
        have SRC := Lib.hid (fun (w4 : World) (hb : Below W0.heap.size W0 w4) h0 => src_take (HRA.out.below (S0.out.1.trans (hb.mono S0.out.1.size)) (Nat.le_refl _)) (show k ≤ n by omega) h0)
        have COP := Lib.hid (fun (w4 : World) h (hb : Below W0.heap.size W0 w4) => copy_run (P := Try.prog) w4 24 24 3 26 5 Try.underlying24 HSZ.out (some ⟨w3.heap.size, 0, none⟩) (some ⟨b1, o1, none⟩) (n + 1) (n + 1) k c w3.heap.size 0 (List.replicate ((n + 1) * 5) (.int .i64 0)) 26 (HEAP.out w4 h) (cellsI (zs.take (k * 5))) k (by show min k (n + 1) = k; omega) (by rw [cells_len, List.length_take, HL.out]; omega) (fun h0 => ⟨rfl, SRC.out w4 hb h0⟩) (by rw [cells_len, List.length_take, HL.out, List.length_replicate]; omega) (fun u hu => ints_one _ u hu))
        go_upto_region 5 with (at_make; refine wpList_make_full _ rfl _ _ 24 rfl W0.heap.size 26 i0 (.agg #[.int .i64 0, .int .i64 0, .int .i64 0, .int .i64 0, .int .i64 0]) 5 Try.underlying24 hi hz0 hz1 _ _ _ _ (n + 1) rfl rfl rfl rfl (by rw [hz2]; omega) (by unfold maxLen; omega) (by have := LB3.out; omega) ?_; intro w4 hown hg; have HO4 := Lib.hid hown; have HB4 := Lib.hid (B3.out.grown hg LB3.out (fun k e => by cases e)); clear hown hg)
        obtain ⟨w5, hrun, hg5, hb5⟩ := COP.out w4 HO4.out HB4.out
        rw [row1_is HL.out (by omega)] at hg5
        have HG5 := Lib.hid hg5
        have HB5 := Lib.hid (hb5 W0.heap.size W0 HB4.out LB3.out)
        have S5 := Lib.hid (S0.out.old HB5.out)
        have HCE := Lib.hid (fun j (hj : j < 5) => cell_row1 HG5.out HL.out (show k ≤ n by omega) hj)
        obtain ⟨⟨v0, z0⟩, ⟨v1, z1⟩, ⟨v2, z2⟩, ⟨v3, z3⟩, v4, z4⟩ := And.intro (HCE.out 0 (by omega)) (And.intro (HCE.out 1 (by omega)) (And.intro (HCE.out 2 (by omega)) (And.intro (HCE.out 3 (by omega)) (HCE.out 4 (by omega)))))
        have y0 : w5.frozen? ⟨w3.heap.size, k * 5, none⟩ = false := by simp [World.frozen?, hg5]
        have y1 : w5.frozen? ⟨w3.heap.size, k * 5 + 1, none⟩ = false := by simp [World.frozen?, hg5]
        have y2 : w5.frozen? ⟨w3.heap.size, k * 5 + 2, none⟩ = false := by simp [World.frozen?, hg5]
        have y3 : w5.frozen? ⟨w3.heap.size, k * 5 + 3, none⟩ = false := by simp [World.frozen?, hg5]
        have y4 : w5.frozen? ⟨w3.heap.size, k * 5 + 4, none⟩ = false := by simp [World.frozen?, hg5]
        rw [Nat.add_zero] at z0
        have d0 : w5.cell? ⟨w.heap.size, 0, none⟩ = some (.int .i64 a) := S5.out.cell 0
        have d1 : w5.cell? ⟨w.heap.size, 1, none⟩ = some (.int .i64 l) := S5.out.cell 1
        have d2 : w5.cell? ⟨w.heap.size, 2, none⟩ = some (.int .i64 u) := S5.out.cell 2
        have d3 : w5.cell? ⟨w.heap.size, 3, none⟩ = some (.int .i64 f) := S5.out.cell 3
        have d4 : w5.cell? ⟨w.heap.size, 4, none⟩ = some (.int .i64 t) := S5.out.cell 4
        have g60 := heap_setCell_same _ w3.heap.size (k * 5) _ _ (.int .i64 a) HG5.out
        have g61 := heap_setCell_same _ w3.heap.size (k * 5 + 1) _ _ (.int .i64 l) g60
        have g62 := heap_setCell_same _ w3.heap.size (k * 5 + 2) _ _ (.int .i64 u) g61
        have g63 := heap_setCell_same _ w3.heap.size (k * 5 + 3) _ _ (.int .i64 f) g62
        have g64 := heap_setCell_same _ w3.heap.size (k * 5 + 4) _ _ (.int .i64 t) g63
        simp only [List.setIfInBounds_toArray] at g64
        rw [row2_is HL.out (by omega)] at g64
        have HG6 := Lib.hid g64
        have HB6 := Lib.hid (((((HB5.out.setCell (p := ⟨w3.heap.size, k * 5, none⟩) LB3.out (.int .i64 a)).setCell (p := ⟨w3.heap.size, k * 5 + 1, none⟩) LB3.out (.int .i64 l)).setCell (p := ⟨w3.heap.size, k * 5 + 2, none⟩) LB3.out (.int .i64 u)).setCell (p := ⟨w3.heap.size, k * 5 + 3, none⟩) LB3.out (.int .i64 f)).setCell (p := ⟨w3.heap.size, k * 5 + 4, none⟩) LB3.out (.int .i64 t))
        clear hg5 hb5 g60 g61 g62 g63 g64
        go_upto_region 7 with fail
        clear d0 d1 d2 d3 d4 y0 y1 y2 y3 y4 z0 z1 z2 z3 z4 hrun
        generalize (((((w5.setCell ⟨w3.heap.size, k * 5, none⟩ (.int .i64 a)).setCell ⟨w3.heap.size, k * 5 + 1, none⟩ (.int .i64 l)).setCell ⟨w3.heap.size, k * 5 + 2, none⟩ (.int .i64 u)).setCell ⟨w3.heap.size, k * 5 + 3, none⟩ (.int .i64 f)).setCell ⟨w3.heap.size, k * 5 + 4, none⟩ (.int .i64 t)) = w6 at *
        obtain ⟨q, hq⟩ : ∃ q : Nat, q = k + 1 := ⟨_, rfl⟩
        have HQ := Lib.hid hq
        have wk1 : IntKind.i64.wrap ((k : Int) + 1) = (q : Int) := by rw [IntWalk.i64_in _ (by omega)]; omega
        have hq1 : (q : Int) ≤ (n : Int) + 1 := by omega
        have hq0 : (0 : Int) ≤ (q : Int) := by omega
        clear hq
        obtain ⟨w7, hrun7, hg7, hb7⟩ := copy_run (P := Try.prog) w6.drew 24 24 3 26 5 Try.underlying24 HSZ.out (if n + 1 = q then some ⟨w3.heap.size, 0, none⟩ else some ⟨w3.heap.size, q * 5, none⟩) (if c = k then some ⟨b1, o1, none⟩ else some ⟨b1, o1 + k * 5, none⟩) (n + 1 - q) (n + 1 - q) (n - k) (c - k) w3.heap.size ((k + 1) * 5) (row2 zs n k a l u f t) 26 HG6.out (cellsI (zs.drop (k * 5))) (n - k) (by show min (n - k) (n + 1 - q) = (n - k); have := HQ.out; omega) (by rw [cells_len, List.length_drop, HL.out]; omega) (fun h0 => ⟨by rw [if_neg (by have := HQ.out; omega), HQ.out], ⟨b1, o1 + k * 5, none⟩, by rw [if_neg (by have := HC.out; omega)], src_drop (HRA.out.below (S0.out.1.trans (HB6.out.drew.mono S0.out.1.size)) (Nat.le_refl _)) (by omega)⟩) (by rw [row2_len HL.out (by omega), cells_len, List.length_drop, HL.out]; omega) (fun u hu => ints_one _ u hu)
        rw [row3_is HL.out (by omega)] at hg7
        have HG7 := Lib.hid hg7
        have HB7 := Lib.hid (hb7 W0.heap.size W0 HB6.out.drew LB3.out)
        clear hg7 hb7
        refine wp_region_tail (S := fun w' => True) 7 (by kernel_rfl) trivial (fun hHeld => ?_)
        try simp only [Act.put, List.getElem_toArray, List.getElem_cons_succ, List.getElem_cons_zero, List.setIfInBounds_toArray, List.set_cons_succ, List.set_cons_zero]
        refine wpAnyE_take (i := 0) (v := ?vt1_0) rfl (by decide +kernel) (fun _ _ _ h => h) (Or.inl ⟨by first | rfl | kernel_rfl, ?ht1_0⟩) (by assumption) ?rt1_0
        case ht1_0 =>
          intro wS hSw
          go_simp
          try with_reducible rfl
        try simp only [Act.put, List.getElem_toArray, List.getElem_cons_zero, List.setIfInBounds_toArray, List.set_cons_succ, List.set_cons_zero]
        refine wpAnyE_take (i := 1) (v := ?vt1_1) rfl (by decide +kernel) (fun _ _ _ h => h) (Or.inl ⟨by first | rfl | kernel_rfl, ?ht1_1⟩) (by assumption) ?rt1_1
        case ht1_1 =>
          intro wS hSw
          go_simp
          try with_reducible rfl
        try simp only [Act.put, List.getElem_toArray, List.getElem_cons_succ, List.getElem_cons_zero, List.setIfInBounds_toArray, List.set_cons_succ, List.set_cons_zero]
        refine wpAnyE_take (i := 2) (v := ?vt1_2) rfl (by decide +kernel) (fun _ _ _ h => h) (Or.inl ⟨by first | rfl | kernel_rfl, ?ht1_2⟩) (by assumption) ?rt1_2
        case ht1_2 =>
          intro wS hSw
          go_simp
          try with_reducible rfl
        try simp only [Act.put, List.getElem_toArray, List.getElem_cons_succ, List.getElem_cons_zero, List.setIfInBounds_toArray, List.set_cons_succ, List.set_cons_zero]
        refine wpAnyE_take (i := 3) (v := ?vt1_3) rfl (by decide +kernel) (fun _ _ _ h => h) (Or.inl ⟨by first | rfl | kernel_rfl, ?ht1_3⟩) (by assumption) ?rt1_3
        case ht1_3 =>
          intro wS hSw
          go_simp
          try with_reducible rfl
        try simp only [Act.put, List.getElem_toArray, List.getElem_cons_succ, List.getElem_cons_zero, List.setIfInBounds_toArray, List.set_cons_succ, List.set_cons_zero]
        refine wpAnyE_take (i := 4) (v := ?vt1_4) rfl (by decide +kernel) (fun _ _ _ h => h) (Or.inl ⟨by first | rfl | kernel_rfl, ?ht1_4⟩) (by assumption) ?rt1_4
        case ht1_4 =>
          intro wS hSw
          go_simp
          try with_reducible rfl
        try simp only [Act.put, List.getElem_toArray, List.getElem_cons_succ, List.getElem_cons_zero, List.setIfInBounds_toArray, List.set_cons_succ, List.set_cons_zero]
        refine wpAnyE_take (i := 5) (v := ?vt1_5) rfl (by decide +kernel) (fun _ _ _ h => h) (Or.inl ⟨by first | rfl | kernel_rfl, ?ht1_5⟩) (by assumption) ?rt1_5
        case ht1_5 =>
          intro wS hSw
          go_simp
          try with_reducible rfl
        try simp only [Act.put, List.getElem_toArray, List.getElem_cons_succ, List.getElem_cons_zero, List.setIfInBounds_toArray, List.set_cons_succ, List.set_cons_zero]
        refine wpAnyE_take (i := 6) (v := ?vt1_6) rfl (by decide +kernel) (fun _ _ _ h => h) (Or.inl ⟨by first | rfl | kernel_rfl, ?ht1_6⟩) (by assumption) ?rt1_6
        case ht1_6 =>
          intro wS hSw
          go_simp
          try with_reducible rfl
        try simp only [Act.put, List.getElem_toArray, List.getElem_cons_succ, List.getElem_cons_zero, List.setIfInBounds_toArray, List.set_cons_succ, List.set_cons_zero]
        refine wpAnyE_ready (rs := [7]) (by kernel_rfl) (by simp) ?_
        refine AllReadyE.last (i := 7) rfl rfl (fun K hK => ?_)
        go_simp
        refine hK.out _ _ ?_
        clear hK K
        try simp only [Act.put, List.getElem_toArray, List.getElem_cons_succ, List.getElem_cons_zero, List.setIfInBounds_toArray, List.set_cons_succ, List.set_cons_zero]
        refine wpAnyE_done (by kernel_rfl) ?_ _
        try simp only [List.getElem_toArray, List.getElem_cons_succ, List.getElem_cons_zero, List.setIfInBounds_toArray, List.set_cons_succ, List.set_cons_zero]
        clear hrun7
        generalize (if n + 1 = q then some (⟨w3.heap.size, 0, none⟩ : Addr) else some (⟨w3.heap.size, q * 5, none⟩ : Addr)) = dq
        generalize (if c = k then some (⟨b1, o1, none⟩ : Addr) else some (⟨b1, o1 + k * 5, none⟩ : Addr)) = sq
        have HLN := Lib.hid (inR_length (a := a) (l := l) (u := u) (f := f) (t := t) HL.out (show k ≤ n by omega))
        have OW := Lib.hid (own_row (m := n + 1) HG7.out LB3.out HLN.out (by unfold maxLen; omega))
        have IVC := Lib.hid (isValidClearances (inR zs k a l u f t) (some ⟨w3.heap.size, 0, none⟩) (n + 1) (n + 1) w7 (Nat.le_refl _) (by omega) (RdZ.of_own OW.out HLN.out))
        have HCB := Lib.hid (show ciB zs n a l u f t = cvB (inR zs k a l u f t) (n + 1) by unfold ciB; rw [HP.out])
        clear HG7 HG6
        cases hcv : cvB (inR zs k a l u f t) (n + 1)
        · rw [hcv] at IVC HCB
          have HV := Lib.hid (ciV_no HCB.out)
          have HN := Lib.hid (ciN_no HCB.out)
          clear hcv
          go_wp2_with fail
          refine IVC.out.mono ?_
          rintro e w8 ⟨rfl, hb8⟩
          have BX := Lib.hid (S0.out.1.trans ((HB7.out.trans (hb8.mono HB7.out.size)).mono S0.out.1.size))
          clear hb8
          go_wp2_with fail
          go_ret2
          exact ⟨_, by rw [HCB.out]; rfl, by rw [HV.out, HN.out]; exact World.ownsRow_nil .., BX.out⟩
        · rw [hcv] at IVC HCB
          have HV := Lib.hid (ciV_yes HCB.out)
          have HN := Lib.hid (ciN_yes HCB.out)
          rw [HP.out] at HV
          clear hcv
          go_wp2_with fail
          refine IVC.out.mono ?_
          rintro e w8 ⟨rfl, hb8⟩
          have BX := Lib.hid (S0.out.1.trans ((HB7.out.trans (hb8.mono HB7.out.size)).mono S0.out.1.size))
          have OX := Lib.hid (own_.own_base (own_.own_below OW.out hb8) S0.out.1.size)
          clear hb8
          go_wp2_with fail
          go_ret2
          exact ⟨_, by rw [HCB.out]; rfl, by rw [HV.out, HN.out]; exact OX.out, BX.out⟩
      · have HN := Lib.hid (HFN.out rfl)
        clear HFE HFN
        go_upto_region 2 with fail
        have c00' := fun d0 os => cell_regrown c00 d0 os
        have c01' := fun d0 os => cell_regrown c01 d0 os
        have c02' := fun d0 os => cell_regrown c02 d0 os
        have c03' := fun d0 os => cell_regrown c03 d0 os
        have c04' := fun d0 os => cell_regrown c04 d0 os
        have p0' := fun d0 os => cell_regrown p0 d0 os
        have p1' := fun d0 os => cell_regrown p1 d0 os
        have p2' := fun d0 os => cell_regrown p2 d0 os
        have p3' := fun d0 os => cell_regrown p3 d0 os
        have p4' := fun d0 os => cell_regrown p4 d0 os
        clear c00 c01 c02 c03 c04 p0 p1 p2 p3 p4
        refine wp_region_quiet_below (by kernel_rfl) (by kernel_rfl) ?_
        repeat (
          with_reducible refine wpQuiet_step (fun K hK => ?_)
          go_simp
          first
            | (refine hK _ ?_; clear hK K)
            | (apply Exists.intro
               refine ⟨fun _ => ?_, hK _ ?_⟩
               (first
                 | (go_at_call 55; with_reducible exact D1.out _ _ _))
               clear hK K))
        with_reducible refine wpQuiet_nil ?_
        intro _ hw'
        obtain ⟨⟨dq, osq⟩, hw''⟩ := hw'
        subst hw''
        have hbl := (below_regrown wr dq osq)
        clear c00' c01' c02' c03' c04' p0' p1' p2' p3' p4'
        generalize Sort.grow (redrawn wr dq) osq = w3 at *
        have B3 := Lib.hid (HB.out.trans (hbl.mono HB.out.size))
        clear hbl
        go_wp2_with fail
        go_roundw
        case rel => exact ⟨k + 1, by have := HLT.out; omega, by go_num, B3.out, HN.out⟩
        case measure => have := HLT.out; simp [intOf]; omega
    · obtain rfl : k = n := by omega
      have HP := Lib.hid (show ldI zs k a f = k from hfs)
      clear hb hfs
      go_upto_region 2 with fail
      have c00' := fun d0 os => cell_regrown c00 d0 os
      have c01' := fun d0 os => cell_regrown c01 d0 os
      have c02' := fun d0 os => cell_regrown c02 d0 os
      have c03' := fun d0 os => cell_regrown c03 d0 os
      have c04' := fun d0 os => cell_regrown c04 d0 os
      clear c00 c01 c02 c03 c04
      refine wp_region_quiet_below (by kernel_rfl) (by kernel_rfl) ?_
      repeat (
        with_reducible refine wpQuiet_step (fun K hK => ?_)
        go_simp
        refine hK _ ?_; clear hK K)
      with_reducible refine wpQuiet_nil ?_
      intro _ hw'
      obtain ⟨⟨dq, osq⟩, hw''⟩ := hw'
      subst hw''
      have hbl := (below_regrown wr dq osq)
      clear c00' c01' c02' c03' c04'
      generalize Sort.grow (redrawn wr dq) osq = w3 at *
      have B3 := Lib.hid (HB.out.trans (hbl.mono HB.out.size))
      clear hbl HB SB
      have hkc : (k : Int) ≤ (c : Int) := by have := HC.out; omega
      have S3 := Lib.hid (S0.out.old B3.out)
      have LB3 := Lib.hid B3.out.size
      have HN0 := Lib.hid (show k ≤ 1048576 by omega)
      have HSZ := Lib.hid (show (Try.prog.info? 26).map (·.size) = some 5 by kernel_rfl)
      have HEAP := Lib.hid (fun (w4 : World) (h : w4.ownsRow W0.heap.size 26 5 (.slice (some ⟨w3.heap.size, 0, none⟩) (k + 1) (k + 1)) (k + 1) ((madeCells (Value.cells (.agg #[.int .i64 0, .int .i64 0, .int .i64 0, .int .i64 0, .int .i64 0])) ((k + 1) * 5)).toList)) => show w4.heap[w3.heap.size]? = some (.cells (List.replicate ((k + 1) * 5) (.int .i64 0)).toArray 26 (0, 0)) from heap_of h (lvle.made2 (k + 1)))
      have SRC := Lib.hid (fun (w4 : World) (hb : Below W0.heap.size W0 w4) h0 => src_take (HR.out.below (S0.out.1.trans (hb.mono S0.out.1.size)) (Nat.le_refl _)) (show k ≤ k by omega) h0)
      have COP := Lib.hid (fun (w4 : World) h (hb : Below W0.heap.size W0 w4) => copy_run (P := Try.prog) w4 24 24 3 26 5 Try.underlying24 HSZ.out (some ⟨w3.heap.size, 0, none⟩) A (k + 1) (k + 1) k c w3.heap.size 0 (List.replicate ((k + 1) * 5) (.int .i64 0)) 26 (HEAP.out w4 h) (cellsI (zs.take (k * 5))) k (by show min k (k + 1) = k; omega) (by rw [cells_len, List.length_take, HL.out]; omega) (fun h0 => ⟨rfl, SRC.out w4 hb h0⟩) (by rw [cells_len, List.length_take, HL.out, List.length_replicate]; omega) (fun u hu => ints_one _ u hu))
      go_upto_region 5 with (at_make; refine wpList_make_full _ rfl _ _ 24 rfl W0.heap.size 26 i0 (.agg #[.int .i64 0, .int .i64 0, .int .i64 0, .int .i64 0, .int .i64 0]) 5 Try.underlying24 hi hz0 hz1 _ _ _ _ (k + 1) rfl rfl rfl rfl (by rw [hz2]; omega) (by unfold maxLen; omega) (by have := LB3.out; omega) ?_; intro w4 hown hg; have HO4 := Lib.hid hown; have HB4 := Lib.hid (B3.out.grown hg LB3.out (fun k e => by cases e)); clear hown hg)
      obtain ⟨w5, hrun, hg5, hb5⟩ := COP.out w4 HO4.out HB4.out
      rw [row1_is HL.out (by omega)] at hg5
      have HG5 := Lib.hid hg5
      have HB5 := Lib.hid (hb5 W0.heap.size W0 HB4.out LB3.out)
      have S5 := Lib.hid (S0.out.old HB5.out)
      have HCE := Lib.hid (fun j (hj : j < 5) => cell_row1 HG5.out HL.out (show k ≤ k by omega) hj)
      obtain ⟨⟨v0, z0⟩, ⟨v1, z1⟩, ⟨v2, z2⟩, ⟨v3, z3⟩, v4, z4⟩ := And.intro (HCE.out 0 (by omega)) (And.intro (HCE.out 1 (by omega)) (And.intro (HCE.out 2 (by omega)) (And.intro (HCE.out 3 (by omega)) (HCE.out 4 (by omega)))))
      have y0 : w5.frozen? ⟨w3.heap.size, k * 5, none⟩ = false := by simp [World.frozen?, hg5]
      have y1 : w5.frozen? ⟨w3.heap.size, k * 5 + 1, none⟩ = false := by simp [World.frozen?, hg5]
      have y2 : w5.frozen? ⟨w3.heap.size, k * 5 + 2, none⟩ = false := by simp [World.frozen?, hg5]
      have y3 : w5.frozen? ⟨w3.heap.size, k * 5 + 3, none⟩ = false := by simp [World.frozen?, hg5]
      have y4 : w5.frozen? ⟨w3.heap.size, k * 5 + 4, none⟩ = false := by simp [World.frozen?, hg5]
      rw [Nat.add_zero] at z0
      have d0 : w5.cell? ⟨w.heap.size, 0, none⟩ = some (.int .i64 a) := S5.out.cell 0
      have d1 : w5.cell? ⟨w.heap.size, 1, none⟩ = some (.int .i64 l) := S5.out.cell 1
      have d2 : w5.cell? ⟨w.heap.size, 2, none⟩ = some (.int .i64 u) := S5.out.cell 2
      have d3 : w5.cell? ⟨w.heap.size, 3, none⟩ = some (.int .i64 f) := S5.out.cell 3
      have d4 : w5.cell? ⟨w.heap.size, 4, none⟩ = some (.int .i64 t) := S5.out.cell 4
      have g60 := heap_setCell_same _ w3.heap.size (k * 5) _ _ (.int .i64 a) HG5.out
      have g61 := heap_setCell_same _ w3.heap.size (k * 5 + 1) _ _ (.int .i64 l) g60
      have g62 := heap_setCell_same _ w3.heap.size (k * 5 + 2) _ _ (.int .i64 u) g61
      have g63 := heap_setCell_same _ w3.heap.size (k * 5 + 3) _ _ (.int .i64 f) g62
      have g64 := heap_setCell_same _ w3.heap.size (k * 5 + 4) _ _ (.int .i64 t) g63
      simp only [List.setIfInBounds_toArray] at g64
      rw [row2_is HL.out (by omega)] at g64
      have HG6 := Lib.hid g64
      have HB6 := Lib.hid (((((HB5.out.setCell (p := ⟨w3.heap.size, k * 5, none⟩) LB3.out (.int .i64 a)).setCell (p := ⟨w3.heap.size, k * 5 + 1, none⟩) LB3.out (.int .i64 l)).setCell (p := ⟨w3.heap.size, k * 5 + 2, none⟩) LB3.out (.int .i64 u)).setCell (p := ⟨w3.heap.size, k * 5 + 3, none⟩) LB3.out (.int .i64 f)).setCell (p := ⟨w3.heap.size, k * 5 + 4, none⟩) LB3.out (.int .i64 t))
      clear hg5 hb5 g60 g61 g62 g63 g64
      go_upto_region 7 with fail
      clear d0 d1 d2 d3 d4 y0 y1 y2 y3 y4 z0 z1 z2 z3 z4 hrun
      generalize (((((w5.setCell ⟨w3.heap.size, k * 5, none⟩ (.int .i64 a)).setCell ⟨w3.heap.size, k * 5 + 1, none⟩ (.int .i64 l)).setCell ⟨w3.heap.size, k * 5 + 2, none⟩ (.int .i64 u)).setCell ⟨w3.heap.size, k * 5 + 3, none⟩ (.int .i64 f)).setCell ⟨w3.heap.size, k * 5 + 4, none⟩ (.int .i64 t)) = w6 at *
      obtain ⟨q, hq⟩ : ∃ q : Nat, q = k + 1 := ⟨_, rfl⟩
      have HQ := Lib.hid hq
      have wk1 : IntKind.i64.wrap ((k : Int) + 1) = (q : Int) := by rw [IntWalk.i64_in _ (by omega)]; omega
      have hq1 : (q : Int) ≤ (k : Int) + 1 := by omega
      have hq0 : (0 : Int) ≤ (q : Int) := by omega
      clear hq
      obtain ⟨w7, hrun7, hg7, hb7⟩ := copy_run (P := Try.prog) w6.drew 24 24 3 26 5 Try.underlying24 HSZ.out (if k + 1 = q then some ⟨w3.heap.size, 0, none⟩ else some ⟨w3.heap.size, q * 5, none⟩) (if c = k then A else Option.map (fun x => x.add (k * 5)) A) (k + 1 - q) (k + 1 - q) 0 (c - k) w3.heap.size ((k + 1) * 5) (row2 zs k k a l u f t) 26 HG6.out (cellsI (zs.drop (k * 5))) 0 (by show min 0 (k + 1 - q) = 0; have := HQ.out; omega) (by rw [cells_len, List.length_drop, HL.out]; omega) (fun h0 => absurd h0 (Nat.lt_irrefl 0)) (by rw [row2_len HL.out (by omega), cells_len, List.length_drop, HL.out]; omega) (fun u hu => ints_one _ u hu)
      rw [row3_is HL.out (by omega)] at hg7
      have HG7 := Lib.hid hg7
      have HB7 := Lib.hid (hb7 W0.heap.size W0 HB6.out.drew LB3.out)
      clear hg7 hb7
      refine wp_region_tail (S := fun w' => True) 7 (by kernel_rfl) trivial (fun hHeld => ?_)
      try simp only [Act.put, List.getElem_toArray, List.getElem_cons_succ, List.getElem_cons_zero, List.setIfInBounds_toArray, List.set_cons_succ, List.set_cons_zero]
      refine wpAnyE_take (i := 0) (v := ?vt2_0) rfl (by decide +kernel) (fun _ _ _ h => h) (Or.inl ⟨by first | rfl | kernel_rfl, ?ht2_0⟩) (by assumption) ?rt2_0
      case ht2_0 =>
        intro wS hSw
        go_simp
        try with_reducible rfl
      try simp only [Act.put, List.getElem_toArray, List.getElem_cons_zero, List.setIfInBounds_toArray, List.set_cons_succ, List.set_cons_zero]
      refine wpAnyE_take (i := 1) (v := ?vt2_1) rfl (by decide +kernel) (fun _ _ _ h => h) (Or.inl ⟨by first | rfl | kernel_rfl, ?ht2_1⟩) (by assumption) ?rt2_1
      case ht2_1 =>
        intro wS hSw
        go_simp
        try with_reducible rfl
      try simp only [Act.put, List.getElem_toArray, List.getElem_cons_succ, List.getElem_cons_zero, List.setIfInBounds_toArray, List.set_cons_succ, List.set_cons_zero]
      refine wpAnyE_take (i := 2) (v := ?vt2_2) rfl (by decide +kernel) (fun _ _ _ h => h) (Or.inl ⟨by first | rfl | kernel_rfl, ?ht2_2⟩) (by assumption) ?rt2_2
      case ht2_2 =>
        intro wS hSw
        go_simp
        try with_reducible rfl
      try simp only [Act.put, List.getElem_toArray, List.getElem_cons_succ, List.getElem_cons_zero, List.setIfInBounds_toArray, List.set_cons_succ, List.set_cons_zero]
      refine wpAnyE_take (i := 3) (v := ?vt2_3) rfl (by decide +kernel) (fun _ _ _ h => h) (Or.inl ⟨by first | rfl | kernel_rfl, ?ht2_3⟩) (by assumption) ?rt2_3
      case ht2_3 =>
        intro wS hSw
        go_simp
        try with_reducible rfl
      try simp only [Act.put, List.getElem_toArray, List.getElem_cons_succ, List.getElem_cons_zero, List.setIfInBounds_toArray, List.set_cons_succ, List.set_cons_zero]
      refine wpAnyE_take (i := 4) (v := ?vt2_4) rfl (by decide +kernel) (fun _ _ _ h => h) (Or.inl ⟨by first | rfl | kernel_rfl, ?ht2_4⟩) (by assumption) ?rt2_4
      case ht2_4 =>
        intro wS hSw
        go_simp
        try with_reducible rfl
      try simp only [Act.put, List.getElem_toArray, List.getElem_cons_succ, List.getElem_cons_zero, List.setIfInBounds_toArray, List.set_cons_succ, List.set_cons_zero]
      refine wpAnyE_take (i := 5) (v := ?vt2_5) rfl (by decide +kernel) (fun _ _ _ h => h) (Or.inl ⟨by first | rfl | kernel_rfl, ?ht2_5⟩) (by assumption) ?rt2_5
      case ht2_5 =>
        intro wS hSw
        go_simp
        try with_reducible rfl
      try simp only [Act.put, List.getElem_toArray, List.getElem_cons_succ, List.getElem_cons_zero, List.setIfInBounds_toArray, List.set_cons_succ, List.set_cons_zero]
      refine wpAnyE_take (i := 6) (v := ?vt2_6) rfl (by decide +kernel) (fun _ _ _ h => h) (Or.inl ⟨by first | rfl | kernel_rfl, ?ht2_6⟩) (by assumption) ?rt2_6
      case ht2_6 =>
        intro wS hSw
        go_simp
        try with_reducible rfl
      try simp only [Act.put, List.getElem_toArray, List.getElem_cons_succ, List.getElem_cons_zero, List.setIfInBounds_toArray, List.set_cons_succ, List.set_cons_zero]
      refine wpAnyE_ready (rs := [7]) (by kernel_rfl) (by simp) ?_
      refine AllReadyE.last (i := 7) rfl rfl (fun K hK => ?_)
      go_simp
      refine hK.out _ _ ?_
      clear hK K
      try simp only [Act.put, List.getElem_toArray, List.getElem_cons_succ, List.getElem_cons_zero, List.setIfInBounds_toArray, List.set_cons_succ, List.set_cons_zero]
      refine wpAnyE_done (by kernel_rfl) ?_ _
      try simp only [List.getElem_toArray, List.getElem_cons_succ, List.getElem_cons_zero, List.setIfInBounds_toArray, List.set_cons_succ, List.set_cons_zero]
      clear hrun7
      generalize (if k + 1 = q then some (⟨w3.heap.size, 0, none⟩ : Addr) else some (⟨w3.heap.size, q * 5, none⟩ : Addr)) = dq
      generalize (if c = k then A else Option.map (fun x => x.add (k * 5)) A) = sq
      have HLN := Lib.hid (inR_length (a := a) (l := l) (u := u) (f := f) (t := t) HL.out (show k ≤ k by omega))
      have OW := Lib.hid (own_row (m := k + 1) HG7.out LB3.out HLN.out (by unfold maxLen; omega))
      have IVC := Lib.hid (isValidClearances (inR zs k a l u f t) (some ⟨w3.heap.size, 0, none⟩) (k + 1) (k + 1) w7 (Nat.le_refl _) (by omega) (RdZ.of_own OW.out HLN.out))
      have HCB := Lib.hid (show ciB zs k a l u f t = cvB (inR zs k a l u f t) (k + 1) by unfold ciB; rw [HP.out])
      clear HG7 HG6
      cases hcv : cvB (inR zs k a l u f t) (k + 1)
      · rw [hcv] at IVC HCB
        have HV := Lib.hid (ciV_no HCB.out)
        have HN := Lib.hid (ciN_no HCB.out)
        clear hcv
        go_wp2_with fail
        refine IVC.out.mono ?_
        rintro e w8 ⟨rfl, hb8⟩
        have BX := Lib.hid (S0.out.1.trans ((HB7.out.trans (hb8.mono HB7.out.size)).mono S0.out.1.size))
        clear hb8
        go_wp2_with fail
        go_ret2
        exact ⟨_, by rw [HCB.out]; rfl, by rw [HV.out, HN.out]; exact World.ownsRow_nil .., BX.out⟩
      · rw [hcv] at IVC HCB
        have HV := Lib.hid (ciV_yes HCB.out)
        have HN := Lib.hid (ciN_yes HCB.out)
        rw [HP.out] at HV
        clear hcv
        go_wp2_with fail
        refine IVC.out.mono ?_
        rintro e w8 ⟨rfl, hb8⟩
        have BX := Lib.hid (S0.out.1.trans ((HB7.out.trans (hb8.mono HB7.out.size)).mono S0.out.1.size))
        have OX := Lib.hid (own_.own_base (own_.own_below OW.out hb8) S0.out.1.size)
        clear hb8
        go_wp2_with fail
        go_ret2
        exact ⟨_, by rw [HCB.out]; rfl, by rw [HV.out, HN.out]; exact OX.out, BX.out⟩
end Go.Proofs.Ytglonedhoenkpaa.lvlg
