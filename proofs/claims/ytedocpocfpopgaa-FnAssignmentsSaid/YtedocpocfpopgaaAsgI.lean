/- impl's BestAssignment. -/
import Derived.Test.YtedocpocfpopgaaAsgH
import Derived.Laws.MakeOwn
import Derived.OwnWalk
namespace Go.Proofs.Ytedocpocfpopgaa.asgi
open Go.RowKit Go.Proofs.Ytedocpocfpopgaa.ints Go.Proofs.Ytedocpocfpopgaa.lst Go.Proofs.Ytedocpocfpopgaa.in_ Go.Proofs.Ytedocpocfpopgaa.ats Go.Proofs.Ytedocpocfpopgaa.pos Go.Proofs.Ytedocpocfpopgaa.trk Go.Proofs.Ytedocpocfpopgaa.trkm Go.Proofs.Ytedocpocfpopgaa.trke Go.Proofs.Ytedocpocfpopgaa.intc Go.Proofs.Ytedocpocfpopgaa.asg Go.Proofs.Ytedocpocfpopgaa.asgb Go.Proofs.Ytedocpocfpopgaa.asge Go.Proofs.Ytedocpocfpopgaa.rws

theorem infoB : (Try.prog.info? 4).map (fun i => (i.zero, i.size, i.bytes)) = some (some (.bool false), 1, 1) := by kernel_rfl
theorem made_tk (m : Nat) : madeCells (Value.cells (.bool false)) (m * 1) = tkC [] m := by
  refine Array.ext_getElem? fun j => ?_
  by_cases h : j < m
  · rw [tk_at h]
    rw [Array.getElem?_eq_getElem (by simp [madeCells]; omega)]
    simp [madeCells, Value.cells, Nat.mod_one]
  · rw [Array.getElem?_eq_none (by simp [madeCells]; omega), Array.getElem?_eq_none (by rw [tk_size]; omega)]
theorem Ch.grown {B B0 q : Nat} {w w' : World} {u : Value} {ys : List Value} (ho : w.ownsRow B0 3 1 u q ys) (hg : w.grownBy w' u.ownBlock) : ∀ {xs : List Int} {v : Value}, Ch B w v xs → Ch B w' v xs
  | [], _, h => h
  | _ :: _, _, ⟨b, v', e, hB, hh, ht⟩ => ⟨b, v', e, hB, (hg.block b (blk_lt hh) (fun e2 => by
      rcases ho.2 with ⟨rfl, _⟩ | ⟨g, cap, cur, rfl, _, hh', _⟩
      · simp [Value.ownBlock] at e2
      · have e3 : b = g := by simpa [Value.ownBlock] using e2
        subst e3
        have h2 : Obj.cells cur 3 (0, 0) = Obj.cells _ 80 (0, 0) := Option.some.inj (hh'.symm.trans hh)
        injection h2 with _ h3
        exact absurd h3 (by decide))).trans hh, Ch.grown ho hg ht⟩
theorem ptr_inj {a b : Nat} (h : Value.pointer (some ⟨a, 0, none⟩) = .pointer (some ⟨b, 0, none⟩)) : a = b := by injection h with e1; injection e1 with e2; injection e2
theorem app_one (a : List Int) (x : Int) (t : List Int) : a ++ x :: t = (a ++ [x]) ++ t := by simp

set_option maxRecDepth 100000 in
set_option maxHeartbeats 4000000 in
theorem bestAssignment (zs ps : List Int) (g : Int) (A C : Option Addr) (n c m cq : Nat) (w : World) (hn : n ≤ 1048577) (hm : m ≤ 1048577) (h1 : RdZ 6 w w.heap.size A n zs) (h2 : RdZ 2 w w.heap.size C m ps) :
    Calls Try.prog 28 #[.slice A n c, .slice C m cq, .int .i64 g] w fun e w' => ∃ v, e = .returned (.tuple #[v, .int .i64 (beC zs n ps m g), .bool (akB zs n ps m g)]) ∧ w'.ownsRow w.heap.size 3 1 v (beV zs n ps m g).length (cellsI (beV zs n ps m g)) ∧ Below w.heap.size w w' := by
  obtain ⟨iI, hiI, hzI0, hzI1, hzI2⟩ := info_parts infoI
  obtain ⟨ib, hib, hb0, hb1, hb2⟩ := info_parts infoB
  have H1 := Lib.hid (asga.canAssign zs ps g A C n c m cq w hn hm h1 h2)
  cases hq : akB zs n ps m g
  · have HE := Lib.hid (be_no hq)
    rw [hq] at H1
    clear hq h1 h2
    go_enter Try.func28, Try.ntmps28
    go_wp2_with fail
    refine H1.out.mono ?_
    rintro e w1 ⟨rfl, hb⟩
    have HB := Lib.hid hb
    clear hb
    go_wp2_with fail
    go_ret3
    exact ⟨_, by rw [HE.out.2]; rfl, by rw [HE.out.1]; exact World.ownsRow_nil .., HB.out⟩
  rw [hq] at H1
  have HE := Lib.hid (be_yes hq)
  have hm5 := (akB_yes hq).2.2.1
  have hn6 := (tvB_yes (akB_yes hq).1).2
  have HLEN := Lib.hid (show ((bst (pst zs ps) g m n []).1).length ≤ 6 by
    rw [(bst_in (pst_nonneg zs ps) (akB_yes hq).2.2.2 n []).2.2]; exact hn6)
  have MB : ∀ W : World, (Instr.makeSlice 73 (.int .i64 (m : Int)) (.int .i64 (m : Int))).run Try.prog W = .ok (.slice (some ⟨W.heap.size, 0, none⟩) m m) (W.alloc (.cells (tkC [] m) 4)) := fun W => by
    have := run_makeSlice (P := Try.prog) W 73 4 ib (.bool false) Try.underlying73 hib hb0 .i64 .i64 (m : Int) (m : Int) (by omega) (Int.le_refl _) (by rw [hb1]; omega) (by rw [hb2]; omega) (by omega)
    rw [Int.toNat_natCast, hb1, made_tk] at this
    exact this
  have HBST := Lib.hid (fun (sb tb : Nat) (W : World) (h : Sr sb tb n c m cq A C g zs ps W []) => show Calls Try.prog 58 #[.pointer (some ⟨sb, 0, none⟩), .int .i64 0] W (fun e w' => ∃ v, e = .returned (.tuple #[v, .int .i64 (bst (pst zs ps) g m n []).2]) ∧ Ch W.heap.size w' v (bst (pst zs ps) g m n []).1 ∧ Below W.heap.size W w') from asgh.cheapest hq n [] W (Nat.zero_add n) h)
  have HR1 := Lib.hid h1
  have HR2 := Lib.hid h2
  have HZ := Lib.hid (fun (w1 : World) (hb : Below w.heap.size w w1) => show Sr (w1.heap.size + 1) w1.heap.size n c m cq A C g zs ps ((w1.alloc (.cells (tkC [] m) 4)).alloc (.cells #[.slice A n c, .slice C m cq, .int .i64 g, .slice (some ⟨w1.heap.size, 0, none⟩) m m] 75)) [] from by
    have S1 := (newS 4 (tkC [] m) w1).next 75 #[.slice A n c, .slice C m cq, .int .i64 g, .slice (some ⟨w1.heap.size, 0, none⟩) m m]
    have S0 := (newS 4 (tkC [] m) w1).alloc (.cells #[.slice A n c, .slice C m cq, .int .i64 g, .slice (some ⟨w1.heap.size, 0, none⟩) m m] 75)
    rw [World.size_alloc] at S1
    have hbb := hb.trans (S1.1.mono hb.size)
    exact ⟨⟨Nat.lt_succ_self _, S1.2.2.1⟩, S1.cell 0, S1.cell 1, S1.cell 2, S1.cell 3, S0.2.2.2, intc.RdZ.more (h1.below hbb (Nat.le_refl _)) hb.size, intc.RdZ.more (h2.below hbb (Nat.le_refl _)) hb.size⟩)
  rw [HE.out.1, HE.out.2]
  generalize bst (pst zs ps) g m n [] = R at *
  obtain ⟨xs, cs⟩ := R
  clear hq h1 h2 hib hb0 hb1 hb2 HE
  go_enter Try.func28, Try.ntmps28
  go_wp2_with fail
  refine H1.out.mono ?_
  rintro e w1 ⟨rfl, hb⟩
  have HB1 := Lib.hid hb
  have HS := Lib.hid (HZ.out w1 hb)
  have HB2 := Lib.hid ((hb.alloc hb.size (.cells (tkC [] m) 4)).alloc (by rw [World.size_alloc]; have := hb.size; omega) (.cells #[.slice A n c, .slice C m cq, .int .i64 g, .slice (some ⟨w1.heap.size, 0, none⟩) m m] 75))
  have HBSTs := Lib.hid (HBST.out _ _ _ HS.out)
  clear hb HZ H1 HBST HS
  go_wp2_with fail
  refine HBSTs.out.mono ?_
  rintro e W3 ⟨v, rfl, hch, hb⟩
  obtain ⟨a1, rfl⟩ := Ch.ptr hch
  have HC3 := Lib.hid (hch.base HB2.out.size)
  have HB3 := Lib.hid (HB2.out.trans (hb.mono HB2.out.size))
  clear hch hb HBSTs HB2 HB1
  go_wp2_with fail
  go_loopw [12, 13] (fun v q wr => ∃ ys t, xs = ys ++ t ∧ wr.ownsRow w.heap.size 3 1 v ys.length (cellsI ys) ∧ Ch w.heap.size wr q t ∧ Below w.heap.size w wr ∧ t.length = xs.length - ys.length) (fun v _ _ => 6 - (match v with | .slice _ q _ => q | _ => 0))
  case atStart => exact ⟨[], xs, rfl, World.ownsRow_nil .., HC3.out, HB3.out, rfl⟩
  case round =>
    obtain ⟨ys, t, hxs, hO, hch, hb, htl⟩ := hrel
    obtain ⟨A5, c5, rfl⟩ := own_sliceZ hO
    have HO := Lib.hid hO
    have HB := Lib.hid hb
    have HXS := Lib.hid hxs
    have hlen6 := HLEN.out
    cases t with
    | nil =>
      obtain rfl : _ = Value.pointer none := hch
      rw [List.append_nil] at hxs
      have HX := Lib.hid hxs
      clear hO hb hxs htl
      go_wp2_with fail
      go_ret3
      exact ⟨_, rfl, by show _; rw [HX.out]; exact HO.out, HB.out⟩
    | cons x t =>
      obtain ⟨b, v', rfl, hB, hh, hch⟩ := hch
      have c0 : wr.cell? ⟨b, 0, none⟩ = some (.int .i64 x) := cell_of_row _ _ 0 _ _ (0, 0) hh
      have c1 : wr.cell? ⟨b, 1, none⟩ = some v' := cell_of_row _ _ 1 _ _ (0, 0) hh
      have HCH := Lib.hid hch
      have HH := Lib.hid hh
      have hys : ys.length < 6 := by
        have h6 : xs.length ≤ 6 := hlen6
        rw [hxs, List.length_append, List.length_cons] at h6
        omega
      have O5 := Lib.hid (hO.alloc (.cells #[.int .i64 x] 3))
      have B5 := Lib.hid (hb.alloc hb.size (.cells #[.int .i64 x] 3))
      have C5 := Lib.hid (Ch.next (w' := wr.alloc (.cells #[.int .i64 x] 3)) ((Below.refl _ _).alloc (Nat.le_refl _) _) hch)
      have C6 := Lib.hid (show Ch w.heap.size (wr.alloc (.cells #[.int .i64 x] 3)) (.pointer (some ⟨b, 0, none⟩)) (x :: t) from Ch.next (w' := wr.alloc (.cells #[.int .i64 x] 3)) ((Below.refl _ _).alloc (Nat.le_refl _) _) (show Ch w.heap.size wr (.pointer (some ⟨b, 0, none⟩)) (x :: t) from ⟨b, v', rfl, hB, hh, hch⟩))
      have hbs := hb.size
      obtain ⟨av, rfl⟩ := Ch.ptr hch
      clear hO hb hxs htl hch hh hlen6 c1
      go_wp2_with (at_builtin; refine wpList_append_any rfl (.tmp 37) (.tmp 42) 35 rfl w.heap.size 3 iI (.int .i64 0) 1 8 Try.underlying35 hiI hzI0 hzI1 hzI2 rfl (by decide) _ ys.length (cellsI ys) rfl O5.out ⟨wr.heap.size, 0, none⟩ 1 1 [.int .i64 x] rfl rfl (cell_one_new _ _ _) (own_.one_cell _ rfl) (by unfold maxLen; omega) (by omega) (by rw [World.size_alloc]; omega) ?_; intro v6 w6 o6 g6 n6; obtain ⟨A6, c6, rfl⟩ := own_sliceZ o6; have O6 := Lib.hid (show w6.ownsRow w.heap.size 3 1 (.slice A6 (ys.length + 1) c6) (ys ++ [x]).length (cellsI (ys ++ [x])) from own_growI o6); have B6 := Lib.hid (B5.out.grown g6 B5.out.size (own_.row_ge O5.out)); obtain ⟨b', v'', eb, hB', hh', hch'⟩ := Ch.grown O5.out g6 C6.out; obtain rfl : b = b' := ptr_inj eb; have c1 : w6.cell? ⟨b, 1, none⟩ = some v'' := cell_of_row _ _ 1 _ _ (0, 0) hh'; have HCN := Lib.hid hch'; obtain ⟨aw, rfl⟩ := Ch.ptr hch'; clear eb hh' hch' hB' o6 g6 n6 O5 B5 C5 C6 c0 HCH HH)
      have HX := Lib.hid (HXS.out.trans (app_one ys x t))
      go_wp2_with fail
      go_roundw
      case rel => exact ⟨ys ++ [x], t, HX.out, O6.out, HCN.out, B6.out, by have := congrArg List.length HX.out; simp only [List.length_append, List.length_cons, List.length_nil] at this ⊢; omega⟩
      case measure => simp; omega
end Go.Proofs.Ytedocpocfpopgaa.asgi
