/- impl's coordinatesOf, rangeOf, SpreadOf, nearestMean. -/
import Derived.Test.YtdjcbfeilkepmaaPltL
namespace Go.Proofs.Ytdjcbfeilkepmaa.pltp
open Go.RowKit Go.Proofs.Ytdjcbfeilkepmaa.ints Go.Proofs.Ytdjcbfeilkepmaa.lst Go.Proofs.Ytdjcbfeilkepmaa.in_ Go.Proofs.Ytdjcbfeilkepmaa.ats Go.Proofs.Ytdjcbfeilkepmaa.pos Go.Proofs.Ytdjcbfeilkepmaa.plt Go.Proofs.Ytdjcbfeilkepmaa.pltm Go.Proofs.Ytdjcbfeilkepmaa.plte Go.Proofs.Ytdjcbfeilkepmaa.plti Go.Proofs.Ytdjcbfeilkepmaa.pltj Go.Proofs.Ytdjcbfeilkepmaa.pltk Go.Proofs.Ytdjcbfeilkepmaa.rws Go.Proofs.Ytdjcbfeilkepmaa.tailh

/-- Two rows of numbers of the call's own, apart from each other. -/
def Two (B : Nat) (W : World) (v4 : Value) (n : Nat) (xs : List Int) (v5 : Value) (m : Nat) (ys : List Int) : Prop :=
  W.ownsRow B 3 1 v4 n (cellsI xs) ∧ W.ownsRow B 3 1 v5 m (cellsI ys) ∧ ∀ g, v4.ownBlock = some g → v5.ownBlock ≠ some g
section
variable {B : Nat} {W W' : World} {v4 v5 v' : Value} {n m : Nat} {xs ys : List Int} {z : Int}
theorem Two.below (h : Two B W v4 n xs v5 m ys) (hb : Below W.heap.size W W') : Two B W' v4 n xs v5 m ys := ⟨own_.own_below h.1 hb, own_.own_below h.2.1 hb, h.2.2⟩
theorem Two.left (h : Two B W v4 n xs v5 m ys) (hg : W.grownBy W' v4.ownBlock) (ho : W'.ownsRow B 3 1 v' (n + 1) (cellsI xs ++ [.int .i64 z])) (hv : v'.ownBlock = v4.ownBlock ∨ v'.ownBlock = some W.heap.size) : Two B W' v' (n + 1) (xs ++ [z]) v5 m ys := by
  refine ⟨by unfold cellsI at ho ⊢; rw [List.map_append]; exact ho, h.2.1.kept hg ?_, fun g hg' => ?_⟩
  · cases h5 : v5.ownBlock with
    | none => exact .inl rfl
    | some q => exact .inr (fun e => h.2.2 q e.symm h5)
  · rcases hv with h1 | h1
    · exact h.2.2 g (h1.symm.trans hg')
    · intro h2
      have := h1.symm.trans hg'
      injection this with this
      have := (h.2.1.lt g h2).2
      omega
theorem Two.right (h : Two B W v4 n xs v5 m ys) (hg : W.grownBy W' v5.ownBlock) (ho : W'.ownsRow B 3 1 v' (m + 1) (cellsI ys ++ [.int .i64 z])) (hv : v'.ownBlock = v5.ownBlock ∨ v'.ownBlock = some W.heap.size) : Two B W' v4 n xs v' (m + 1) (ys ++ [z]) := by
  refine ⟨h.1.kept hg ?_, by unfold cellsI at ho ⊢; rw [List.map_append]; exact ho, fun g hg' => ?_⟩
  · cases h5 : v4.ownBlock with
    | none => exact .inl rfl
    | some q => exact .inr (fun e => h.2.2 q h5 e.symm)
  · rcases hv with h1 | h1
    · rw [h1]; exact h.2.2 g hg'
    · intro h2
      have := h1.symm.trans h2
      injection this with this
      have := (h.1.lt g hg').2
      omega
end

set_option maxRecDepth 100000 in
set_option maxHeartbeats 4000000 in
theorem coordinatesOf (zs : List Int) (q : List Nat) (A : Option Addr) (n c : Nat) (w : World) (hq : q.length = n) (hn : n ≤ 20) (h1 : RdZ 5 w w.heap.size A n (flatI zs q)) :
    Calls Try.prog 93 #[.slice A n c] w fun e w' => ∃ v4 v5, e = .returned (.tuple #[v4, v5]) ∧ Two w.heap.size w' v4 n (cx zs 3 q) v5 n (cx zs 4 q) ∧ Below w.heap.size w w' := by
  obtain ⟨iI, hiI, hzI0, hzI1, hzI2⟩ := info_parts infoI
  have HR := Lib.hid h1
  clear h1
  go_enter Try.func93, Try.ntmps93
  go_wp2_with fail
  go_loopw [4, 5, 10] (fun v4 v5 i wr => ∃ k : Nat, k ≤ n ∧ i = .int .i64 k ∧ Two w.heap.size wr v4 k (cx zs 3 (q.take k)) v5 k (cx zs 4 (q.take k)) ∧ Below w.heap.size w wr) (fun _ _ i _ => n - (intOf i).toNat)
  case atStart => exact ⟨0, Nat.zero_le _, rfl, ⟨World.ownsRow_nil .., World.ownsRow_nil .., fun g h => by cases h⟩, Below.refl _ _⟩
  case round =>
    obtain ⟨k, hk, rfl, hT, hb⟩ := hrel
    by_cases hlt : k < n
    · obtain ⟨m, hm⟩ : ∃ m, q[k]? = some m := ⟨_, List.getElem?_eq_getElem (by rw [hq]; exact hlt)⟩
      obtain ⟨b1, o1, rfl, -, p0, p1, p2, p3, p4⟩ := cellsE (HR.out.below hb (Nat.le_refl _)) hlt
      rw [flat_fld hm (by decide)] at p0 p1 p2 p3 p4
      have HX := Lib.hid (cx_take (zs := zs) (j := 3) hm)
      have HY := Lib.hid (cx_take (zs := zs) (j := 4) hm)
      have hlt2 : (k : Int) < (n : Int) := by omega
      have hbs := hb.size
      have HT := Lib.hid hT
      have HB := Lib.hid hb
      clear hT hb hm hq
      generalize cx zs 3 (q.take k) = xs at *
      generalize cx zs 4 (q.take k) = ys at *
      generalize fld 5 zs m 0 = u0 at *
      generalize fld 5 zs m 1 = u1 at *
      generalize fld 5 zs m 2 = u2 at *
      generalize fld 5 zs m 3 = x at *
      generalize fld 5 zs m 4 = y at *
      go_upto_region 5 with fail
      have NX := newS 53 #[.int .i64 u0, .int .i64 u1, .int .i64 u2, .int .i64 x, .int .i64 y] wr
      have ND := NX.drew
      have TD := HT.out.below ND.1
      have S0 := Lib.hid (show World.cell? (wr.alloc (.cells #[.int .i64 u0, .int .i64 u1, .int .i64 u2, .int .i64 x, .int .i64 y] 53)).drew ⟨wr.heap.size, 3, none⟩ = some (.int .i64 x) ∧ World.cell? (wr.alloc (.cells #[.int .i64 u0, .int .i64 u1, .int .i64 u2, .int .i64 x, .int .i64 y] 53)).drew ⟨wr.heap.size, 4, none⟩ = some (.int .i64 y) from ⟨ND.cell 3, ND.cell 4⟩)
      have T0 := Lib.hid TD
      have B0 := Lib.hid (HB.out.trans (ND.1.mono hbs))
      have NB4 := Lib.hid (show u4.ownBlock ≠ some wr.heap.size from fun e => by have := (HT.out.1.lt _ e).2; omega)
      have NB5 := Lib.hid (show u5.ownBlock ≠ some wr.heap.size from fun e => by have := (HT.out.2.1.lt _ e).2; omega)
      clear p0 p1 p2 p3 p4 NX ND TD
      generalize hbx : wr.heap.size = bx at *
      clear hbx
      refine wp_region_tail (S := fun w' => World.cell? w' ⟨bx, 3, none⟩ = some (.int .i64 x) ∧ World.cell? w' ⟨bx, 4, none⟩ = some (.int .i64 y)) 13 (by kernel_rfl) S0.out (fun hHeld => ?_)
      generalize (wr.alloc (.cells #[.int .i64 u0, .int .i64 u1, .int .i64 u2, .int .i64 x, .int .i64 y] 53)).drew = W0 at *
      try simp only [Act.put]
      refine wpAnyE_take (i := 0) (v := ?vq0) rfl (by decide +kernel) (fun _ _ _ h => h) (Or.inl ⟨by rfl, ?hq0⟩) (by assumption) ?rq0
      case hq0 =>
        intro wS hSw
        obtain ⟨h0, h1⟩ := hSw
        go_simp
        try with_reducible rfl
      try simp only [Act.put]
      refine wpAnyE_take (i := 1) (v := ?vq1) rfl (by decide +kernel) (fun _ _ _ h => h) (Or.inl ⟨by rfl, ?hq1⟩) (by assumption) ?rq1
      case hq1 =>
        intro wS hSw
        obtain ⟨h0, h1⟩ := hSw
        go_simp
        try with_reducible rfl
      try simp only [Act.put]
      refine wpAnyE_take (i := 2) (v := ?vq2) rfl (by decide +kernel) (fun _ _ _ h => h) (Or.inl ⟨by rfl, ?hq2⟩) (by assumption) ?rq2
      case hq2 =>
        intro wS hSw
        obtain ⟨h0, h1⟩ := hSw
        go_simp
        try with_reducible rfl
      try simp only [Act.put]
      refine wpAnyE_take (i := 3) (v := ?vq3) rfl (by decide +kernel) (fun _ _ _ h => h) (Or.inl ⟨by rfl, ?hq3⟩) (by assumption) ?rq3
      case hq3 =>
        intro wS hSw
        obtain ⟨h0, h1⟩ := hSw
        go_simp
        try with_reducible rfl
      try simp only [Act.put]
      refine wpAnyE_take (i := 6) (v := ?vq6) rfl (by decide +kernel) (fun _ _ _ h => h) (Or.inl ⟨by rfl, ?hq6⟩) (by assumption) ?rq6
      case hq6 =>
        intro wS hSw
        obtain ⟨h0, h1⟩ := hSw
        go_simp
        try with_reducible rfl
      try simp only [Act.put]
      refine wpAnyE_take (i := 7) (v := ?vq7) rfl (by decide +kernel) (fun _ _ _ h => h) (Or.inl ⟨by rfl, ?hq7⟩) (by assumption) ?rq7
      case hq7 =>
        intro wS hSw
        obtain ⟨h0, h1⟩ := hSw
        go_simp
        try with_reducible rfl
      try simp only [Act.put]
      refine wpAnyE_take (i := 8) (v := ?vq8) rfl (by decide +kernel) (fun _ _ _ h => h) (Or.inl ⟨by rfl, ?hq8⟩) (by assumption) ?rq8
      case hq8 =>
        intro wS hSw
        obtain ⟨h0, h1⟩ := hSw
        go_simp
        try with_reducible rfl
      try simp only [Act.put]
      refine wpAnyE_take (i := 9) (v := ?vq9) rfl (by decide +kernel) (fun _ _ _ h => h) (Or.inl ⟨by rfl, ?hq9⟩) (by assumption) ?rq9
      case hq9 =>
        intro wS hSw
        obtain ⟨h0, h1⟩ := hSw
        go_simp
        try with_reducible rfl
      try simp only [Act.put]
      refine wpAnyE_ready (rs := [4, 10]) (by kernel_rfl) (by simp) ?_
      refine AllReadyE.cons (i := 4) rfl (by decide) (fun K hK => ?_) (AllReadyE.cons (i := 10) rfl (by decide) (fun K hK => ?_) AllReadyE.nil)
      · go_simp
        have A2 := (Below.refl W0.heap.size W0).alloc (Nat.le_refl _) (.cells #[.int .i64 x] 3)
        have T3 := Lib.hid (T0.out.below A2)
        have S4 := Lib.hid (show World.cell? (W0.alloc (.cells #[.int .i64 x] 3)) ⟨bx, 3, none⟩ = some (.int .i64 x) ∧ World.cell? (W0.alloc (.cells #[.int .i64 x] 3)) ⟨bx, 4, none⟩ = some (.int .i64 y) from ⟨(A2.cell (World.block_lt_of_cell? _ _ S0.out.1)).trans S0.out.1, (A2.cell (World.block_lt_of_cell? _ _ S0.out.2)).trans S0.out.2⟩)
        have B5 := Lib.hid (B0.out.trans (A2.mono B0.out.size))
        have P6 := Lib.hid (cell_one_new W0 (.int .i64 x) 3)
        have M7 := Lib.hid (show u5.ownBlock ≠ some W0.heap.size from fun e => by have := (T0.out.2.1.lt _ e).2; omega)
        refine hK.out _ _ S4.out (fun hHeld => ?_)
        clear hK K A2
        try simp only [Act.put]
        generalize W0.alloc (.cells #[.int .i64 x] 3) = W1 at *
        refine wpAnyE_ready (rs := [5, 10]) (by kernel_rfl) (by simp) ?_
        refine AllReadyE.cons (i := 5) rfl (by decide) (fun K hK => ?_) (AllReadyE.cons (i := 10) rfl (by decide) (fun K hK => ?_) AllReadyE.nil)
        · refine step_append_sz rfl (.tmp 14) (.tmp 18) 28 rfl w.heap.size 3 iI (.int .i64 0) 1 8 Try.underlying28 hiI hzI0 hzI1 hzI2 rfl (by decide) u4 k (cellsI xs) rfl T3.out.1 ⟨W0.heap.size, 0, none⟩ 1 1 [.int .i64 x] rfl rfl P6.out (own_.one_cell _ rfl) (by unfold maxLen; omega) (by omega) B5.out.size ?_
          intro v15 W8 o12 g13 r14
          have T9 := Lib.hid (T3.out.left g13 o12 r14)
          have S10 := Lib.hid (show World.cell? W8 ⟨bx, 3, none⟩ = some (.int .i64 x) ∧ World.cell? W8 ⟨bx, 4, none⟩ = some (.int .i64 y) from ⟨g13.cell S4.out.1 (fun e => NB4.out e.symm), g13.cell S4.out.2 (fun e => NB4.out e.symm)⟩)
          have B11 := Lib.hid (B5.out.grown g13 B5.out.size (own_.row_ge T3.out.1))
          have N16 := Lib.hid (show v15.ownBlock ≠ some bx from fun e => by
            rcases r14 with h | h
            · exact NB4.out (h.symm.trans e)
            · have := h.symm.trans e
              injection this with this
              have := World.block_lt_of_cell? _ _ S4.out.1
              simp at this
              omega)
          clear g13 o12 r14
          refine hK.out _ _ S10.out (fun hHeld => ?_)
          clear hK K
          try simp only [Act.put]
          refine wpAnyE_ready (rs := [10]) (by kernel_rfl) (by simp) ?_
          refine AllReadyE.cons (i := 10) rfl (by decide) (fun K hK => ?_) AllReadyE.nil
          go_simp
          have A18 := (Below.refl W8.heap.size W8).alloc (Nat.le_refl _) (.cells #[.int .i64 y] 3)
          have T19 := Lib.hid (T9.out.below A18)
          have S20 := Lib.hid (show World.cell? (W8.alloc (.cells #[.int .i64 y] 3)) ⟨bx, 3, none⟩ = some (.int .i64 x) ∧ World.cell? (W8.alloc (.cells #[.int .i64 y] 3)) ⟨bx, 4, none⟩ = some (.int .i64 y) from ⟨(A18.cell (World.block_lt_of_cell? _ _ S10.out.1)).trans S10.out.1, (A18.cell (World.block_lt_of_cell? _ _ S10.out.2)).trans S10.out.2⟩)
          have B21 := Lib.hid (B11.out.trans (A18.mono B11.out.size))
          have P22 := Lib.hid (cell_one_new W8 (.int .i64 y) 3)
          have M23 := Lib.hid (show v15.ownBlock ≠ some W8.heap.size from fun e => by have := (T9.out.1.lt _ e).2; omega)
          refine hK.out _ _ S20.out (fun hHeld => ?_)
          clear hK K A18
          try simp only [Act.put]
          generalize W8.alloc (.cells #[.int .i64 y] 3) = W17 at *
          refine wpAnyE_ready (rs := [11]) (by kernel_rfl) (by simp) ?_
          refine AllReadyE.cons (i := 11) rfl (by decide) (fun K hK => ?_) AllReadyE.nil
          refine step_append_sz rfl (.tmp 20) (.tmp 24) 28 rfl w.heap.size 3 iI (.int .i64 0) 1 8 Try.underlying28 hiI hzI0 hzI1 hzI2 rfl (by decide) u5 k (cellsI ys) rfl T19.out.2.1 ⟨W8.heap.size, 0, none⟩ 1 1 [.int .i64 y] rfl rfl P22.out (own_.one_cell _ rfl) (by unfold maxLen; omega) (by omega) B21.out.size ?_
          intro v31 W24 o28 g29 r30
          have T25 := Lib.hid (T19.out.right g29 o28 r30)
          have S26 := Lib.hid (show World.cell? W24 ⟨bx, 3, none⟩ = some (.int .i64 x) ∧ World.cell? W24 ⟨bx, 4, none⟩ = some (.int .i64 y) from ⟨g29.cell S20.out.1 (fun e => NB5.out e.symm), g29.cell S20.out.2 (fun e => NB5.out e.symm)⟩)
          have B27 := Lib.hid (B21.out.grown g29 B21.out.size (own_.row_ge T19.out.2.1))
          have N32 := Lib.hid (show v31.ownBlock ≠ some bx from fun e => by
            rcases r30 with h | h
            · exact NB5.out (h.symm.trans e)
            · have := h.symm.trans e
              injection this with this
              have := World.block_lt_of_cell? _ _ S20.out.1
              simp at this
              omega)
          clear g29 o28 r30
          refine hK.out _ _ S26.out (fun hHeld => ?_)
          clear hK K
          try simp only [Act.put]
          refine wpAnyE_ready (rs := [12]) (by kernel_rfl) (by simp) ?_
          refine AllReadyE.cons (i := 12) rfl (by decide) (fun K hK => ?_) AllReadyE.nil
          go_simp
          refine hK.out _ _ S26.out (fun hHeld => ?_)
          clear hK K
          try simp only [Act.put]
          refine wpAnyE_ready (rs := [13]) (by kernel_rfl) (by simp) ?_
          refine AllReadyE.last (i := 13) rfl rfl (fun K hK => ?_)
          go_simp
          refine hK.out _ _ ?_
          clear hK K
          try simp only [Act.put]
          refine wpAnyE_done (by kernel_rfl) ?_ _
          try simp only [List.getElem_toArray, List.getElem_cons_succ, List.getElem_cons_zero, List.setIfInBounds_toArray, List.set_cons_succ, List.set_cons_zero]
          go_wp2_with fail
          go_roundw
          case rel => exact ⟨k + 1, by omega, by go_num, by rw [HX.out, HY.out]; exact T25.out, B27.out⟩
          case measure => simp [intOf]; omega
        · go_simp
          have A34 := (Below.refl W1.heap.size W1).alloc (Nat.le_refl _) (.cells #[.int .i64 y] 3)
          have T35 := Lib.hid (T3.out.below A34)
          have S36 := Lib.hid (show World.cell? (W1.alloc (.cells #[.int .i64 y] 3)) ⟨bx, 3, none⟩ = some (.int .i64 x) ∧ World.cell? (W1.alloc (.cells #[.int .i64 y] 3)) ⟨bx, 4, none⟩ = some (.int .i64 y) from ⟨(A34.cell (World.block_lt_of_cell? _ _ S4.out.1)).trans S4.out.1, (A34.cell (World.block_lt_of_cell? _ _ S4.out.2)).trans S4.out.2⟩)
          have B37 := Lib.hid (B5.out.trans (A34.mono B5.out.size))
          have P38 := Lib.hid (cell_one_new W1 (.int .i64 y) 3)
          have P39 := Lib.hid (fun j u hu => (A34.cell (World.block_lt_of_cell? _ _ (P6.out j u hu))).trans (P6.out j u hu))
          have M40 := Lib.hid (show u4.ownBlock ≠ some W1.heap.size from fun e => by have := (T3.out.1.lt _ e).2; omega)
          refine hK.out _ _ S36.out (fun hHeld => ?_)
          clear hK K A34
          try simp only [Act.put]
          generalize W1.alloc (.cells #[.int .i64 y] 3) = W33 at *
          refine wpAnyE_ready (rs := [5]) (by kernel_rfl) (by simp) ?_
          refine AllReadyE.cons (i := 5) rfl (by decide) (fun K hK => ?_) AllReadyE.nil
          refine step_append_sz rfl (.tmp 14) (.tmp 18) 28 rfl w.heap.size 3 iI (.int .i64 0) 1 8 Try.underlying28 hiI hzI0 hzI1 hzI2 rfl (by decide) u4 k (cellsI xs) rfl T35.out.1 ⟨W0.heap.size, 0, none⟩ 1 1 [.int .i64 x] rfl rfl P39.out (own_.one_cell _ rfl) (by unfold maxLen; omega) (by omega) B37.out.size ?_
          intro v48 W41 o45 g46 r47
          have T42 := Lib.hid (T35.out.left g46 o45 r47)
          have S43 := Lib.hid (show World.cell? W41 ⟨bx, 3, none⟩ = some (.int .i64 x) ∧ World.cell? W41 ⟨bx, 4, none⟩ = some (.int .i64 y) from ⟨g46.cell S36.out.1 (fun e => NB4.out e.symm), g46.cell S36.out.2 (fun e => NB4.out e.symm)⟩)
          have B44 := Lib.hid (B37.out.grown g46 B37.out.size (own_.row_ge T35.out.1))
          have N49 := Lib.hid (show v48.ownBlock ≠ some bx from fun e => by
            rcases r47 with h | h
            · exact NB4.out (h.symm.trans e)
            · have := h.symm.trans e
              injection this with this
              have := World.block_lt_of_cell? _ _ S36.out.1
              simp at this
              omega)
          have P50 := Lib.hid (fun j u hu => g46.cell (P38.out j u hu) (fun e => M40.out (by rw [Addr.add_lit] at e; exact e.symm)))
          clear g46 o45 r47
          refine hK.out _ _ S43.out (fun hHeld => ?_)
          clear hK K
          try simp only [Act.put]
          refine wpAnyE_ready (rs := [11]) (by kernel_rfl) (by simp) ?_
          refine AllReadyE.cons (i := 11) rfl (by decide) (fun K hK => ?_) AllReadyE.nil
          refine step_append_sz rfl (.tmp 20) (.tmp 24) 28 rfl w.heap.size 3 iI (.int .i64 0) 1 8 Try.underlying28 hiI hzI0 hzI1 hzI2 rfl (by decide) u5 k (cellsI ys) rfl T42.out.2.1 ⟨W1.heap.size, 0, none⟩ 1 1 [.int .i64 y] rfl rfl P50.out (own_.one_cell _ rfl) (by unfold maxLen; omega) (by omega) B44.out.size ?_
          intro v58 W51 o55 g56 r57
          have T52 := Lib.hid (T42.out.right g56 o55 r57)
          have S53 := Lib.hid (show World.cell? W51 ⟨bx, 3, none⟩ = some (.int .i64 x) ∧ World.cell? W51 ⟨bx, 4, none⟩ = some (.int .i64 y) from ⟨g56.cell S43.out.1 (fun e => NB5.out e.symm), g56.cell S43.out.2 (fun e => NB5.out e.symm)⟩)
          have B54 := Lib.hid (B44.out.grown g56 B44.out.size (own_.row_ge T42.out.2.1))
          have N59 := Lib.hid (show v58.ownBlock ≠ some bx from fun e => by
            rcases r57 with h | h
            · exact NB5.out (h.symm.trans e)
            · have := h.symm.trans e
              injection this with this
              have := World.block_lt_of_cell? _ _ S43.out.1
              simp at this
              omega)
          clear g56 o55 r57
          refine hK.out _ _ S53.out (fun hHeld => ?_)
          clear hK K
          try simp only [Act.put]
          refine wpAnyE_ready (rs := [12]) (by kernel_rfl) (by simp) ?_
          refine AllReadyE.cons (i := 12) rfl (by decide) (fun K hK => ?_) AllReadyE.nil
          go_simp
          refine hK.out _ _ S53.out (fun hHeld => ?_)
          clear hK K
          try simp only [Act.put]
          refine wpAnyE_ready (rs := [13]) (by kernel_rfl) (by simp) ?_
          refine AllReadyE.last (i := 13) rfl rfl (fun K hK => ?_)
          go_simp
          refine hK.out _ _ ?_
          clear hK K
          try simp only [Act.put]
          refine wpAnyE_done (by kernel_rfl) ?_ _
          try simp only [List.getElem_toArray, List.getElem_cons_succ, List.getElem_cons_zero, List.setIfInBounds_toArray, List.set_cons_succ, List.set_cons_zero]
          go_wp2_with fail
          go_roundw
          case rel => exact ⟨k + 1, by omega, by go_num, by rw [HX.out, HY.out]; exact T52.out, B54.out⟩
          case measure => simp [intOf]; omega
      · go_simp
        have A61 := (Below.refl W0.heap.size W0).alloc (Nat.le_refl _) (.cells #[.int .i64 y] 3)
        have T62 := Lib.hid (T0.out.below A61)
        have S63 := Lib.hid (show World.cell? (W0.alloc (.cells #[.int .i64 y] 3)) ⟨bx, 3, none⟩ = some (.int .i64 x) ∧ World.cell? (W0.alloc (.cells #[.int .i64 y] 3)) ⟨bx, 4, none⟩ = some (.int .i64 y) from ⟨(A61.cell (World.block_lt_of_cell? _ _ S0.out.1)).trans S0.out.1, (A61.cell (World.block_lt_of_cell? _ _ S0.out.2)).trans S0.out.2⟩)
        have B64 := Lib.hid (B0.out.trans (A61.mono B0.out.size))
        have P65 := Lib.hid (cell_one_new W0 (.int .i64 y) 3)
        have M66 := Lib.hid (show u4.ownBlock ≠ some W0.heap.size from fun e => by have := (T0.out.1.lt _ e).2; omega)
        refine hK.out _ _ S63.out (fun hHeld => ?_)
        clear hK K A61
        try simp only [Act.put]
        generalize W0.alloc (.cells #[.int .i64 y] 3) = W60 at *
        refine wpAnyE_ready (rs := [4]) (by kernel_rfl) (by simp) ?_
        refine AllReadyE.cons (i := 4) rfl (by decide) (fun K hK => ?_) AllReadyE.nil
        go_simp
        have A68 := (Below.refl W60.heap.size W60).alloc (Nat.le_refl _) (.cells #[.int .i64 x] 3)
        have T69 := Lib.hid (T62.out.below A68)
        have S70 := Lib.hid (show World.cell? (W60.alloc (.cells #[.int .i64 x] 3)) ⟨bx, 3, none⟩ = some (.int .i64 x) ∧ World.cell? (W60.alloc (.cells #[.int .i64 x] 3)) ⟨bx, 4, none⟩ = some (.int .i64 y) from ⟨(A68.cell (World.block_lt_of_cell? _ _ S63.out.1)).trans S63.out.1, (A68.cell (World.block_lt_of_cell? _ _ S63.out.2)).trans S63.out.2⟩)
        have B71 := Lib.hid (B64.out.trans (A68.mono B64.out.size))
        have P72 := Lib.hid (cell_one_new W60 (.int .i64 x) 3)
        have P73 := Lib.hid (fun j u hu => (A68.cell (World.block_lt_of_cell? _ _ (P65.out j u hu))).trans (P65.out j u hu))
        have M74 := Lib.hid (show u5.ownBlock ≠ some W60.heap.size from fun e => by have := (T62.out.2.1.lt _ e).2; omega)
        refine hK.out _ _ S70.out (fun hHeld => ?_)
        clear hK K A68
        try simp only [Act.put]
        generalize W60.alloc (.cells #[.int .i64 x] 3) = W67 at *
        refine wpAnyE_ready (rs := [5]) (by kernel_rfl) (by simp) ?_
        refine AllReadyE.cons (i := 5) rfl (by decide) (fun K hK => ?_) AllReadyE.nil
        refine step_append_sz rfl (.tmp 14) (.tmp 18) 28 rfl w.heap.size 3 iI (.int .i64 0) 1 8 Try.underlying28 hiI hzI0 hzI1 hzI2 rfl (by decide) u4 k (cellsI xs) rfl T69.out.1 ⟨W60.heap.size, 0, none⟩ 1 1 [.int .i64 x] rfl rfl P72.out (own_.one_cell _ rfl) (by unfold maxLen; omega) (by omega) B71.out.size ?_
        intro v82 W75 o79 g80 r81
        have T76 := Lib.hid (T69.out.left g80 o79 r81)
        have S77 := Lib.hid (show World.cell? W75 ⟨bx, 3, none⟩ = some (.int .i64 x) ∧ World.cell? W75 ⟨bx, 4, none⟩ = some (.int .i64 y) from ⟨g80.cell S70.out.1 (fun e => NB4.out e.symm), g80.cell S70.out.2 (fun e => NB4.out e.symm)⟩)
        have B78 := Lib.hid (B71.out.grown g80 B71.out.size (own_.row_ge T69.out.1))
        have N83 := Lib.hid (show v82.ownBlock ≠ some bx from fun e => by
          rcases r81 with h | h
          · exact NB4.out (h.symm.trans e)
          · have := h.symm.trans e
            injection this with this
            have := World.block_lt_of_cell? _ _ S70.out.1
            simp at this
            omega)
        have P84 := Lib.hid (fun j u hu => g80.cell (P73.out j u hu) (fun e => M66.out (by rw [Addr.add_lit] at e; exact e.symm)))
        clear g80 o79 r81
        refine hK.out _ _ S77.out (fun hHeld => ?_)
        clear hK K
        try simp only [Act.put]
        refine wpAnyE_ready (rs := [11]) (by kernel_rfl) (by simp) ?_
        refine AllReadyE.cons (i := 11) rfl (by decide) (fun K hK => ?_) AllReadyE.nil
        refine step_append_sz rfl (.tmp 20) (.tmp 24) 28 rfl w.heap.size 3 iI (.int .i64 0) 1 8 Try.underlying28 hiI hzI0 hzI1 hzI2 rfl (by decide) u5 k (cellsI ys) rfl T76.out.2.1 ⟨W0.heap.size, 0, none⟩ 1 1 [.int .i64 y] rfl rfl P84.out (own_.one_cell _ rfl) (by unfold maxLen; omega) (by omega) B78.out.size ?_
        intro v92 W85 o89 g90 r91
        have T86 := Lib.hid (T76.out.right g90 o89 r91)
        have S87 := Lib.hid (show World.cell? W85 ⟨bx, 3, none⟩ = some (.int .i64 x) ∧ World.cell? W85 ⟨bx, 4, none⟩ = some (.int .i64 y) from ⟨g90.cell S77.out.1 (fun e => NB5.out e.symm), g90.cell S77.out.2 (fun e => NB5.out e.symm)⟩)
        have B88 := Lib.hid (B78.out.grown g90 B78.out.size (own_.row_ge T76.out.2.1))
        have N93 := Lib.hid (show v92.ownBlock ≠ some bx from fun e => by
          rcases r91 with h | h
          · exact NB5.out (h.symm.trans e)
          · have := h.symm.trans e
            injection this with this
            have := World.block_lt_of_cell? _ _ S77.out.1
            simp at this
            omega)
        clear g90 o89 r91
        refine hK.out _ _ S87.out (fun hHeld => ?_)
        clear hK K
        try simp only [Act.put]
        refine wpAnyE_ready (rs := [12]) (by kernel_rfl) (by simp) ?_
        refine AllReadyE.cons (i := 12) rfl (by decide) (fun K hK => ?_) AllReadyE.nil
        go_simp
        refine hK.out _ _ S87.out (fun hHeld => ?_)
        clear hK K
        try simp only [Act.put]
        refine wpAnyE_ready (rs := [13]) (by kernel_rfl) (by simp) ?_
        refine AllReadyE.last (i := 13) rfl rfl (fun K hK => ?_)
        go_simp
        refine hK.out _ _ ?_
        clear hK K
        try simp only [Act.put]
        refine wpAnyE_done (by kernel_rfl) ?_ _
        try simp only [List.getElem_toArray, List.getElem_cons_succ, List.getElem_cons_zero, List.setIfInBounds_toArray, List.set_cons_succ, List.set_cons_zero]
        go_wp2_with fail
        go_roundw
        case rel => exact ⟨k + 1, by omega, by go_num, by rw [HX.out, HY.out]; exact T86.out, B88.out⟩
        case measure => simp [intOf]; omega
    · obtain rfl : k = n := by omega
      rw [← hq, List.take_length] at hT
      have HT := Lib.hid hT
      clear hT
      go_wp2_with fail
      go_ret2
      exact ⟨_, _, rfl, by rw [hq] at HT; exact HT.out, hb⟩
end Go.Proofs.Ytdjcbfeilkepmaa.pltp
